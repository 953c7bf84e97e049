/- The law CodeDecodes holds: decoding answers what the document asks, error for error and byte for byte, and leaves the given shards as they were, at all numbers and lists of shards; no condition but what the card ties. -/
import Derived.Test.YtmlpijlcpeoeaaaDoorGfDot
import Derived.ProofKit
import Derived.OpenShut
import Derived.SizedLaws
import Derived.Lib.SmallJoins
import Derived.Test.YtmlpijlcpeoeaaaDoorMatO
import Derived.Test.YtmlpijlcpeoeaaaDoorOwn
import Derived.Deep.Matrix
import Derived.Test.YtmlpijlcpeoeaaaDoorJCodeDecodes1
import Derived.Deep.Strs
import Derived.BigRegion
import Derived.Test.YtmlpijlcpeoeaaaDoorJCodeDecodes2
import Derived.Test.YtmlpijlcpeoeaaaDoorSolveF
import Derived.Test.YtmlpijlcpeoeaaaDoorMatTake
import Derived.Test.YtmlpijlcpeoeaaaDoorRegHeld
import Derived.Test.YtmlpijlcpeoeaaaDoorHolds
import Derived.Deep.DeepCutAuto
import Derived.Test.YtmlpijlcpeoeaaaDoorRows
import Derived.Test.YtmlpijlcpeoeaaaDoorCards
import Derived.Test.YtmlpijlcpeoeaaaDoorTie
import Derived.WalkKit
import Derived.ShutString
import Derived.ChangeOld
import Derived.Below
import Derived.Lay
import Derived.SevenTiedAt
import Derived.Stop.Joined
/- How a list of bytes that came in is read: facts for the frames of the laws; nothing of the program is proved here. -/
namespace Go.Proofs.YtmlpijlcpeoeaaaDoor
open Go.ChangeShapes Go.WideShapes Go.ChangeAt Go.RowKit Gf
set_option maxRecDepth 20000
theorem own : ownKnob Tryd.prog.godebug = none := by kernel_rfl
theorem laidOut : laidOutB Tryd.prog = true := by kernel_rfl
theorem bytes8 : Tryd.prog.bytesOf 5 = 1 := by kernel_rfl
theorem getD_get {α : Type} (l : List α) (j : Nat) (d : α) (h : j < l.length) : l.getD j d = l[j] := by simp [List.getD, h]
theorem open8_cells {H : Type} {enc : TypeId × Value → H} {W : World} {cs : List Value} {x : DataW H × List MemPlace} {fuel : Nat}
    (h : DataW.trod enc Tryd.prog W 0 (fun _ => true) true fuel 22 cs = some x) :
    ∃ a len cap xs, cs = [.slice a len cap] ∧ len = xs.length ∧ len ≤ cap ∧ Row8 W a xs ∧ (x.1 = .nil ∧ a = none ∧ cap = 0 ∨ ∃ es sp, x.1 = .slice es sp ∧ es.length + sp.length = cap) ∧ (a = none → cap = 0) := by
  rcases open_ints Tryd.underlying22 Tryd.underlying5 (by kernel_rfl) h with ⟨hcs, hx⟩ | ⟨ad, l, c, zs, hcs, _, hl, hm, hz, hx, hcell, hwz⟩
  · exact ⟨none, 0, 0, [], hcs, rfl, Nat.le_refl _, .inl rfl, .inl ⟨by rw [hx], rfl, rfl⟩, fun _ => rfl⟩
  · have hz' : zs.length = c := by simpa using hz
    refine ⟨some ad, l, c, (zs.take l).map toF, hcs, by simp; omega, hl, ?_, .inr ⟨_, _, by rw [hx], by simp [lits]; omega⟩, fun e => by cases e⟩
    by_cases h0 : l = 0
    · left; simp [h0]
    · right
      have hc := hcell 0 (by omega)
      obtain ⟨b, off, spot⟩ := ad
      have hspot : spot = none := by simpa [Addr.add] using World.cell?_spot hc
      subst hspot
      refine ⟨b, off, rfl, fun j hj => ?_⟩
      have hj' : j < l := by simp at hj; omega
      have hcj := hcell j (by omega)
      have hw := hwz (zs.getD j 0) (by
        rw [getD_get _ _ _ (by omega)]; exact List.getElem_mem _)
      have hb := bounds_u8 hw
      have e : ((at8 ((zs.take l).map toF) j).toNat : Int) = zs.getD j 0 := by
        unfold at8
        rw [getD_get _ _ _ (by simp; omega)]
        simp only [List.getElem_map, List.getElem_take]
        rw [getD_get _ _ _ (by omega)] at hb ⊢
        exact val_toF hb.1 hb.2
      rw [e, ← hcj]
      by_cases hj0 : j = 0
      · subst hj0; rfl
      · simp [Addr.add, hj0]
theorem open8 {H : Type} {enc : TypeId × Value → H} {W : World} {v : Value} {d : DataW H} {p : List MemPlace} {base : Nat}
    (hv : Value.okWide Tryd.prog W .any base 22 v) (h : DataW.Trod enc Tryd.prog W 0 (fun _ => true) true 22 v d p) :
    ∃ a len cap xs, v = .slice a len cap ∧ len = xs.length ∧ len ≤ cap ∧ Row8 W a xs ∧ (d = .nil ∧ a = none ∧ cap = 0 ∨ ∃ es sp, d = .slice es sp ∧ es.length + sp.length = cap) ∧ (a = none → cap = 0) := by
  obtain ⟨fuel, hf⟩ := h
  obtain ⟨a, len, cap, xs, hcs, h1, h2, h3, h4, h5⟩ := open8_cells hf
  obtain ⟨a', len', cap', rfl⟩ := okWide_slice Tryd.underlying22 hv
  simp [Value.cells] at hcs
  obtain ⟨rfl, rfl, rfl⟩ := hcs
  exact ⟨_, _, _, xs, rfl, h1, h2, h3, h4, h5⟩
end Go.Proofs.YtmlpijlcpeoeaaaDoor

/- How a matrix, and two numbers, come in: facts for the frames of the laws; nothing of the program is proved here. -/
namespace Go.Proofs.YtmlpijlcpeoeaaaDoor
open Go.ChangeShapes Go.WideShapes Go.ChangeAt Go.RowKit Gf Go.Joins
set_option linter.unusedVariables false
set_option maxRecDepth 20000
theorem cellsMat : Tryd.prog.cellsOf 65 = 3 := by kernel_rfl
theorem cellsInt : Tryd.prog.cellsOf 3 = 1 := by kernel_rfl
/-- a list's datum, and its room -/
def Room2 {H : Type} (d : DataW H) (cap : Nat) : Prop := d = .nil ∧ cap = 0 ∨ ∃ es sp, d = .slice es sp ∧ es.length + sp.length = cap
theorem room2_le {H : Type} {d : DataW H} {cap : Nat} (h : Room2 d cap) (hw : ∀ n ∈ DataW.weights Tryd.prog 22 d, n ≤ reachBytes) : cap ≤ 140737488351232 := by
  rcases h with ⟨_, rfl⟩ | ⟨es, sp, rfl, rfl⟩
  · omega
  · have := hw ((es.length + sp.length) * Tryd.prog.bytesOf 5) (by simp [DataW.weights, Tryd.underlying22])
    rw [bytes8] at this
    simp only [reachBytes] at this
    omega
theorem openMat {H : Type} {enc : TypeId × Value → H} {W : World} {v : Value} {d : DataW H} {p : List MemPlace} {base : Nat} {ts : List TypeId} {ds : List (DataW H)} {j : Nat}
    (hv : Value.okWide Tryd.prog W .any base 65 v) (h : DataW.Trod enc Tryd.prog W 0 (fun _ => true) true 65 v d p)
    (hsz : (DataW.weightsEach Tryd.prog ts ds).all (· ≤ reachBytes) = true) (ht : ts[j]? = some 65) (hd : ds[j]? = some d) :
    ∃ (r c : Int) (a : Option Addr) (l cap : Nat) (xs : List F), v = .agg #[.int .i64 r, .int .i64 c, .slice a l cap] ∧ l = xs.length ∧ Row8 W a xs ∧ l ≤ cap ∧ cap ≤ 140737488351232 ∧ (a = none → cap = 0) ∧
      -9223372036854775808 ≤ r ∧ r ≤ 9223372036854775807 ∧ -9223372036854775808 ≤ c ∧ c ≤ 9223372036854775807 := by
  obtain ⟨v0, v1, v2, y0, y1, y2, n, rfl, rfl, _, e0, e1, e2⟩ := open_agg3 Tryd.underlying65 (by kernel_rfl) cellsMat hv h
  obtain ⟨r, s0, _, w0⟩ := DataW.trod_int Tryd.underlying3 e0
  obtain ⟨c, s1, _, w1⟩ := DataW.trod_int Tryd.underlying3 e1
  obtain ⟨a, la, ca, xs, s2, e, ka, ra, da, na⟩ := open8_cells e2
  simp only [List.cons.injEq, and_true] at s0 s1 s2
  subst s0 s1 s2
  have hw : ∀ n ∈ DataW.weights Tryd.prog 65 (.agg [y0.1, y1.1, y2.1]), n ≤ reachBytes := fun n hn => by
    simpa using List.all_eq_true.1 hsz _ (DataW.weights_mem_each ht hd n hn)
  simp only [DataW.weights, Tryd.underlying65] at hw
  have r2 : Room2 y2.1 ca := da.imp (fun h => ⟨h.1, h.2.2⟩) id
  refine ⟨r, c, a, la, ca, xs, rfl, e, ra, ka, room2_le r2 ?_, na, (bounds_i64 w0).1, (bounds_i64 w0).2, (bounds_i64 w1).1, (bounds_i64 w1).2⟩
  exact fun n hn => hw n (by simp [DataW.weightsEach, hn])
end Go.Proofs.YtmlpijlcpeoeaaaDoor

/- How a list of lists of bytes, and a list of numbers, come in: facts for the frames of the laws; nothing of the program is proved here. -/
namespace Go.Proofs.YtmlpijlcpeoeaaaDoor
open Go.ChangeShapes Go.WideShapes Go.ChangeAt Go.RowKit Gf Go.Joins
set_option linter.unusedVariables false
set_option maxRecDepth 20000
theorem addr_off {w : World} {ad : Addr} {v : Value} (h : w.cell? (ad.add 0) = some v) : ∃ b off, ad = ⟨b, off, none⟩ := by
  obtain ⟨b, off, spot⟩ := ad
  have hspot : spot = none := by simpa [Addr.add] using World.cell?_spot h
  subst hspot
  exact ⟨b, off, rfl⟩
theorem add_off (b off j : Nat) : (⟨b, off, none⟩ : Addr).add j = ⟨b, off + j, none⟩ := by unfold Addr.add; split <;> simp_all
theorem cellsSl : Tryd.prog.cellsOf 22 = 1 := by kernel_rfl
theorem cellsU8 : Tryd.prog.cellsOf 5 = 1 := by kernel_rfl
theorem openRows {H : Type} {enc : TypeId × Value → H} {W : World} {v : Value} {d : DataW H} {p : List MemPlace} {base : Nat}
    (hv : Value.okWide Tryd.prog W .any base 25 v) (h : DataW.Trod enc Tryd.prog W 0 (fun _ => true) true 25 v d p) :
    ∃ a l cap L, v = .slice a l cap ∧ l = List.length L ∧ Rows8 W a L ∧
      ∀ b off, a = some ⟨b, off, none⟩ → ∀ j n a' cap', W.cell? ⟨b, off + j, none⟩ = some (.slice a' n cap') → j < L.length → a' = none → cap' = 0 := by
  obtain ⟨fuel, hf⟩ := h
  obtain ⟨a0, l0, c0, rfl⟩ := okWide_slice Tryd.underlying25 hv
  rcases Deep.open_int_rows Tryd.underlying25 Tryd.underlying22 Tryd.underlying5 cellsSl cellsU8 hf with ⟨hcs, hx⟩ | ⟨ad, len, cap, A, L, C, Z, hcs, _, hl, hm, hx, hr⟩
  · simp [Value.cells] at hcs
    obtain ⟨rfl, rfl, rfl⟩ := hcs
    exact ⟨none, 0, 0, [], rfl, rfl, .inl rfl, fun b off e => by cases e⟩
  · simp [Value.cells] at hcs
    obtain ⟨rfl, rfl, rfl⟩ := hcs
    refine ⟨some ad, l0, c0, (List.range l0).map fun r => ((Z r).take (L r)).map toF, rfl, by simp, ?_, ?_⟩
    · by_cases h0 : l0 = 0
      · left; simp [h0]
      · right
        obtain ⟨b, off, rfl⟩ := addr_off (hr 0 (by omega)).1
        refine ⟨b, off, rfl, fun j xs hj => ?_⟩
        have hjl : j < l0 := by have := (List.getElem?_eq_some_iff.1 hj).1; simpa using this
        rw [List.getElem?_map, List.getElem?_range hjl] at hj
        obtain rfl := Option.some.inj hj
        obtain ⟨h1, h2, h3, h4, h5, h6, h7⟩ := hr j (by omega)
        rw [add_off] at h1
        have hlen : (((Z j).take (L j)).map toF).length = L j := by rw [List.length_map, List.length_take]; omega
        refine ⟨A j, C j, by rw [hlen]; exact h1, ?_⟩
        by_cases hL0 : L j = 0
        · left; simp [hL0]
        · right
          cases hA : A j with
          | none => have := h6 hA; omega
          | some ad' =>
            obtain ⟨_, h8⟩ := h7 ad' hA
            obtain ⟨b', off', rfl⟩ := addr_off (h8 0 (by omega))
            refine ⟨b', off', rfl, fun i hi => ?_⟩
            rw [hlen] at hi
            have hc := h8 i (by omega)
            rw [add_off] at hc
            rw [hc]
            have hb := bounds_u8 (h5 ((Z j).getD i 0) (by rw [getD_get _ _ _ (by omega)]; exact List.getElem_mem _))
            have e : ((at8 (((Z j).take (L j)).map toF) i).toNat : Int) = (Z j).getD i 0 := by
              unfold at8
              rw [getD_get _ _ _ (by rw [hlen]; exact hi)]
              simp only [List.getElem_map, List.getElem_take]
              rw [getD_get _ _ _ (by omega)] at hb ⊢
              exact val_toF hb.1 hb.2
            rw [e]
    · intro b off e j n a' cap' hc hj ha
      simp only [List.length_map, List.length_range] at hj
      obtain ⟨h1, h2, h3, h4, h5, h6, h7⟩ := hr j (by omega)
      obtain rfl := Option.some.inj e
      rw [add_off, hc] at h1
      simp only [Option.some.injEq, Value.slice.injEq] at h1
      obtain ⟨e1, _, e3⟩ := h1
      rw [e3]; exact h6 (by rw [← e1]; exact ha)
theorem bytesInt : Tryd.prog.bytesOf 3 = 8 := by kernel_rfl
theorem openInts {H : Type} {enc : TypeId × Value → H} {W : World} {v : Value} {d : DataW H} {p : List MemPlace} {base : Nat} {ts : List TypeId} {ds : List (DataW H)} {j : Nat}
    (hv : Value.okWide Tryd.prog W .any base 54 v) (h : DataW.Trod enc Tryd.prog W 0 (fun _ => true) true 54 v d p)
    (hsz : (DataW.weightsEach Tryd.prog ts ds).all (· ≤ reachBytes) = true) (ht : ts[j]? = some 54) (hd : ds[j]? = some d) :
    ∃ a l cap ns, v = .slice a l cap ∧ l = List.length ns ∧ RowI W a ns ∧ l ≤ cap ∧ cap ≤ 17592186043904 ∧ (a = none → cap = 0) ∧ ∀ n ∈ ns, -9223372036854775808 ≤ n ∧ n ≤ 9223372036854775807 := by
  obtain ⟨fuel, hf⟩ := h
  obtain ⟨a0, l0, c0, rfl⟩ := okWide_slice Tryd.underlying54 hv
  rcases open_ints Tryd.underlying54 Tryd.underlying3 cellsInt hf with ⟨hcs, hx⟩ | ⟨ad, l, c, zs, hcs, _, hl, hm, hz, hx, hcell, hwz⟩
  · simp [Value.cells] at hcs
    obtain ⟨rfl, rfl, rfl⟩ := hcs
    exact ⟨none, 0, 0, [], rfl, rfl, .inl rfl, Nat.le_refl _, by omega, fun _ => rfl, fun n hn => by cases hn⟩
  · simp [Value.cells] at hcs
    obtain ⟨rfl, rfl, rfl⟩ := hcs
    have hz' : zs.length = c0 := by simpa using hz
    have hcap : c0 ≤ 17592186043904 := by
      have hw : ∀ n ∈ DataW.weights Tryd.prog 54 d, n ≤ reachBytes := fun n hn => by simpa using List.all_eq_true.1 hsz _ (DataW.weights_mem_each ht hd n hn)
      simp only [Prod.mk.injEq] at hx
      rw [hx.1] at hw
      have := hw (((lits .i64 (zs.take l0) : List (DataW H)).length + (lits .i64 (zs.drop l0) : List (DataW H)).length) * Tryd.prog.bytesOf 3) (by simp [DataW.weights, Tryd.underlying54])
      rw [bytesInt] at this
      simp only [reachBytes, lits, List.length_map, List.length_take, List.length_drop] at this
      omega
    refine ⟨some ad, l0, c0, zs.take l0, rfl, by rw [List.length_take]; omega, ?_, hl, hcap, (fun e => by cases e), fun n hn => bounds_i64 (hwz n (List.mem_of_mem_take hn))⟩
    by_cases h0 : l0 = 0
    · left; simp [h0]
    · right
      obtain ⟨b, off, rfl⟩ := addr_off (hcell 0 (by omega))
      refine ⟨b, off, rfl, fun j m hj => ?_⟩
      have hjl : j < l0 := by have := (List.getElem?_eq_some_iff.1 hj).1; rw [List.length_take] at this; omega
      have hc := hcell j (by omega)
      rw [add_off] at hc
      rw [hc]
      rw [List.getElem?_take_of_lt hjl] at hj
      rw [List.getD_eq_getElem?_getD, hj]; rfl
end Go.Proofs.YtmlpijlcpeoeaaaDoor

/- How parameters, a number and two lists of numbers come in; facts for the frames of the laws; nothing of the program is proved here. -/
namespace Go.Proofs.YtmlpijlcpeoeaaaDoor
open Go.ChangeShapes Go.WideShapes Go.ChangeAt Go.RowKit Gf Go.Joins
set_option linter.unusedVariables false
set_option maxRecDepth 20000
theorem array5 {α : Type} {cs : Array α} (h : cs.size = 5) : ∃ c0 c1 c2 c3 c4, cs = #[c0, c1, c2, c3, c4] := by
  obtain ⟨l⟩ := cs
  match l, h with
  | [c0, c1, c2, c3, c4], _ => exact ⟨c0, c1, c2, c3, c4, rfl⟩
theorem open_agg5 {H : Type} {enc : TypeId × Value → H} {P : Program} {w : World} {base : Nat} {spare : Nat → Bool} {held : Bool} {r : Reach} {b0 : Nat} {t : TypeId} {f0 f1 f2 f3 f4 : Field} {v : Value} {d : DataW H} {p : List MemPlace} (hs : P.underlying t = some (.struct #[f0, f1, f2, f3, f4])) (hone : Go.Deep.oneCellFields P #[f0, f1, f2, f3, f4] = true) (hC : P.cellsOf t = 5)
    (hv : Value.okWide P w r b0 t v) (h : DataW.Trod enc P w base spare held t v d p) :
    ∃ (v0 v1 v2 v3 v4 : Value) (y0 y1 y2 y3 y4 : DataW H × List MemPlace) (n : Nat), v = .agg #[v0, v1, v2, v3, v4] ∧ d = .agg [y0.1, y1.1, y2.1, y3.1, y4.1] ∧
      DataW.trod enc P w base spare held n f0.type [v0] = some y0 ∧ DataW.trod enc P w base spare held n f1.type [v1] = some y1 ∧ DataW.trod enc P w base spare held n f2.type [v2] = some y2 ∧ DataW.trod enc P w base spare held n f3.type [v3] = some y3 ∧ DataW.trod enc P w base spare held n f4.type [v4] = some y4 := by
  obtain ⟨cs, rfl, hsz⟩ := okWide_struct hs hv
  obtain ⟨c0, c1, c2, c3, c4, rfl⟩ := array5 (hsz.trans hC)
  obtain ⟨fuel, hf⟩ := h
  obtain ⟨xs, n, _, hx, hl, hlen, hel⟩ := DataW.trod_struct hs hf
  match xs, hlen with
  | [y0, y1, y2, y3, y4], _ =>
    obtain ⟨o0, k0⟩ := Go.Deep.hone_of hone 0 f0 rfl
    obtain ⟨o1, k1⟩ := Go.Deep.hone_of hone 1 f1 rfl
    obtain ⟨o2, k2⟩ := Go.Deep.hone_of hone 2 f2 rfl
    obtain ⟨o3, k3⟩ := Go.Deep.hone_of hone 3 f3 rfl
    obtain ⟨o4, k4⟩ := Go.Deep.hone_of hone 4 f4 rfl
    have h0 := hel 0 f0 rfl
    have h1 := hel 1 f1 rfl
    have h2 := hel 2 f2 rfl
    have h3 := hel 3 f3 rfl
    have h4 := hel 4 f4 rfl
    simp only [Prod.mk.injEq] at hx
    exact ⟨c0, c1, c2, c3, c4, y0, y1, y2, y3, y4, n, rfl, by rw [hx.1]; rfl, by simpa [Value.cells, o0, k0] using h0, by simpa [Value.cells, o1, k1] using h1, by simpa [Value.cells, o2, k2] using h2, by simpa [Value.cells, o3, k3] using h3, by simpa [Value.cells, o4, k4] using h4⟩
/-- a list of numbers, as one cell -/
theorem openInts_cell {H : Type} {enc : TypeId × Value → H} {W : World} {v : Value} {y : DataW H × List MemPlace} {n : Nat}
    (h : DataW.trod enc Tryd.prog W 0 (fun _ => true) true n 54 [v] = some y) (hw : ∀ n ∈ DataW.weights Tryd.prog 54 y.1, n ≤ reachBytes) :
    ∃ a l cap ns, v = .slice a l cap ∧ l = List.length ns ∧ RowI W a ns ∧ l ≤ cap ∧ cap ≤ 17592186043904 ∧ (a = none → cap = 0) ∧ ∀ n ∈ ns, -9223372036854775808 ≤ n ∧ n ≤ 9223372036854775807 := by
  rcases open_ints Tryd.underlying54 Tryd.underlying3 cellsInt h with ⟨hcs, hx⟩ | ⟨ad, l, c, zs, hcs, _, hl, hm, hz, hx, hcell, hwz⟩
  · simp at hcs
    subst hcs
    exact ⟨none, 0, 0, [], rfl, rfl, .inl rfl, Nat.le_refl _, by omega, fun _ => rfl, fun n hn => by cases hn⟩
  · simp at hcs
    subst hcs
    have hz' : zs.length = c := by simpa using hz
    have hcap : c ≤ 17592186043904 := by
      rw [hx] at hw
      have := hw (((lits .i64 (zs.take l) : List (DataW H)).length + (lits .i64 (zs.drop l) : List (DataW H)).length) * Tryd.prog.bytesOf 3) (by simp [DataW.weights, Tryd.underlying54])
      rw [bytesInt] at this
      simp only [reachBytes, lits, List.length_map, List.length_take, List.length_drop] at this
      omega
    refine ⟨some ad, l, c, zs.take l, rfl, by rw [List.length_take]; omega, ?_, hl, hcap, (fun e => by cases e), fun n hn => bounds_i64 (hwz n (List.mem_of_mem_take hn))⟩
    by_cases h0 : l = 0
    · left; simp [h0]
    · right
      obtain ⟨b, off, rfl⟩ := addr_off (hcell 0 (by omega))
      refine ⟨b, off, rfl, fun j m hj => ?_⟩
      have hjl : j < l := by have := (List.getElem?_eq_some_iff.1 hj).1; rw [List.length_take] at this; omega
      have hc := hcell j (by omega)
      rw [add_off] at hc
      rw [hc]
      rw [List.getElem?_take_of_lt hjl] at hj
      rw [List.getD_eq_getElem?_getD, hj]; rfl
end Go.Proofs.YtmlpijlcpeoeaaaDoor

/- How a list of lists of bytes comes in, with the bounds of its rooms: facts for the frames of the laws; nothing of the program is proved here. -/
namespace Go.Proofs.YtmlpijlcpeoeaaaDoor
open Go.ChangeShapes Go.WideShapes Go.ChangeAt Go.RowKit Gf Go.Joins
set_option linter.unusedVariables false
set_option maxRecDepth 20000
/-- a list of rows in memory, the rooms bounded -/
def RowsB (w : World) (a : Option Addr) (L : List (List F)) : Prop :=
  L = [] ∨ ∃ b off, a = some ⟨b, off, none⟩ ∧ ∀ j xs, L[j]? = some xs → ∃ a' cap', w.cell? ⟨b, off + j, none⟩ = some (.slice a' xs.length cap') ∧ Row8 w a' xs ∧ xs.length ≤ cap' ∧ cap' ≤ 140737488351232 ∧ (a' = none → cap' = 0)
theorem rowsB_rows {w : World} {a : Option Addr} {L : List (List F)} (h : RowsB w a L) : Rows8 w a L :=
  h.imp id fun ⟨b, off, e, h⟩ => ⟨b, off, e, fun j xs hj => by
    obtain ⟨a', cap', h1, h2, _⟩ := h j xs hj
    exact ⟨a', cap', h1, h2⟩⟩
theorem bytesSl : Tryd.prog.bytesOf 22 = 24 := by kernel_rfl
theorem weightsAll_in {H : Type} {P : Program} {e : TypeId} : ∀ {l : List (DataW H)} {d : DataW H}, d ∈ l → ∀ n ∈ d.weights P e, n ∈ DataW.weightsAll P e l
  | [], d, hd, _, _ => by cases hd
  | x :: l, d, hd, n, hn => by
    simp only [DataW.weightsAll, List.mem_append]
    rcases List.mem_cons.1 hd with rfl | h
    · exact .inl hn
    · exact .inr (weightsAll_in h n hn)
theorem openRowsB {H : Type} {enc : TypeId × Value → H} {W : World} {v : Value} {d : DataW H} {p : List MemPlace} {base : Nat} {ts : List TypeId} {ds : List (DataW H)} {j : Nat}
    (hv : Value.okWide Tryd.prog W .any base 25 v) (h : DataW.Trod enc Tryd.prog W 0 (fun _ => true) true 25 v d p)
    (hsz : (DataW.weightsEach Tryd.prog ts ds).all (· ≤ reachBytes) = true) (ht : ts[j]? = some 25) (hd : ds[j]? = some d) :
    ∃ a l cap L, v = .slice a l cap ∧ l = List.length L ∧ RowsB W a L ∧ l ≤ 5864062014634 := by
  obtain ⟨fuel, hf⟩ := h
  obtain ⟨a0, l0, c0, rfl⟩ := okWide_slice Tryd.underlying25 hv
  have hw : ∀ n ∈ DataW.weights Tryd.prog 25 d, n ≤ reachBytes := fun n hn => by simpa using List.all_eq_true.1 hsz _ (DataW.weights_mem_each ht hd n hn)
  rcases Deep.open_int_rows Tryd.underlying25 Tryd.underlying22 Tryd.underlying5 cellsSl cellsU8 hf with ⟨hcs, hx⟩ | ⟨ad, len, cap, A, L, C, Z, hcs, _, hl, hm, hx, hr⟩
  · simp [Value.cells] at hcs
    obtain ⟨rfl, rfl, rfl⟩ := hcs
    exact ⟨none, 0, 0, [], rfl, rfl, .inl rfl, by omega⟩
  · simp [Value.cells] at hcs
    obtain ⟨rfl, rfl, rfl⟩ := hcs
    simp only [Prod.mk.injEq] at hx
    rw [hx.1] at hw
    simp only [DataW.weights, Tryd.underlying25] at hw
    have hl9 : l0 ≤ 5864062014634 := by
      have := hw _ (List.mem_cons_self ..)
      rw [bytesSl] at this
      simp only [reachBytes, List.length_map, List.length_range] at this
      omega
    have hC : ∀ r, r < l0 → A r ≠ none → C r ≤ 140737488351232 := fun r hrl hne => by
      obtain ⟨_, _, _, h4, _⟩ := hr r (by omega)
      cases hA : A r with
      | none => exact absurd hA hne
      | some a9 =>
        have hmem : (Deep.intRow (H := H) .u8 (A r) (L r) (Z r)) ∈ (List.range l0).map fun r => Deep.intRow (H := H) .u8 (A r) (L r) (Z r) := List.mem_map.2 ⟨r, List.mem_range.2 hrl, rfl⟩
        have h9 := hw (((lits .u8 ((Z r).take (L r)) : List (DataW H)).length + (lits .u8 ((Z r).drop (L r)) : List (DataW H)).length) * Tryd.prog.bytesOf 5)
          (List.mem_cons_of_mem _ (List.mem_append_left _ (weightsAll_in hmem _ (by simp [Deep.intRow, hA, DataW.weights, Tryd.underlying22]))))
        rw [bytes8] at h9
        simp only [reachBytes, lits, List.length_map, List.length_take, List.length_drop] at h9
        omega
    refine ⟨some ad, l0, c0, (List.range l0).map fun r => ((Z r).take (L r)).map toF, rfl, by simp, ?_, hl9⟩
    by_cases h0 : l0 = 0
    · left; simp [h0]
    · right
      obtain ⟨b, off, rfl⟩ := addr_off (hr 0 (by omega)).1
      refine ⟨b, off, rfl, fun j xs hj => ?_⟩
      have hjl : j < l0 := by have := (List.getElem?_eq_some_iff.1 hj).1; simpa using this
      rw [List.getElem?_map, List.getElem?_range hjl] at hj
      obtain rfl := Option.some.inj hj
      obtain ⟨h1, h2, h3, h4, h5, h6, h7⟩ := hr j (by omega)
      rw [add_off] at h1
      have hlen : (((Z j).take (L j)).map toF).length = L j := by rw [List.length_map, List.length_take]; omega
      refine ⟨A j, C j, by rw [hlen]; exact h1, ?_, by rw [hlen]; exact h2, ?_, h6⟩
      · by_cases hL0 : L j = 0
        · left; simp [hL0]
        · right
          cases hA : A j with
          | none => have := h6 hA; omega
          | some ad' =>
            obtain ⟨_, h8⟩ := h7 ad' hA
            obtain ⟨b', off', rfl⟩ := addr_off (h8 0 (by omega))
            refine ⟨b', off', rfl, fun i hi => ?_⟩
            rw [hlen] at hi
            have hc := h8 i (by omega)
            rw [add_off] at hc
            rw [hc]
            have hb := bounds_u8 (h5 ((Z j).getD i 0) (by rw [getD_get _ _ _ (by omega)]; exact List.getElem_mem _))
            have e : ((at8 (((Z j).take (L j)).map toF) i).toNat : Int) = (Z j).getD i 0 := by
              unfold at8
              rw [getD_get _ _ _ (by rw [hlen]; exact hi)]
              simp only [List.getElem_map, List.getElem_take]
              rw [getD_get _ _ _ (by omega)] at hb ⊢
              exact val_toF hb.1 hb.2
            rw [e]
      · by_cases hA : A j = none
        · have := h6 hA; omega
        · exact hC j hjl hA
end Go.Proofs.YtmlpijlcpeoeaaaDoor

/- Two numbers, two lists behind a list of one's own; shards in memory: a number and two halves each. -/
namespace Go.Proofs.YtmlpijlcpeoeaaaDoor
open Go.RowKit Gf
set_option linter.unusedVariables false
set_option maxRecDepth 20000
theorem news_two {w : World} {b : Nat} {x y : Value} (hx : w.cell? ⟨b, 0, none⟩ = some x) (hy : w.cell? ⟨b, 1, none⟩ = some y) : ∀ j u, [x, y][j]? = some u → w.cell? ((⟨b, 0, none⟩ : Addr).add j) = some u := by
  intro j u h
  match j, h with
  | 0, h => obtain rfl := Option.some.inj h; simpa [Addr.add] using hx
  | 1, h => obtain rfl := Option.some.inj h; simpa [Addr.add] using hy
theorem appendS2 {w : World} {B n b c : Nat} {v x y : Value} {xs : List Value} (ty : TypeId) (ho : w.ownsRow B 22 1 v n xs) (hx : w.cell? ⟨b, 0, none⟩ = some x) (hy : w.cell? ⟨b, 1, none⟩ = some y) (h1 : x.oneCell' = true) (h2 : y.oneCell' = true) (hn : n ≤ 4096) (hB : B ≤ w.heap.size) :
    ∃ g cap w', (Builtin.append_ #[25, 25] ty #[v, .slice (some ⟨b, 0, none⟩) 2 c]).run Tryd.prog w = .ok (.slice (some ⟨g, 0, none⟩) (n + 2) cap) w' ∧
      w'.ownsRow B 22 1 (.slice (some ⟨g, 0, none⟩) (n + 2) cap) (n + 2) (xs ++ [x, y]) ∧ w.grownBy w' v.ownBlock ∧ (v.ownBlock = some g ∨ g = w.heap.size) ∧ g < w'.heap.size := by
  obtain ⟨i, hi, h2', h3, h4⟩ := infoS
  exact run_append_lies (P := Tryd.prog) w 25 ty B 22 i _ 1 24 Tryd.underlying25 hi h4 h2' h3 rfl (by decide) v n xs ho ⟨b, 0, none⟩ 2 c [x, y] rfl (news_two hx hy) (by simp [h1, h2]) (by decide) (by simp only [maxLen]; omega) (by omega) hB _ rfl
theorem appendI2 {w : World} {B n b c : Nat} {v : Value} {x y : Int} {xs : List Value} (ty : TypeId) (ho : w.ownsRow B 3 1 v n xs) (hx : w.cell? ⟨b, 0, none⟩ = some (.int .i64 x)) (hy : w.cell? ⟨b, 1, none⟩ = some (.int .i64 y)) (hn : n ≤ 1000000) (hB : B ≤ w.heap.size) :
    ∃ g cap w', (Builtin.append_ #[54, 54] ty #[v, .slice (some ⟨b, 0, none⟩) 2 c]).run Tryd.prog w = .ok (.slice (some ⟨g, 0, none⟩) (n + 2) cap) w' ∧
      w'.ownsRow B 3 1 (.slice (some ⟨g, 0, none⟩) (n + 2) cap) (n + 2) (xs ++ [.int .i64 x, .int .i64 y]) ∧ w.grownBy w' v.ownBlock ∧ (v.ownBlock = some g ∨ g = w.heap.size) ∧ g < w'.heap.size := by
  obtain ⟨i, hi, h2, h3, h4⟩ := infoI
  exact run_append_lies (P := Tryd.prog) w 54 ty B 3 i _ 1 8 Tryd.underlying54 hi h4 h2 h3 rfl (by decide) v n xs ho ⟨b, 0, none⟩ 2 c [.int .i64 x, .int .i64 y] rfl (news_two hx hy) (by simp [Value.oneCell']) (by decide) (by simp only [maxLen]; omega) (by omega) hB _ rfl
/-- shards in memory: the number and the two halves of each -/
def Sh8 (w : World) (a : Option Addr) (S : List (Int × List F × List F)) : Prop :=
  S = [] ∨ ∃ b off, a = some ⟨b, off, none⟩ ∧ ∀ j n xs ys, S[j]? = some (n, xs, ys) → ∃ a1 c1 a2 c2, w.cell? ⟨b, off + j * 3, none⟩ = some (.int .i64 n) ∧
    w.cell? ⟨b, off + j * 3 + 1, none⟩ = some (.slice a1 xs.length c1) ∧ w.cell? ⟨b, off + j * 3 + 2, none⟩ = some (.slice a2 ys.length c2) ∧ Row8 w a1 xs ∧ Row8 w a2 ys
theorem sh8_below {w w' : World} {a : Option Addr} {S : List (Int × List F × List F)} (h : Sh8 w a S) (hb : Below w.heap.size w w') : Sh8 w' a S := by
  rcases h with rfl | ⟨b, off, rfl, h⟩
  · exact .inl rfl
  · refine .inr ⟨b, off, rfl, fun j n xs ys hj => ?_⟩
    obtain ⟨a1, c1, a2, c2, h1, h2, h3, h4, h5⟩ := h j n xs ys hj
    exact ⟨a1, c1, a2, c2, cell_later hb h1, cell_later hb h2, cell_later hb h3, row8_below h4 hb, row8_below h5 hb⟩
end Go.Proofs.YtmlpijlcpeoeaaaDoor

/- How a list of shards comes in; facts for the frames of the laws; nothing of the program is proved here. -/
namespace Go.Proofs.YtmlpijlcpeoeaaaDoor
open Go.ChangeShapes Go.WideShapes Go.ChangeAt Go.RowKit Gf Go.Joins
set_option linter.unusedVariables false
set_option maxRecDepth 20000
/-- shards in memory, the rooms bounded -/
def ShB (w : World) (a : Option Addr) (S : List (Int × List F × List F)) : Prop :=
  S = [] ∨ ∃ b off, a = some ⟨b, off, none⟩ ∧ ∀ j n xs ys, S[j]? = some (n, xs, ys) → (-9223372036854775808 ≤ n ∧ n ≤ 9223372036854775807) ∧ ∃ a1 c1 a2 c2, w.cell? ⟨b, off + j * 3, none⟩ = some (.int .i64 n) ∧
    w.cell? ⟨b, off + j * 3 + 1, none⟩ = some (.slice a1 xs.length c1) ∧ w.cell? ⟨b, off + j * 3 + 2, none⟩ = some (.slice a2 ys.length c2) ∧ Row8 w a1 xs ∧ Row8 w a2 ys ∧
    (xs.length ≤ c1 ∧ c1 ≤ 140737488351232 ∧ (a1 = none → c1 = 0)) ∧ (ys.length ≤ c2 ∧ c2 ≤ 140737488351232 ∧ (a2 = none → c2 = 0))
theorem shB_sh8 {w : World} {a : Option Addr} {S : List (Int × List F × List F)} (h : ShB w a S) : Sh8 w a S :=
  h.imp id fun ⟨b, off, e, h⟩ => ⟨b, off, e, fun j n xs ys hj => by
    obtain ⟨_, a1, c1, a2, c2, h1, h2, h3, h4, h5, _⟩ := h j n xs ys hj
    exact ⟨a1, c1, a2, c2, h1, h2, h3, h4, h5⟩⟩
theorem cellsSh : Tryd.prog.cellsOf 38 = 3 := by kernel_rfl
theorem bytesSh : Tryd.prog.bytesOf 38 = 56 := by kernel_rfl
theorem add_add {b off j q : Nat} : ((⟨b, off, none⟩ : Addr).add j).add q = ⟨b, off + j + q, none⟩ := by rw [add_off, add_off]
/-- one shard -/
theorem openShard {H : Type} {enc : TypeId × Value → H} {W : World} {cs : List Value} {y : DataW H × List MemPlace} {n : Nat}
    (h : DataW.trod enc Tryd.prog W 0 (fun _ => true) true n 38 cs = some y) (hw : ∀ n ∈ DataW.weights Tryd.prog 38 y.1, n ≤ reachBytes) :
    ∃ (m : Int) (a1 a2 : Option Addr) (c1 c2 : Nat) (xs ys : List F), cs = [.int .i64 m, .slice a1 xs.length c1, .slice a2 ys.length c2] ∧ (-9223372036854775808 ≤ m ∧ m ≤ 9223372036854775807) ∧ Row8 W a1 xs ∧ Row8 W a2 ys ∧
      (xs.length ≤ c1 ∧ c1 ≤ 140737488351232 ∧ (a1 = none → c1 = 0)) ∧ (ys.length ≤ c2 ∧ c2 ≤ 140737488351232 ∧ (a2 = none → c2 = 0)) := by
  obtain ⟨y0, y1, y2, n', hy, hl, e0, e1, e2⟩ := Go.Deep.trod_struct3 Tryd.underlying38 h
  rw [cellsSh] at hl
  match cs, hl with
  | [v0, v1, v2], _ =>
    have k0 : Tryd.prog.cellsOf 3 = 1 := cellsInt
    have k1 : Tryd.prog.cellsOf 22 = 1 := cellsSl
    simp only [k0, k1, List.drop_zero, List.drop_succ_cons, List.take_succ_cons, List.take_zero] at e0 e1 e2
    obtain ⟨m, s0, _, w0⟩ := DataW.trod_int Tryd.underlying3 e0
    obtain ⟨a1, l1, c1, xs, s1, q1, kk1, r1, d1, n1⟩ := open8_cells e1
    obtain ⟨a2, l2, c2, ys, s2, q2, kk2, r2, d2, n2⟩ := open8_cells e2
    simp only [List.cons.injEq, and_true] at s0 s1 s2
    subst s0 s1 s2 q1 q2
    rw [hy] at hw
    simp only [DataW.weights, Tryd.underlying38] at hw
    have x1 : Room2 y1.1 c1 := d1.imp (fun h => ⟨h.1, h.2.2⟩) id
    have x2 : Room2 y2.1 c2 := d2.imp (fun h => ⟨h.1, h.2.2⟩) id
    exact ⟨m, a1, a2, c1, c2, xs, ys, rfl, bounds_i64 w0, r1, r2, ⟨kk1, room2_le x1 (fun n hn => hw n (by simp [DataW.weightsEach, hn])), n1⟩, ⟨kk2, room2_le x2 (fun n hn => hw n (by simp [DataW.weightsEach, hn])), n2⟩⟩
theorem openShards_cell {H : Type} {enc : TypeId × Value → H} {W : World} {v : Value} {y : DataW H × List MemPlace} {n : Nat}
    (h : DataW.trod enc Tryd.prog W 0 (fun _ => true) true n 30 [v] = some y) (hw : ∀ n ∈ DataW.weights Tryd.prog 30 y.1, n ≤ reachBytes) :
    ∃ a l cap S, v = .slice a l cap ∧ l = List.length S ∧ ShB W a S ∧ l ≤ cap ∧ cap ≤ 2513169434843 ∧ (a = none → cap = 0) := by
  rcases DataW.trod_slice Tryd.underlying30 h with ⟨hcs, hx⟩ | ⟨ad, len, cap, elems, rest, n', _, hcs, hx, _, hlc, hcm, hel, hcell, hrest, _⟩
  · simp only [List.cons.injEq, and_true] at hcs
    exact ⟨none, 0, 0, [], hcs, rfl, .inl rfl, Nat.le_refl _, by omega, fun _ => rfl⟩
  · simp only [List.cons.injEq, and_true] at hcs
    subst hcs
    obtain ⟨hrl, _⟩ := hrest rfl
    rw [hx] at hw
    simp only [DataW.weights, Tryd.underlying30] at hw
    have hcap : cap ≤ 2513169434843 := by
      have := hw _ (List.mem_cons_self ..)
      rw [bytesSh] at this
      simp only [reachBytes, List.length_map] at this
      omega
    have hone : ∀ i, i < len → ∃ (m : Int) (a1 a2 : Option Addr) (c1 c2 : Nat) (xs ys : List F), W.cells? 0 (ad.add (i * 3)) 3 = some [.int .i64 m, .slice a1 xs.length c1, .slice a2 ys.length c2] ∧ (-9223372036854775808 ≤ m ∧ m ≤ 9223372036854775807) ∧ Row8 W a1 xs ∧ Row8 W a2 ys ∧
        (xs.length ≤ c1 ∧ c1 ≤ 140737488351232 ∧ (a1 = none → c1 = 0)) ∧ (ys.length ≤ c2 ∧ c2 ≤ 140737488351232 ∧ (a2 = none → c2 = 0)) := fun i hi => by
      have h1 := hcell i hi
      rw [cellsSh, List.getElem?_eq_getElem (by omega)] at h1
      obtain ⟨cs, h2, h3⟩ := Option.bind_eq_some_iff.1 h1
      obtain ⟨m, a1, a2, c1, c2, xs, ys, e, r⟩ := openShard h3 (fun n hn => hw n (List.mem_cons_of_mem _ (List.mem_append_left _ (weightsAll_in (List.mem_map.2 ⟨_, List.getElem_mem _, rfl⟩) n hn))))
      subst e
      exact ⟨m, a1, a2, c1, c2, xs, ys, h2, r⟩
    have hch : ∀ i : Nat, ∃ t : Int × List F × List F, i < len → ∃ (a1 a2 : Option Addr) (c1 c2 : Nat), W.cells? 0 (ad.add (i * 3)) 3 = some [.int .i64 t.1, .slice a1 t.2.1.length c1, .slice a2 t.2.2.length c2] ∧ (-9223372036854775808 ≤ t.1 ∧ t.1 ≤ 9223372036854775807) ∧ Row8 W a1 t.2.1 ∧ Row8 W a2 t.2.2 ∧
        (t.2.1.length ≤ c1 ∧ c1 ≤ 140737488351232 ∧ (a1 = none → c1 = 0)) ∧ (t.2.2.length ≤ c2 ∧ c2 ≤ 140737488351232 ∧ (a2 = none → c2 = 0)) := fun i => by
      by_cases hi : i < len
      · obtain ⟨m, a1, a2, c1, c2, xs, ys, q⟩ := hone i hi
        exact ⟨(m, xs, ys), fun _ => ⟨a1, a2, c1, c2, q⟩⟩
      · exact ⟨(0, [], []), fun h => absurd h hi⟩
    obtain ⟨f, hf⟩ := Classical.axiomOfChoice hch
    refine ⟨some ad, len, cap, (List.range len).map f, rfl, by simp, ?_, hlc, hcap, fun e => by cases e⟩
    by_cases h0 : len = 0
    · left; simp [h0]
    · right
      obtain ⟨_, _, _, _, hc0, _⟩ := hf 0 (by omega)
      have hc1 := (World.cells?_some hc0).2.2 0 (by omega)
      rw [Nat.zero_mul] at hc1
      obtain ⟨b, off, rfl⟩ : ∃ b off, ad = ⟨b, off, none⟩ := addr_off (v := .int .i64 (f 0).1) (by
        have : (ad.add 0).add 0 = ad.add 0 := by unfold Addr.add; simp
        rw [← this]; exact hc1)
      refine ⟨b, off, rfl, fun j n xs ys hj => ?_⟩
      have hjl : j < len := by have := (List.getElem?_eq_some_iff.1 hj).1; simpa using this
      rw [List.getElem?_map, List.getElem?_range hjl] at hj
      have hfj := Option.some.inj hj
      obtain ⟨a1, a2, c1, c2, hc, hb, r⟩ := hf j hjl
      rw [hfj] at hc hb r
      have hq := (World.cells?_some hc).2.2
      have q0 := hq 0 (by omega)
      have q1 := hq 1 (by omega)
      have q2 := hq 2 (by omega)
      rw [add_add] at q0 q1 q2
      exact ⟨hb, a1, c1, a2, c2, q0, q1, q2, r⟩
end Go.Proofs.YtmlpijlcpeoeaaaDoor

/- How parameters, a size and a list of shards come in as one; facts for the frames of the laws; nothing of the program is proved here. -/
namespace Go.Proofs.YtmlpijlcpeoeaaaDoor
open Go.ChangeShapes Go.WideShapes Go.ChangeAt Go.RowKit Gf Go.Joins
set_option linter.unusedVariables false
set_option maxRecDepth 20000
theorem cellsGiven : Tryd.prog.cellsOf 42 = 4 := by kernel_rfl
theorem openGiven {H : Type} {enc : TypeId × Value → H} {W : World} {v : Value} {d : DataW H} {p : List MemPlace} {base : Nat} {ts : List TypeId} {ds : List (DataW H)} {j : Nat}
    (hv : Value.okWide Tryd.prog W .any base 42 v) (h : DataW.Trod enc Tryd.prog W 0 (fun _ => true) true 42 v d p)
    (hsz : (DataW.weightsEach Tryd.prog ts ds).all (· ≤ reachBytes) = true) (ht : ts[j]? = some 42) (hd : ds[j]? = some d) :
    ∃ (k r n : Int) (a : Option Addr) (l cap : Nat) (S : List (Int × List F × List F)), v = .agg #[.int .i64 k, .int .i64 r, .int .i64 n, .slice a l cap] ∧
      (-9223372036854775808 ≤ k ∧ k ≤ 9223372036854775807) ∧ (-9223372036854775808 ≤ r ∧ r ≤ 9223372036854775807) ∧ (-9223372036854775808 ≤ n ∧ n ≤ 9223372036854775807) ∧
      l = List.length S ∧ ShB W a S ∧ l ≤ cap ∧ cap ≤ 2513169434843 ∧ (a = none → cap = 0) := by
  obtain ⟨v0, v1, v2, v3, y0, y1, y2, y3, n', rfl, rfl, _, e0, e1, e2, e3⟩ := open_agg4 Tryd.underlying42 (by kernel_rfl) cellsGiven hv h
  obtain ⟨k, s0, _, w0⟩ := DataW.trod_int Tryd.underlying3 e0
  obtain ⟨r, s1, _, w1⟩ := DataW.trod_int Tryd.underlying3 e1
  obtain ⟨n, s2, _, w2⟩ := DataW.trod_int Tryd.underlying3 e2
  have hw : ∀ n ∈ DataW.weights Tryd.prog 42 (.agg [y0.1, y1.1, y2.1, y3.1]), n ≤ reachBytes := fun n hn => by
    simpa using List.all_eq_true.1 hsz _ (DataW.weights_mem_each ht hd n hn)
  simp only [DataW.weights, Tryd.underlying42] at hw
  obtain ⟨a, l, cap, S, s3, q⟩ := openShards_cell e3 (fun n hn => hw n (by simp [DataW.weightsEach, hn]))
  simp only [List.cons.injEq, and_true] at s0 s1 s2
  subst s0 s1 s2 s3
  exact ⟨k, r, n, a, l, cap, S, rfl, bounds_i64 w0, bounds_i64 w1, bounds_i64 w2, q⟩
end Go.Proofs.YtmlpijlcpeoeaaaDoor

/- What Row of package half answers, and Rows of numbers that aren't legal; alive of stage 5; nothing that was there turns. -/
namespace Go.Proofs.YtmlpijlcpeoeaaaDoor
open Go.RowKit Gf
set_option linter.unusedVariables false
set_option maxRecDepth 20000
set_option maxHeartbeats 1000000 in
theorem hrows_bad (k r : Int) (w : World) (s : Addr) (hs : w.cell? ⟨0, 0, none⟩ = some (errAt s)) (hk0 : -9223372036854775808 ≤ k) (hk1 : k ≤ 9223372036854775807) (hr0 : -9223372036854775808 ≤ r) (hr1 : r ≤ 9223372036854775807) (h : ¬ LegalP k r) :
    Calls Tryd.prog 28 #[.int .i64 k, .int .i64 r] w fun e w' => e = .returned (.tuple #[.agg #[.int .i64 0, .int .i64 0, .slice none 0 0], errAt s]) ∧ Below w.heap.size w w' := by
  have HB0 : Hid _ := (Below.refl w.heap.size w).alloc (Nat.le_refl _) (.cells #[.int .i64 0, .int .i64 0, .slice none 0 0] 65)
  have HA0 : Hid _ := holds_new (holds_nil w) #[.int .i64 0, .int .i64 0, .slice none 0 0] 65
  have HS : Hid _ := cell_later HB0.out hs
  have H : Hid _ := h
  clear h hs
  unfold errAt at *
  go_enter Tryd.func28, Tryd.ntmps28
  go_wp2_with fail
  refine Calls.mono (generator_bad k r _ s HS.out hk0 hk1 hr0 hr1 H.out) ?_
  unfold errAt
  rintro e w1 ⟨rfl, hb1⟩
  have HA1 : Hid _ := holds_alloc (holds_later HA0.out hb1) (.cells #[.int .i64 0, .int .i64 0, .slice none 0 0] 65)
  have hB1 := HB0.out.trans (hb1.mono HB0.out.size)
  have HB1 : Hid _ := hB1.alloc hB1.size (.cells #[.int .i64 0, .int .i64 0, .slice none 0 0] 65)
  have zz := hb1.size
  have k2 := holds_at (holds_later HA0.out hb1) 0 rfl
  have d4 : w1.frozen? ⟨w.heap.size, 0, none⟩ = false := frozen_of_row _ _ _ _ _ k2
  have d5 : w1.frozen? ⟨w.heap.size, 1, none⟩ = false := frozen_of_row _ _ _ _ _ k2
  have d6 : w1.frozen? ⟨w.heap.size, 2, none⟩ = false := frozen_of_row _ _ _ _ _ k2
  have c4 := cellAt k2 0 _ rfl
  have c5 := cellAt k2 1 _ rfl
  have c6 := cellAt k2 2 _ rfl
  have z4 := ltHeap k2
  have hbX : Hid _ := hb1
  clear hb1 hB1 k2
  go_wp2
  refine bodyPost_ret (v := .tuple #[.agg #[.int .i64 0, .int .i64 0, .slice none 0 0], .iface 140 (.pointer (some s))]) (by simp [results, Tryd.results28, go_sem, c4, c5, c6, z4]) rfl ⟨rfl, ?_⟩
  have hX := (((HB0.out.trans (hbX.out.mono HB0.out.size)).setCell (p := ⟨w.heap.size, 0, none⟩) (Nat.le_refl _) (.int .i64 0)).setCell (p := ⟨w.heap.size, 1, none⟩) (Nat.le_refl _) (.int .i64 0)).setCell (p := ⟨w.heap.size, 2, none⟩) (Nat.le_refl _) (.slice none 0 0)
  exact hX.alloc hX.size _
theorem rowAt_half {k r h : Nat} (hh : h < 2 * (k + r)) : rowAt (2 * k) (halfM k r) h = rowF (2 * k) (halfF k (carN (groupN k r)) h) := rowAt_grid hh
theorem alive5_row : rowF (2 * 1) (halfF 1 (carN (groupN 1 2)) 5) = [1, 142] := by decide +kernel
theorem alive5_name : strB (nameB 4 9) = ⟨#[112, 48, 98]⟩ := by decide +kernel
end Go.Proofs.YtmlpijlcpeoeaaaDoor

/- What Encode of package code answers, of all numbers and lists of bytes; nothing that was there turns. -/
namespace Go.Proofs.YtmlpijlcpeoeaaaDoor
open Go.RowKit Gf
set_option linter.unusedVariables false
set_option maxRecDepth 20000
/-- which error Encode tells -/
def encE (k r n : Int) : Nat := if LegalP k r then halfE k n else 1
theorem encE_ok {k r n : Int} (h : encE k r n = 0) : ∃ a b m : Nat, k = a ∧ r = b ∧ n = m ∧ 1 ≤ a ∧ 2 ≤ b ∧ a + b ≤ 16 ∧ 1 ≤ m ∧ m ≤ 128 * a := by
  unfold encE at h
  split at h
  · rename_i hL
    obtain ⟨a, b, rfl, rfl, h1, h2, h3⟩ := legal_nat hL
    obtain ⟨c, m, hc, rfl, _, _, h4, h5⟩ := half_ok h
    exact ⟨a, b, m, rfl, rfl, rfl, h1, h2, h3, h4, by omega⟩
  · omega
theorem encE_of {k r n : Nat} (h1 : 1 ≤ k) (h2 : 2 ≤ r) (h3 : k + r ≤ 16) (h4 : 1 ≤ n) (h5 : n ≤ 128 * k) : encE k r n = 0 := by
  unfold encE; rw [if_pos (show LegalP k r from ⟨by omega, by omega, by omega⟩), halfE_ok h1 (by omega) h4 h5]
theorem halfE_25 (k n : Int) : halfE k n ≤ 25 := by unfold halfE; split <;> (try split) <;> (try split) <;> omega
theorem encE_le (k r n : Int) : encE k r n ≤ 25 := by unfold encE; split; exact halfE_25 _ _; omega
/-- the errors that Encode and Fits name -/
def ErrsF (w : World) (E : Nat → Addr) : Prop := ErrsE w E ∧ w.cell? ⟨2, 0, none⟩ = some (errAt (E 1))
theorem errsF_below {w w' : World} {E : Nat → Addr} (h : ErrsF w E) (hb : Below w.heap.size w w') : ErrsF w' E := ⟨errsE_below h.1 hb, cell_later hb h.2⟩
theorem comb_half {k r H : Nat} {L : List (List F)} {i : Nat} (hi : i < 2 * (k + r)) : combL (2 * k) H (halfM k r) L i = imgL k (carN (groupN k r)) H (bytesD L) i :=
  rowF_congr fun b _ => sumF_congr fun v hv => by rw [halfM, at8_grid hi hv]
theorem rowsP_congr {w : World} {B : Nat} {gs : List (Nat × Nat)} {f g : Nat → List F} (h : RowsP w B gs f) (e : ∀ i, i < gs.length → f i = g i) : RowsP w B gs g :=
  ⟨fun i p hp => ⟨(h.1 i p hp).1, by rw [← e i (List.getElem?_eq_some_iff.1 hp).1]; exact (h.1 i p hp).2⟩, h.2⟩
/-- all halves of a stripe in memory, each in a block of its own -/
def EncAt (w : World) (B M : Nat) (k r n : Nat) (xs : List F) (gs : List (Nat × Nat)) : Prop :=
  B ≤ M ∧ gs.length = 2 * (k + r) ∧ w.heap[M]? = some (.cells (slW (rowsP (cntN (2 * k) n) gs) (2 * (k + r))) 22 (0, 0)) ∧ RowsP w B gs (imgL k (carN (groupN k r)) (cntN (2 * k) n) (strD (cntN (2 * k) n) xs))
theorem encAt_below {w w' : World} {B M k r n : Nat} {xs : List F} {gs : List (Nat × Nat)} (h : EncAt w B M k r n xs gs) (hb : Below w.heap.size w w') : EncAt w' B M k r n xs gs := ⟨h.1, h.2.1, heap_later h.2.2.1 hb, rowsP_below h.2.2.2 hb⟩
theorem encAt_rows {w : World} {B M k r n : Nat} {xs : List F} {gs : List (Nat × Nat)} (h : EncAt w B M k r n xs gs) : Rows8 w (some ⟨M, 0, none⟩) (encL k r (cntN (2 * k) n) xs) :=
  rowsP_rows h.2.2.2 h.2.1 (fun i => imgL_len _ _ _ _ _) h.2.2.1
set_option maxHeartbeats 4000000 in
theorem encode_ok (k r n ca : Nat) (a : Option Addr) (xs : List F) (w : World) (E : Nat → Addr) (hE : ErrsF w E) (h1 : 1 ≤ k) (h2 : 2 ≤ r) (h3 : k + r ≤ 16) (h4 : 1 ≤ n) (h5 : n ≤ 128 * k) (hn : n = xs.length) (hx : Row8 w a xs) :
    Calls Tryd.prog 11 #[.int .i64 k, .int .i64 r, .slice a n ca] w fun e w' => ∃ (M c : Nat) (gs : List (Nat × Nat)), e = .returned (.tuple #[.slice (some ⟨M, 0, none⟩) c c, .nilIface]) ∧ c = 2 * (k + r) ∧
      EncAt w' w.heap.size M k r n xs gs ∧ Below w.heap.size w w' := by
  obtain ⟨k1, k2, _, _⟩ := cnt_half h1 (show k ≤ 14 by omega) h4 h5
  have HE : Hid (ErrsF w E) := hE
  have HX : Hid (Row8 w a xs) := hx
  have HN : Hid (n = xs.length) := hn
  clear hE hx hn
  obtain ⟨c2, hc2⟩ : ∃ c2, c2 = 2 * k := ⟨_, rfl⟩
  obtain ⟨cR, hcR⟩ : ∃ cR, cR = 2 * (k + r) := ⟨_, rfl⟩
  have HC2 : Hid (c2 = 2 * k) := hc2
  have HCR : Hid (cR = 2 * (k + r)) := hcR
  have HR : Hid _ := fun w s h => hrows_F k r w s h h1 h2 h3
  rw [← hc2, ← hcR] at HR
  have hcl : c2 ≤ 28 := by omega
  have hcl1 : 1 ≤ c2 := by omega
  have hRl : cR ≤ 32 := by omega
  clear hc2 hcR
  go_enter Tryd.func11, Tryd.ntmps11
  go_wp2_with fail
  refine Calls.mono (HR.out _ (E 1) HE.out.2) ?_
  rintro e w1 ⟨g1, m1, rfl, hm1, hg1, hh1, hb1⟩
  have HA1 : Hid _ := holds_new (holds_cons (holds_nil w1) hh1) #[.int .i64 cR, .int .i64 c2, .slice (some ⟨g1, 0, none⟩) m1 m1] 65
  have HB1 : Hid (Below w.heap.size w (w1.alloc (.cells #[.int .i64 cR, .int .i64 c2, .slice (some ⟨g1, 0, none⟩) m1 m1] 65))) := hb1.alloc hb1.size _
  have HM1 : Hid (m1 = cR * c2) := hm1
  clear hm1 hg1 hh1 hb1
  go_wp2_with fail
  refine Calls.mono (split_ok k n ca a xs _ E (errsE_below HE.out.1 HB1.out) h1 (by omega) h4 h5 HN.out (row8_below HX.out HB1.out)) ?_
  rintro e w2 ⟨hb2, g2, c, H, rfl, hc, hH, hz1, hz2, hne, hB2, hG2, hbl⟩
  obtain rfl : c = c2 := by rw [hc, HC2.out]
  have HH : Hid (H = cntN (2 * k) n) := hH
  have HR2 : Hid (Rows8 w2 (some ⟨hb2, 0, none⟩) ((List.range c).map (hf H xs))) := .inr ⟨hb2, 0, rfl, fun j ys hj => by
    have hjc : j < c := by have := (List.getElem?_eq_some_iff.1 hj).1; simpa using this
    rw [List.getElem?_map, List.getElem?_range hjc] at hj
    obtain rfl := Option.some.inj hj
    refine ⟨some ⟨g2, j * H, none⟩, H, ?_, row8_half hG2 hjc⟩
    rw [Nat.zero_add, hf_len]
    exact cellAt hB2 j _ (hvV_at hjc (Nat.le_refl _))⟩
  have HA2 : Hid _ := holds_later HA1.out hbl
  have HB2 : Hid (Below w.heap.size w w2) := HB1.out.trans (hbl.mono HB1.out.size)
  have hHl : H ≤ 64 := by rw [hH]; exact k2
  clear hc hH hz1 hz2 hne hB2 hG2 hbl HA1 HB1
  have c0 := cellAt (holds_at HA2.out 0 rfl) 0 _ rfl
  have c1 := cellAt (holds_at HA2.out 0 rfl) 1 _ rfl
  have c3 := cellAt (holds_at HA2.out 0 rfl) 2 _ rfl
  go_wp2_with fail
  refine Calls.mono (ccomb_F cR c H m1 m1 c c (some ⟨g1, 0, none⟩) (some ⟨hb2, 0, none⟩) (halfM k r) ((List.range c).map (hf H xs)) _ (by omega) hcl1 (by omega) hHl HM1.out (by rw [halfM_len, HCR.out, HC2.out]) (Nat.le_refl _) (holds_row HA2.out 1 rfl)
    rfl (by simp) (fun ys hy => by obtain ⟨v, _, rfl⟩ := List.mem_map.1 hy; exact hf_len _ _ _) HR2.out) ?_
  rintro e w3 ⟨M, gs, rfl, hM, hgs, hT, hrs, hb3⟩
  have HB3 : Hid (Below w.heap.size w w3) := HB2.out.trans (hb3.mono HB2.out.size)
  have HEnc : Hid (EncAt w3 w.heap.size M k r n xs gs) := by
    have hz := HB2.out.size
    refine ⟨by omega, by rw [hgs, HCR.out], by rw [← HH.out, ← HCR.out]; exact hT, ?_⟩
    have hr2 : RowsP w3 w.heap.size gs (combL c H (halfM k r) ((List.range c).map (hf H xs))) := ⟨fun i p hp => ⟨by have := (hrs.1 i p hp).1; omega, (hrs.1 i p hp).2⟩, hrs.2⟩
    refine rowsP_congr hr2 fun i hi => ?_
    rw [HC2.out, comb_half (by rw [← HCR.out, ← hgs]; exact hi), img_stripe (by omega), ← HH.out]
  clear hM hgs hT hrs hb3 c0 c1 c3
  go_wp2
  go_ret2
  exact ⟨M, cR, gs, rfl, HCR.out, HEnc.out, HB3.out⟩
set_option maxHeartbeats 2000000 in
theorem encode_bad (k r : Int) (n ca : Nat) (a : Option Addr) (w : World) (E : Nat → Addr) (hE : ErrsF w E) (hk0 : -9223372036854775808 ≤ k) (hk1 : k ≤ 9223372036854775807) (hr0 : -9223372036854775808 ≤ r) (hr1 : r ≤ 9223372036854775807) (hla : n ≤ 140737488355328) (h : encE k r n ≠ 0) :
    Calls Tryd.prog 11 #[.int .i64 k, .int .i64 r, .slice a n ca] w fun e w' => e = .returned (.tuple #[.slice none 0 0, evV E (encE k r n)]) ∧ Below w.heap.size w w' := by
  have HE : Hid (ErrsF w E) := hE
  clear hE
  by_cases hL : LegalP k r
  · obtain ⟨p, q, rfl, rfl, h1, h2, h3⟩ := legal_nat hL
    have he : encE p q n = halfE p n := by unfold encE; rw [if_pos hL]
    rw [he] at h ⊢
    have HS : Hid _ := fun u hu => split_bad p a n ca u E hu hla h
    obtain ⟨s, hs⟩ : ∃ s, evV E (halfE p n) = errAt s := ⟨E (halfE p n - 1), by unfold evV; rw [if_neg h]⟩
    rw [hs] at HS ⊢
    have HR : Hid _ := fun w s h => hrows_F p q w s h h1 h2 h3
    clear hs he h hL
    unfold errAt at HS ⊢
    go_enter Tryd.func11, Tryd.ntmps11
    go_wp2_with fail
    refine Calls.mono (HR.out _ (E 1) HE.out.2) ?_
    rintro e w1 ⟨g1, m1, rfl, hm1, hg1, hh1, hb1⟩
    have HB1 : Hid (Below w.heap.size w (w1.alloc (.cells #[.int .i64 (2 * (p + q) : Nat), .int .i64 (2 * p : Nat), .slice (some ⟨g1, 0, none⟩) m1 m1] 65))) := hb1.alloc hb1.size _
    clear hm1 hg1 hh1 hb1
    go_wp2_with fail
    refine Calls.mono (HS.out _ (errsE_below HE.out.1 HB1.out)) ?_
    rintro e w2 ⟨rfl, hb2⟩
    have HB2 : Hid (Below w.heap.size w w2) := HB1.out.trans (hb2.mono HB1.out.size)
    clear hb2
    go_wp2_with fail
    go_ret2
    exact ⟨rfl, HB2.out⟩
  · have he : encE k r n = 1 := by unfold encE; rw [if_neg hL]
    rw [he, evV_succ]
    have HR : Hid _ := fun u hu => hrows_bad k r u (E 0) hu hk0 hk1 hr0 hr1 hL
    clear he h hL
    unfold errAt at HR ⊢
    go_enter Tryd.func11, Tryd.ntmps11
    go_wp2_with fail
    refine Calls.mono (HR.out _ HE.out.1.1) ?_
    rintro e w1 ⟨rfl, hb1⟩
    have HB1 : Hid (Below w.heap.size w w1) := hb1
    clear hb1
    go_wp2_with fail
    go_ret2
    exact ⟨rfl, HB1.out.alloc HB1.out.size _⟩
end Go.Proofs.YtmlpijlcpeoeaaaDoor

/- The chapter's worked answer of package code holds: the function 'alive' of the statements returns true. -/
namespace Go.Proofs.YtmlpijlcpeoeaaaDoor
open Go.RowKit Gf
set_option linter.unusedVariables false
set_option maxRecDepth 20000
theorem alive7_1 : imgL 1 (carN (groupN 1 2)) (cntN (2 * 1) 2) (strD (cntN (2 * 1) 2) [5, 7]) 4 = [140] := by decide +kernel
theorem alive7_2 : imgL 1 (carN (groupN 1 2)) (cntN (2 * 1) 2) (strD (cntN (2 * 1) 2) [5, 7]) 5 = [136] := by decide +kernel
set_option maxHeartbeats 2000000 in
theorem alive7_ok (w : World) (E : Nat → Addr) (hE : ErrsF w E) : Calls Tryd.prog 9 #[] w fun e w' => e = .returned (.bool true) ∧ Below w.heap.size w w' := by
  have HE : Hid (ErrsF w E) := hE
  clear hE
  have HB0 : Hid (Below w.heap.size w (w.alloc (.cells #[.int .u8 5, .int .u8 7] 5))) := (Below.refl _ _).alloc (Nat.le_refl _) _
  have HL : Hid (Row8 (w.alloc (.cells #[.int .u8 5, .int .u8 7] 5)) (some ⟨w.heap.size, 0, none⟩) [5, 7]) := row8_own (show (w.alloc (.cells #[.int .u8 5, .int .u8 7] 5)).heap[w.heap.size]? = some (.cells (vfs [5, 7]) 5 (0, 0)) from heap_alloc_last _ _)
  go_enter Tryd.func9, Tryd.ntmps9
  go_wp2_with fail
  refine Calls.mono (encode_ok 1 2 2 2 _ [5, 7] _ E (errsF_below HE.out HB0.out) (by decide) (by decide) (by decide) (by decide) (by decide) rfl HL.out) ?_
  rintro e w2 ⟨M, c, gs, rfl, rfl, hE2, hb2⟩
  have HB2 : Hid (Below w.heap.size w w2) := HB0.out.trans (hb2.mono HB0.out.size)
  obtain ⟨_, hl, hT, hR, _⟩ := hE2
  have hl6 : gs.length = 6 := hl
  obtain ⟨⟨g4, c4⟩, h4⟩ : ∃ p, gs[4]? = some p := ⟨_, List.getElem?_eq_getElem (by omega)⟩
  obtain ⟨⟨g5, c5⟩, h5⟩ : ∃ p, gs[5]? = some p := ⟨_, List.getElem?_eq_getElem (by omega)⟩
  have r4 := row8_has (hR 4 _ h4).2
  have r5 := row8_has (hR 5 _ h5).2
  rw [alive7_1] at r4
  rw [alive7_2] at r5
  have d4 := cellAt hT 4 _ (slW_at (rowsP_at h4))
  have d5 := cellAt hT 5 _ (slW_at (rowsP_at h5))
  rw [show cntN (2 * 1) 2 = 1 from by decide] at d4 d5
  have kC4 : ∀ u, Below w2.heap.size w2 u → (convert 22 9 (.slice (some ⟨g4, 0, none⟩) 1 c4)).run Tryd.prog u = .ok (.string ⟨#[140]⟩) u := fun u hu => by
    have := conv8 (la := 1) (ca := c4) rfl (row8_below r4 hu)
    rwa [show str8 [140] = { data := #[140] } by decide +kernel] at this
  have kC5 : ∀ u, Below w2.heap.size w2 u → (convert 22 9 (.slice (some ⟨g5, 0, none⟩) 1 c5)).run Tryd.prog u = .ok (.string ⟨#[136]⟩) u := fun u hu => by
    have := conv8 (la := 1) (ca := c5) rfl (row8_below r5 hu)
    rwa [show str8 [136] = { data := #[136] } by decide +kernel] at this
  have kB : ∀ (b : Nat) (u : World) (x : F) (s : ByteArray), u.heap[b]? = some (.cells #[.int .u8 (x.toNat : Int)] 5 (0, 0)) → str8 [x] = s → (convert 22 9 (.slice (some ⟨b, 0, none⟩) 1 1)).run Tryd.prog u = .ok (.string s) u := fun b u x s h e => by
    have := conv8 (la := 1) (ca := 1) (show 1 = ([x] : List F).length from rfl) (row8_own (xs := [x]) h)
    rwa [e] at this
  have b0 : Below w2.heap.size w2 w2.drew := (Below.refl _ _).drew
  have b1 : Below w2.heap.size w2 (w2.alloc (.cells #[.int .u8 140] 5)) := (Below.refl _ _).alloc (Nat.le_refl _) _
  have b2 : Below w2.heap.size w2 ((w2.alloc (.cells #[.int .u8 140] 5)).alloc (.cells #[.int .u8 136] 5)) := b1.alloc (by simp) _
  have f1 := kC4 _ b0
  have f2 := kC4 _ b1.drew
  have f3 := kC5 _ b1.drew
  have f4 := kC5 _ b2.drew
  have f5 := kB w2.heap.size (w2.alloc (.cells #[.int .u8 140] 5)).drew 140 ⟨#[140]⟩ (heap_alloc_last _ _) (by decide +kernel)
  have f6 := kB (w2.alloc (.cells #[.int .u8 140] 5)).heap.size ((w2.alloc (.cells #[.int .u8 140] 5)).alloc (.cells #[.int .u8 136] 5)).drew 136 ⟨#[136]⟩ (heap_alloc_last _ _) (by decide +kernel)
  rw [World.size_alloc] at f6
  have e140 : ((ByteArray.mk #[140]).toList == (ByteArray.mk #[140]).toList) = true := by decide +kernel
  have e136 : ((ByteArray.mk #[136]).toList == (ByteArray.mk #[136]).toList) = true := by decide +kernel
  have lM := ltHeap hT
  clear hl hT hR h4 h5 hb2 kC4 kC5 kB b0 b1 b2 r4 r5
  go_wp2
  go_region
  go_wp2
  go_ret
  have z := HB2.out.size
  exact ⟨rfl, ((HB2.out.alloc z _).alloc (by simp; omega) _).drew⟩
end Go.Proofs.YtmlpijlcpeoeaaaDoor

/- What the statements' own sum of two lists answers, of all lists of one length: a new list; nothing that was there turns. -/
namespace Go.Proofs.YtmlpijlcpeoeaaaDoor
open Go.RowKit Gf
set_option linter.unusedVariables false
set_option maxRecDepth 20000
/-- two lists added, place by place -/
def sumL (n : Nat) (xs ys : List F) : List F := rowF n (fun j => ga (at8 xs j) (at8 ys j))
theorem sumL_len (n : Nat) (xs ys : List F) : (sumL n xs ys).length = n := rowF_len _ _
/-- as far as place i -/
def sumP (n : Nat) (xs ys : List F) (i : Nat) : List F := rowF n (fun j => if j < i then ga (at8 xs j) (at8 ys j) else at8 xs j)
theorem sumP_len (n : Nat) (xs ys : List F) (i : Nat) : (sumP n xs ys i).length = n := rowF_len _ _
theorem sumP_zero {n : Nat} {xs ys : List F} (h : n = xs.length) : sumP n xs ys 0 = xs := (rowF_eq h.symm fun j hj => by rw [if_neg (by omega)]).symm
theorem sumP_full (n : Nat) (xs ys : List F) : sumP n xs ys n = sumL n xs ys := rowF_congr fun j hj => by rw [if_pos hj]
theorem sumP_at {n i : Nat} {xs ys : List F} (h : i < n) : at8 (sumP n xs ys i) i = at8 xs i := by rw [sumP, at8_rowF h, if_neg (by omega)]
theorem sumP_set {n i : Nat} {xs ys : List F} (h : i < n) : (sumP n xs ys i).set i (ga (at8 xs i) (at8 ys i)) = sumP n xs ys (i + 1) := by
  apply list_ext8
  · rw [List.length_set, sumP_len, sumP_len]
  · intro j
    by_cases hj : j < n
    · rw [show at8 (sumP n xs ys (i + 1)) j = if j < i + 1 then ga (at8 xs j) (at8 ys j) else at8 xs j from at8_rowF hj]
      by_cases hij : i = j
      · subst hij
        have e : at8 ((sumP n xs ys i).set i (ga (at8 xs i) (at8 ys i))) i = ga (at8 xs i) (at8 ys i) := by
          generalize ga (at8 xs i) (at8 ys i) = v
          simp [at8, List.getD_eq_getElem?_getD, sumP_len, h]
        rw [e, if_pos (by omega)]
      · have e : at8 ((sumP n xs ys i).set i (ga (at8 xs i) (at8 ys i))) j = at8 (sumP n xs ys i) j := by
          simp only [at8, List.getD_eq_getElem?_getD, List.getElem?_set]
          rw [if_neg hij]
        rw [e, sumP, at8_rowF hj]
        by_cases h2 : j < i
        · rw [if_pos h2, if_pos (by omega)]
        · rw [if_neg h2, if_neg (by omega)]
    · rw [at8_over (by rw [List.length_set, sumP_len]; omega), at8_over (by rw [sumP_len]; omega)]
theorem append8_zero (w : World) (p : Addr) (a : Option Addr) (ca : Nat) (ty : TypeId) :
    (Builtin.append_ #[22, 22] ty #[.slice (some p) 0 0, .slice a 0 ca]).run Tryd.prog w = .ok (.slice (some p) 0 0) w := by
  obtain ⟨i, hi, h1, h2, h3⟩ := info8
  cases a <;> simp [Builtin.append_, run_underlying Tryd.underlying22, sizeOf, typeInfo, hi, Builtin.lenOf, Builtin.firstCells, loadCells, loadCellsFrom, storeCells]
/-- a copy in a block of one's own -/
theorem copy8 {w : World} {a : Option Addr} {la ca : Nat} {xs : List F} (ty : TypeId) (hla : la = xs.length) (hl : la ≤ 140737488355328) (hx : Row8 w a xs) :
    ∃ g cap w', (Builtin.append_ #[22, 22] ty #[.slice (some ⟨w.heap.size, 0, none⟩) 0 0, .slice a la ca]).run Tryd.prog (w.alloc (.cells #[] 5)) = .ok (.slice (some ⟨g, 0, none⟩) la cap) w' ∧
      Has8 w' g xs cap ∧ w.heap.size ≤ g ∧ Below w.heap.size w w' := by
  have hB : Below w.heap.size w (w.alloc (.cells #[] 5)) := (Below.refl _ _).alloc (Nat.le_refl _) _
  by_cases h0 : la = 0
  · subst h0
    obtain rfl : xs = [] := List.eq_nil_of_length_eq_zero hla.symm
    exact ⟨w.heap.size, 0, _, append8_zero _ _ _ _ _, has8_full (xs := []) (heap_alloc_last w _) (by simp [maxLen]), Nat.le_refl _, hB⟩
  · have hx' := row8_below hx hB
    obtain ⟨b, off, rfl, _, hc⟩ := row8_get hx' (show 0 < xs.length by omega)
    obtain ⟨g', cap', w', h1, h2, h3, h4⟩ := append8_grows (w := w.alloc (.cells #[] 5)) (g := w.heap.size) (n := 0) (cap := 0) (xs := []) (ys := xs) (ad := ⟨b, off, none⟩) (m := la) (c := ca) ty (.inl rfl) rfl hla (by omega) (by omega) (fun j hj => by
      have : (⟨b, off, none⟩ : Addr).add j = ⟨b, off + j, none⟩ := by unfold Addr.add; split <;> simp_all
      rw [this]; exact hc j hj)
    refine ⟨g', cap', w', by rw [h1]; simp, by simpa using h2, by simp at h4; omega, ?_⟩
    exact hB.trans ⟨h3.os, h3.tape, h3.output, h3.size, fun k hk => h3.block k (by simp; omega) (by simp)⟩
set_option maxHeartbeats 4000000 in
theorem sum_F (la ca cb : Nat) (a b : Option Addr) (xs ys : List F) (w : World) (hla : la = xs.length) (hlb : la = ys.length) (hl : la ≤ 140737488355328) (hx : Row8 w a xs) (hy : Row8 w b ys) :
    Calls Tryd.prog 25 #[.slice a la ca, .slice b la cb] w fun e w' => ∃ g cap, e = .returned (.slice (some ⟨g, 0, none⟩) la cap) ∧ w.heap.size ≤ g ∧ Has8 w' g (sumL la xs ys) cap ∧ Below w.heap.size w w' := by
  obtain ⟨g, cap, w1, hrun, h8, hg, hb⟩ := copy8 (ca := ca) 22 hla hl hx
  have HRun : Hid _ := hrun
  have H8 : Hid (Has8 w1 g xs cap) := h8
  have HB1 : Hid (Below w.heap.size w w1) := hb
  have HY : Hid (Row8 w b ys) := hy
  have HLA : Hid (la = xs.length) := hla
  have HLB : Hid (la = ys.length) := hlb
  have HS0 : Hid (Has8 w1 g (sumP la xs ys 0) cap) := by
    show Has8 ..
    rw [sumP_zero hla]; exact h8
  clear hrun h8 hb hy hla hlb hx
  go_enter Tryd.func25, Tryd.ntmps25
  go_wp2_with (at_builtin; refine wpList_append_run rfl _ _ 22 rfl _ _ _ _ rfl rfl HRun.out ?_)
  go_loopw [12] (fun t wr => ∃ i : Nat, i ≤ la ∧ t = .int .i64 i ∧ w1.grownBy wr (some g) ∧ Has8 wr g (sumP la xs ys i) cap) (fun t _ => la - (intOf t).toNat)
  case atStart => exact ⟨0, by omega, rfl, World.grownBy.refl _ _, HS0.out⟩
  case round =>
    obtain ⟨i, hi, rfl, hgb, hs⟩ := hrel
    have HG : Hid (w1.grownBy wr (some g)) := hgb
    have HBW : Hid (Below w.heap.size w wr) := below_grown HB1.out hgb hg
    by_cases hlt : i < la
    · obtain ⟨e0, e1⟩ := has8_cell hs (show i < (sumP la xs ys i).length by rw [sumP_len]; exact hlt)
      rw [sumP_at hlt] at e0
      obtain ⟨b1, o1, rfl, hb1, hc1⟩ := row8_get (row8_below HY.out HBW.out) (show i < ys.length by rw [← HLB.out]; exact hlt)
      have e2 := hc1 i (by rw [← HLB.out]; exact hlt)
      have ex := xor_val (at8 xs i) (at8 ys i)
      have HS : Hid (Has8 (wr.setCell ⟨g, i, none⟩ (.int .u8 ((ga (at8 xs i) (at8 ys i)).toNat : Int))) g (sumP la xs ys (i + 1)) cap) := by
        have := has8_set hs (show i < (sumP la xs ys i).length by rw [sumP_len]; exact hlt) (ga (at8 xs i) (at8 ys i))
        rwa [sumP_set hlt] at this
      clear hs hc1 hgb
      go_wp2
      go_region
      go_wp2
      exact ⟨⟨i + 1, by omega, by go_num, grownBy_drew (grownBy_setCell HG.out _), HS.out⟩, by simp [intOf]; omega⟩
    · obtain rfl : i = la := by omega
      rw [sumP_full] at hs
      have HS : Hid _ := hs
      clear hs hgb
      go_wp2
      go_ret
      exact ⟨g, cap, rfl, hg, HS.out, HBW.out⟩
end Go.Proofs.YtmlpijlcpeoeaaaDoor

/- Shards in a block of one's own: three cells each. What Shards of package code answers, of all numbers and lists of bytes. -/
namespace Go.Proofs.YtmlpijlcpeoeaaaDoor
open Go.RowKit Gf
set_option linter.unusedVariables false
set_option maxRecDepth 20000
abbrev Tri := Value × Value × Value
/-- three values to an element -/
def triL (T : List Tri) : List Value := T.flatMap fun t => [t.1, t.2.1, t.2.2]
def triC (T : List Tri) : Array Value := (triL T).toArray
def tri3 (t : Tri) : Nat → Value
  | 0 => t.1
  | 1 => t.2.1
  | _ => t.2.2
theorem triL_at : ∀ (T : List Tri) (j q : Nat), q < 3 → (triL T)[j * 3 + q]? = T[j]?.map fun t => tri3 t q
  | [], j, q, _ => by simp [triL]
  | t :: T, 0, q, h => by
    match q, h with
    | 0, _ => rfl
    | 1, _ => rfl
    | 2, _ => rfl
  | t :: T, j + 1, q, h => by
    have := triL_at T j q h
    rw [show (j + 1) * 3 + q = (j * 3 + q) + 3 by omega]
    exact this
theorem triL_set : ∀ (T : List Tri) (j : Nat) (a b c : Value), (((triL T).set (j * 3) a).set (j * 3 + 1) b).set (j * 3 + 2) c = triL (T.set j (a, b, c))
  | [], j, a, b, c => by simp [triL]
  | t :: T, 0, a, b, c => rfl
  | t :: T, j + 1, a, b, c => by
    have := triL_set T j a b c
    rw [show (j + 1) * 3 + 1 = (j * 3 + 1) + 3 by omega, show (j + 1) * 3 + 2 = (j * 3 + 2) + 3 by omega, show (j + 1) * 3 = (j * 3) + 3 by omega]
    show t.1 :: t.2.1 :: t.2.2 :: (((triL T).set (j * 3) a).set (j * 3 + 1) b).set (j * 3 + 2) c = _
    rw [this]; rfl
theorem triC_at {T : List Tri} {j q : Nat} {t : Tri} (h : T[j]? = some t) (hq : q < 3) : (triC T)[j * 3 + q]? = some (tri3 t q) := by
  show (triL T).toArray[j * 3 + q]? = _
  rw [List.getElem?_toArray, triL_at T j q hq, h]; rfl
theorem triC_set (T : List Tri) (j : Nat) (a b c : Value) : (((triC T).setIfInBounds (j * 3) a).setIfInBounds (j * 3 + 1) b).setIfInBounds (j * 3 + 2) c = triC (T.set j (a, b, c)) := by
  apply Array.toList_inj.1
  simp only [Array.toList_setIfInBounds, triC]
  exact triL_set T j a b c
/-- the zero of a shard -/
def zeroT : Tri := (.int .i64 0, .slice none 0 0, .slice none 0 0)
theorem infoT : ∃ i, Tryd.prog.info? 38 = some i ∧ i.size = 3 ∧ i.bytes = 56 ∧ i.zero = some (.agg #[.int .i64 0, .slice none 0 0, .slice none 0 0]) := by
  have hi : (Tryd.prog.info? 38).map (fun i => (i.size, i.bytes, i.zero)) = some (3, 56, some (.agg #[.int .i64 0, .slice none 0 0, .slice none 0 0])) := by kernel_rfl
  cases hq : Tryd.prog.info? 38 with
  | none => simp [hq] at hi
  | some i =>
    simp only [hq, Option.map_some, Option.some.injEq, Prod.mk.injEq] at hi
    exact ⟨i, rfl, hi.1, hi.2.1, hi.2.2⟩
theorem run_makeT (n : Nat) (hn : n ≤ 64) (w : World) :
    (Instr.makeSlice 30 (.int .i64 (n : Int)) (.int .i64 (n : Int))).run Tryd.prog w = .ok (.slice (some ⟨w.heap.size, 0, none⟩) n n) (w.alloc (.cells (triC (List.replicate n zeroT)) 38)) := by
  obtain ⟨i, hi, h1, h2, h3⟩ := infoT
  have := run_make (P := Tryd.prog) w 30 38 i _ Tryd.underlying30 hi h3 .i64 .i64 n n (by omega) (by omega) (by rw [h2]; omega) (by omega)
  rw [this, h1]
  have e : madeCells (Value.agg #[.int .i64 0, .slice none 0 0, .slice none 0 0]).cells (n * 3) = triC (List.replicate n zeroT) := by
    apply Array.ext_getElem?
    intro i
    have hz : (Value.agg #[.int .i64 0, .slice none 0 0, .slice none 0 0]).cells = #[.int .i64 0, .slice none 0 0, .slice none 0 0] := by rfl
    rw [hz]
    obtain ⟨j, q, rfl, hq⟩ : ∃ j q, i = j * 3 + q ∧ q < 3 := ⟨i / 3, i % 3, by omega, by omega⟩
    by_cases h : j < n
    · rw [triC_at (t := zeroT) (by rw [List.getElem?_replicate, if_pos h]) hq]
      simp only [madeCells, Array.getElem?_map]
      rw [Array.getElem?_range]
      rw [if_pos (by omega)]
      simp only [Option.map_some]
      rw [show (j * 3 + q) % (#[Value.int .i64 0, .slice none 0 0, .slice none 0 0] : Array Value).size = q by show (j * 3 + q) % 3 = q; omega]
      match q, hq with
      | 0, _ => rfl
      | 1, _ => rfl
      | 2, _ => rfl
    · have e9 : (triC (List.replicate n zeroT))[j * 3 + q]? = none := by
        show (triL _).toArray[j * 3 + q]? = _
        rw [List.getElem?_toArray, triL_at _ _ _ hq, List.getElem?_replicate, if_neg h]; rfl
      rw [e9]
      simp only [madeCells, Array.getElem?_map]
      rw [Array.getElem?_range, if_neg (by omega)]
      rfl
  simp only [Int.toNat_natCast, e]
/-- shard j of a list of halves -/
def shV (vs : List Value) (j : Nat) : Tri := (.int .i64 (j : Int), vs.getD (2 * j) (.slice none 0 0), vs.getD (2 * j + 1) (.slice none 0 0))
/-- the shards made as far as j -/
def shP (vs : List Value) (m j : Nat) : List Tri := (List.range m).map fun i => if i < j then shV vs i else zeroT
theorem shP_zero (vs : List Value) (m : Nat) : List.replicate m zeroT = shP vs m 0 := by
  apply List.ext_getElem?
  intro i
  simp only [shP, List.getElem?_map, List.getElem?_replicate]
  by_cases h : i < m
  · rw [if_pos h, List.getElem?_range h]; rfl
  · rw [if_neg h, List.getElem?_eq_none (by simp; omega)]; rfl
theorem shP_full (vs : List Value) (m : Nat) : shP vs m m = (List.range m).map (shV vs) := by
  apply List.map_congr_left
  intro i hi
  rw [if_pos (by simpa using hi)]
theorem shP_set {vs : List Value} {m j : Nat} (h : j < m) : (shP vs m j).set j (shV vs j) = shP vs m (j + 1) := by
  apply List.ext_getElem?
  intro i
  rw [List.getElem?_set]
  simp only [shP, List.getElem?_map, List.length_map, List.length_range]
  by_cases hi : j = i
  · subst hi
    rw [if_pos rfl, if_pos h, List.getElem?_range h]
    simp
  · rw [if_neg hi]
    by_cases hm : i < m
    · rw [List.getElem?_range hm]
      simp only [Option.map_some]
      by_cases h2 : i < j
      · rw [if_pos h2, if_pos (by omega)]
      · rw [if_neg h2, if_neg (by omega)]
    · rw [List.getElem?_eq_none (by simp; omega)]; rfl
/-- a stripe's shards in memory, each half in a block of its own -/
def ShAt (w : World) (B S : Nat) (k r n : Nat) (xs : List F) (gs : List (Nat × Nat)) : Prop :=
  B ≤ S ∧ gs.length = 2 * (k + r) ∧ w.heap[S]? = some (.cells (triC ((List.range (k + r)).map (shV (rowsP (cntN (2 * k) n) gs)))) 38 (0, 0)) ∧ RowsP w B gs (imgL k (carN (groupN k r)) (cntN (2 * k) n) (strD (cntN (2 * k) n) xs))
theorem shAt_below {w w' : World} {B S k r n : Nat} {xs : List F} {gs : List (Nat × Nat)} (h : ShAt w B S k r n xs gs) (hb : Below w.heap.size w w') : ShAt w' B S k r n xs gs := ⟨h.1, h.2.1, heap_later h.2.2.1 hb, rowsP_below h.2.2.2 hb⟩
theorem has8_grownT {w w' : World} {S g cap : Nat} {cs : Array Value} {fr : Nat × Nat} {xs : List F} (hg : w.grownBy w' (some S)) (h : Has8 w g xs cap) (hS : w.heap[S]? = some (.cells cs 38 fr)) : Has8 w' g xs cap := by
  obtain ⟨cur, h1, h2⟩ := h
  exact ⟨cur, grown_keep hg h1 (fun e => kind_ne h1 hS (by decide) (Option.some.inj e)), h2⟩
theorem tri_store {w : World} {S j : Nat} {T : List Tri} {a b c : Value} (h : w.heap[S]? = some (.cells (triC T) 38 (0, 0))) :
    (((w.setCell ⟨S, j * 3, none⟩ a).setCell ⟨S, j * 3 + 1, none⟩ b).setCell ⟨S, j * 3 + 2, none⟩ c).heap[S]? = some (.cells (triC (T.set j (a, b, c))) 38 (0, 0)) := by
  rw [heap_setCell_same _ _ _ _ _ _ (heap_setCell_same _ _ _ _ _ _ (heap_setCell_same _ _ _ _ _ _ h)), triC_set]
theorem tri_store_other {w : World} {S g j : Nat} {a b c : Value} {o : Obj} (hne : g ≠ S) (h : w.heap[g]? = some o) :
    (((w.setCell ⟨S, j * 3, none⟩ a).setCell ⟨S, j * 3 + 1, none⟩ b).setCell ⟨S, j * 3 + 2, none⟩ c).heap[g]? = some o :=
  (heap_setCell_other _ _ _ _ hne).trans ((heap_setCell_other _ _ _ _ hne).trans ((heap_setCell_other _ _ _ _ hne).trans h))
set_option maxHeartbeats 4000000 in
theorem shards_ok (k r n ca : Nat) (a : Option Addr) (xs : List F) (w : World) (E : Nat → Addr) (hE : ErrsF w E) (h1 : 1 ≤ k) (h2 : 2 ≤ r) (h3 : k + r ≤ 16) (h4 : 1 ≤ n) (h5 : n ≤ 128 * k) (hn : n = xs.length) (hx : Row8 w a xs) :
    Calls Tryd.prog 12 #[.int .i64 k, .int .i64 r, .slice a n ca] w fun e w' => ∃ (S m : Nat) (gs : List (Nat × Nat)), e = .returned (.tuple #[.slice (some ⟨S, 0, none⟩) m m, .nilIface]) ∧ m = k + r ∧
      ShAt w' w.heap.size S k r n xs gs ∧ Below w.heap.size w w' := by
  have HENC : Hid _ := encode_ok k r n ca a xs w E hE h1 h2 h3 h4 h5 hn hx
  obtain ⟨H, hH⟩ : ∃ H, H = cntN (2 * k) n := ⟨_, rfl⟩
  have HH : Hid (H = cntN (2 * k) n) := hH
  obtain ⟨m, hm⟩ : ∃ m, m = k + r := ⟨_, rfl⟩
  have HM : Hid (m = k + r) := hm
  have hm16 : m ≤ 16 := by omega
  have hmk := run_makeT m (by omega)
  clear hE hx hn hH hm
  go_enter Tryd.func12, Tryd.ntmps12
  go_wp2_with fail
  refine Calls.mono HENC.out ?_
  rintro e w1 ⟨M, c, gs, rfl, hc, hEnc, hb1⟩
  have HEN : Hid (EncAt w1 w.heap.size M k r n xs gs) := hEnc
  have HB1 : Hid (Below w.heap.size w w1) := hb1
  have hc2 : c = 2 * m := by rw [hc, HM.out]
  have hq : (c : Int).tdiv 2 = (m : Int) := by rw [Int.tdiv_eq_ediv_of_nonneg (by omega)]; omega
  have hq2 : (c : Int) / 2 = (m : Int) := by omega
  have HC : Hid (c = 2 * m) := hc2
  have HGL : Hid (gs.length = 2 * m) := by show _ = _; rw [hEnc.2.1, HM.out]
  clear hc hEnc hb1 hc2 HENC
  rw [shP_zero (rowsP H gs)] at hmk
  go_wp2
  have hA5 := holds_new (holds_cons (holds_nil w1) HEN.out.2.2.1) (triC (shP (rowsP H gs) m 0)) 38
  have HB5 : Hid (Below w.heap.size w (w1.alloc (.cells (triC (shP (rowsP H gs) m 0)) 38))) := HB1.out.alloc HB1.out.size _
  have HR5 : Hid (RowsP (w1.alloc (.cells (triC (shP (rowsP H gs) m 0)) 38)) w.heap.size gs (imgL k (carN (groupN k r)) H (strD H xs))) := by
    have := HEN.out.2.2.2
    rw [← HH.out] at this
    exact rowsP_below this ((Below.refl _ _).alloc (Nat.le_refl _) _)
  rw [← HH.out] at hA5
  have hSM := HB1.out.size
  have HA5 : Hid _ := hA5
  clear hA5 hmk HB1 HEN
  generalize (w1.alloc (.cells (triC (shP (rowsP H gs) m 0)) 38)) = W5 at *
  generalize hS : w1.heap.size = S at *
  clear hS
  have hSM2 : M ≠ S := kind_ne (holds_at HA5.out 1 rfl) (holds_at HA5.out 0 rfl) (by decide)
  go_loopw [28] (fun i wr => ∃ j : Nat, j ≤ m ∧ i = .int .i64 j ∧ Below w.heap.size w wr ∧ W5.grownBy wr (some S) ∧
    Holds wr [(S, .cells (triC (shP (rowsP H gs) m j)) 38 (0, 0)), (M, .cells (slW (rowsP H gs) (2 * (k + r))) 22 (0, 0))]) (fun i _ => m - (intOf i).toNat)
  case atStart => exact ⟨0, by omega, rfl, HB5.out, World.grownBy.refl _ _, HA5.out⟩
  case round =>
    obtain ⟨j, hj, rfl, hb, hg, hh⟩ := hrel
    have HB : Hid (Below w.heap.size w wr) := hb
    have HG : Hid (W5.grownBy wr (some S)) := hg
    have HH2 : Hid _ := hh
    clear hb hg hh
    by_cases hlt : j < m
    · obtain ⟨p0, hp0⟩ : ∃ p0, p0 = 2 * j := ⟨_, rfl⟩
      obtain ⟨p1, hp1⟩ : ∃ p1, p1 = 2 * j + 1 := ⟨_, rfl⟩
      have t1 : (2 : Int) * (j : Int) = (p0 : Int) := by omega
      have t2 : (p0 : Int) + 1 = (p1 : Int) := by omega
      have hp9 : (p1 : Int) ≤ 100 := by omega
      have hg0 : gs[p0]? = some gs[p0]! := by rw [getElem!_pos gs p0 (by rw [HGL.out]; omega)]; exact List.getElem?_eq_getElem (by rw [HGL.out]; omega)
      have hg1 : gs[p1]? = some gs[p1]! := by rw [getElem!_pos gs p1 (by rw [HGL.out]; omega)]; exact List.getElem?_eq_getElem (by rw [HGL.out]; omega)
      generalize gs[p0]! = q0 at hg0
      generalize gs[p1]! = q1 at hg1
      obtain ⟨g0, cap0⟩ := q0
      obtain ⟨g1, cap1⟩ := q1
      have d0 := cellAt (holds_at HH2.out 1 rfl) p0 _ (slW_at (rowsP_at hg0))
      have d1 := cellAt (holds_at HH2.out 1 rfl) p1 _ (slW_at (rowsP_at hg1))
      have l0 : p0 < c := by have := HC.out; omega
      have l1 : p1 < c := by have := HC.out; omega
      have hz : (shP (rowsP H gs) m j)[j]? = some zeroT := by simp [shP, hlt]
      have e0 := cellAt (holds_at HH2.out 0 rfl) (j * 3) _ (triC_at (q := 0) hz (by decide))
      have e1 := cellAt (holds_at HH2.out 0 rfl) (j * 3 + 1) _ (triC_at (q := 1) hz (by decide))
      have e2 := cellAt (holds_at HH2.out 0 rfl) (j * 3 + 2) _ (triC_at (q := 2) hz (by decide))
      have f0 : wr.frozen? ⟨S, j * 3, none⟩ = false := frozen_of_row _ _ _ _ _ (holds_at HH2.out 0 rfl)
      have f1 : wr.frozen? ⟨S, j * 3 + 1, none⟩ = false := frozen_of_row _ _ _ _ _ (holds_at HH2.out 0 rfl)
      have f2 : wr.frozen? ⟨S, j * 3 + 2, none⟩ = false := frozen_of_row _ _ _ _ _ (holds_at HH2.out 0 rfl)
      have HSH : Hid (shV (rowsP H gs) j = (.int .i64 (j : Int), .slice (some ⟨g0, 0, none⟩) H cap0, .slice (some ⟨g1, 0, none⟩) H cap1)) := by
        show _ = _
        unfold shV
        rw [← hp1, ← hp0, List.getD_eq_getElem?_getD, List.getD_eq_getElem?_getD, rowsP_at hg0, rowsP_at hg1]; rfl
      clear hp0 hp1 hg0 hg1 hz
      simp only [tri3, zeroT] at e0 e1 e2
      go_wp2
      go_region
      go_wp2
      refine ⟨⟨j + 1, by omega, by go_num, ?_, ?_, ?_⟩, by simp [intOf]; omega⟩
      · exact (((HB.out.setCell (by show w.heap.size ≤ S; omega) _).setCell (by show w.heap.size ≤ S; omega) _).setCell (by show w.heap.size ≤ S; omega) _).drew
      · exact grownBy_drew (grownBy_setCell (grownBy_setCell (grownBy_setCell HG.out _) _) _)
      · have k0 := tri_store (j := j) (a := .int .i64 (j : Int)) (b := .slice (some ⟨g0, 0, none⟩) H cap0) (c := .slice (some ⟨g1, 0, none⟩) H cap1) (holds_at HH2.out 0 rfl)
        have k1 := tri_store_other (j := j) (a := .int .i64 (j : Int)) (b := .slice (some ⟨g0, 0, none⟩) H cap0) (c := .slice (some ⟨g1, 0, none⟩) H cap1) hSM2 (holds_at HH2.out 1 rfl)
        rw [← HSH.out, shP_set hlt] at k0
        exact holds_cons (holds_cons (holds_nil _) k1) k0
    · obtain rfl : j = m := by omega
      go_wp2
      go_ret2
      refine ⟨S, j, gs, rfl, HM.out, ⟨hSM, by rw [HGL.out, HM.out], ?_, ?_⟩, HB.out⟩
      · have := holds_at HH2.out 0 rfl
        rw [shP_full] at this
        rw [← HM.out, ← HH.out]; exact this
      · rw [← HH.out]
        exact ⟨fun i p hp => ⟨(HR5.out.1 i p hp).1, has8_grownT HG.out (HR5.out.1 i p hp).2 (holds_at HA5.out 0 rfl)⟩, HR5.out.2⟩
theorem shards_bad (k r : Int) (n ca : Nat) (a : Option Addr) (w : World) (E : Nat → Addr) (hE : ErrsF w E) (hk0 : -9223372036854775808 ≤ k) (hk1 : k ≤ 9223372036854775807) (hr0 : -9223372036854775808 ≤ r) (hr1 : r ≤ 9223372036854775807) (hla : n ≤ 140737488355328) (h : encE k r n ≠ 0) :
    Calls Tryd.prog 12 #[.int .i64 k, .int .i64 r, .slice a n ca] w fun e w' => e = .returned (.tuple #[.slice none 0 0, evV E (encE k r n)]) ∧ Below w.heap.size w w' := by
  have HS : Hid _ := encode_bad k r n ca a w E hE hk0 hk1 hr0 hr1 hla h
  obtain ⟨s, hs⟩ : ∃ s, evV E (encE k r n) = errAt s := ⟨E (encE k r n - 1), by unfold evV; rw [if_neg h]⟩
  rw [hs] at HS ⊢
  clear hs h hE
  unfold errAt at HS ⊢
  go_enter Tryd.func12, Tryd.ntmps12
  go_wp2_with fail
  refine Calls.mono HS.out ?_
  rintro e w1 ⟨rfl, hb⟩
  have HB : Hid _ := hb
  clear hb
  go_wp2_with fail
  go_ret2
  exact ⟨rfl, HB.out⟩
end Go.Proofs.YtmlpijlcpeoeaaaDoor

/- What Num of package tesseranum answers of an error of package api, and of none: its number; nothing that was there turns. -/
namespace Go.Proofs.YtmlpijlcpeoeaaaDoor
open Go.RowKit Go.ChangeShapes
set_option linter.unusedVariables false
set_option maxRecDepth 20000
/-- the errors' variables, in the document's order -/
def gsNum : List Nat := [0, 2, 3, 4, 1, 5, 6, 7, 8, 9, 10, 11, 12, 13, 14, 15, 16, 17, 18, 19, 20, 21, 22, 23, 24]
theorem num_nil (w : World) : Calls Tryd.prog 14 #[.nilIface] w fun e w' => e = .returned (.int .i64 0) ∧ w = w' := by
  go_enter Tryd.func14, Tryd.ntmps14
  go_wp2
  go_ret
  exact ⟨rfl, rfl⟩
set_option maxHeartbeats 2000000 in
theorem num_fn (k : Nat) (a : Nat → Addr) (w : World) (hk : k < 25) (H : ∀ j, j < 25 → w.cell? ⟨gsNum.getD j 0, 0, none⟩ = some (errAt (a j))) (hne : ∀ j, j < 25 → j ≠ k → a k ≠ a j)
    (hh : ∀ j, j < 25 → ∃ c t, w.heap[(a j).block]? = some (.cells c t (0, 0))) :
    Calls Tryd.prog 14 #[.iface 140 (.pointer (some (a k)))] w fun e w' => e = .returned (.int .i64 ((k : Int) + 1)) ∧ Below w.heap.size w w' := by
  have c0 : w.cell? ⟨0, 0, none⟩ = some (.iface 140 (.pointer (some (a 0)))) := H 0 (by decide)
  have c1 : w.cell? ⟨2, 0, none⟩ = some (.iface 140 (.pointer (some (a 1)))) := H 1 (by decide)
  have c2 : w.cell? ⟨3, 0, none⟩ = some (.iface 140 (.pointer (some (a 2)))) := H 2 (by decide)
  have c3 : w.cell? ⟨4, 0, none⟩ = some (.iface 140 (.pointer (some (a 3)))) := H 3 (by decide)
  have c4 : w.cell? ⟨1, 0, none⟩ = some (.iface 140 (.pointer (some (a 4)))) := H 4 (by decide)
  have c5 : w.cell? ⟨5, 0, none⟩ = some (.iface 140 (.pointer (some (a 5)))) := H 5 (by decide)
  have c6 : w.cell? ⟨6, 0, none⟩ = some (.iface 140 (.pointer (some (a 6)))) := H 6 (by decide)
  have c7 : w.cell? ⟨7, 0, none⟩ = some (.iface 140 (.pointer (some (a 7)))) := H 7 (by decide)
  have c8 : w.cell? ⟨8, 0, none⟩ = some (.iface 140 (.pointer (some (a 8)))) := H 8 (by decide)
  have c9 : w.cell? ⟨9, 0, none⟩ = some (.iface 140 (.pointer (some (a 9)))) := H 9 (by decide)
  have c10 : w.cell? ⟨10, 0, none⟩ = some (.iface 140 (.pointer (some (a 10)))) := H 10 (by decide)
  have c11 : w.cell? ⟨11, 0, none⟩ = some (.iface 140 (.pointer (some (a 11)))) := H 11 (by decide)
  have c12 : w.cell? ⟨12, 0, none⟩ = some (.iface 140 (.pointer (some (a 12)))) := H 12 (by decide)
  have c13 : w.cell? ⟨13, 0, none⟩ = some (.iface 140 (.pointer (some (a 13)))) := H 13 (by decide)
  have c14 : w.cell? ⟨14, 0, none⟩ = some (.iface 140 (.pointer (some (a 14)))) := H 14 (by decide)
  have c15 : w.cell? ⟨15, 0, none⟩ = some (.iface 140 (.pointer (some (a 15)))) := H 15 (by decide)
  have c16 : w.cell? ⟨16, 0, none⟩ = some (.iface 140 (.pointer (some (a 16)))) := H 16 (by decide)
  have c17 : w.cell? ⟨17, 0, none⟩ = some (.iface 140 (.pointer (some (a 17)))) := H 17 (by decide)
  have c18 : w.cell? ⟨18, 0, none⟩ = some (.iface 140 (.pointer (some (a 18)))) := H 18 (by decide)
  have c19 : w.cell? ⟨19, 0, none⟩ = some (.iface 140 (.pointer (some (a 19)))) := H 19 (by decide)
  have c20 : w.cell? ⟨20, 0, none⟩ = some (.iface 140 (.pointer (some (a 20)))) := H 20 (by decide)
  have c21 : w.cell? ⟨21, 0, none⟩ = some (.iface 140 (.pointer (some (a 21)))) := H 21 (by decide)
  have c22 : w.cell? ⟨22, 0, none⟩ = some (.iface 140 (.pointer (some (a 22)))) := H 22 (by decide)
  have c23 : w.cell? ⟨23, 0, none⟩ = some (.iface 140 (.pointer (some (a 23)))) := H 23 (by decide)
  have c24 : w.cell? ⟨24, 0, none⟩ = some (.iface 140 (.pointer (some (a 24)))) := H 24 (by decide)
  clear H
  go_enter Tryd.func14, Tryd.ntmps14
  go_wp2
  clear c0 c1 c2 c3 c4 c5 c6 c7 c8 c9 c10 c11 c12 c13 c14 c15 c16 c17 c18 c19 c20 c21 c22 c23 c24
  have B0 : (w.alloc (.cells #[.iface 140 (.pointer (some (a 0))), .iface 140 (.pointer (some (a 1))), .iface 140 (.pointer (some (a 2))), .iface 140 (.pointer (some (a 3))), .iface 140 (.pointer (some (a 4))), .iface 140 (.pointer (some (a 5))), .iface 140 (.pointer (some (a 6))), .iface 140 (.pointer (some (a 7))), .iface 140 (.pointer (some (a 8))), .iface 140 (.pointer (some (a 9))), .iface 140 (.pointer (some (a 10))), .iface 140 (.pointer (some (a 11))), .iface 140 (.pointer (some (a 12))), .iface 140 (.pointer (some (a 13))), .iface 140 (.pointer (some (a 14))), .iface 140 (.pointer (some (a 15))), .iface 140 (.pointer (some (a 16))), .iface 140 (.pointer (some (a 17))), .iface 140 (.pointer (some (a 18))), .iface 140 (.pointer (some (a 19))), .iface 140 (.pointer (some (a 20))), .iface 140 (.pointer (some (a 21))), .iface 140 (.pointer (some (a 22))), .iface 140 (.pointer (some (a 23))), .iface 140 (.pointer (some (a 24)))] 27)).heap[w.heap.size]? = some (.cells ((List.range 25).map fun j => errAt (a j)).toArray 27 (0, 0)) := heap_alloc_last w _
  have HH : ∀ j, j < 25 → ∃ c t, (w.alloc (.cells #[.iface 140 (.pointer (some (a 0))), .iface 140 (.pointer (some (a 1))), .iface 140 (.pointer (some (a 2))), .iface 140 (.pointer (some (a 3))), .iface 140 (.pointer (some (a 4))), .iface 140 (.pointer (some (a 5))), .iface 140 (.pointer (some (a 6))), .iface 140 (.pointer (some (a 7))), .iface 140 (.pointer (some (a 8))), .iface 140 (.pointer (some (a 9))), .iface 140 (.pointer (some (a 10))), .iface 140 (.pointer (some (a 11))), .iface 140 (.pointer (some (a 12))), .iface 140 (.pointer (some (a 13))), .iface 140 (.pointer (some (a 14))), .iface 140 (.pointer (some (a 15))), .iface 140 (.pointer (some (a 16))), .iface 140 (.pointer (some (a 17))), .iface 140 (.pointer (some (a 18))), .iface 140 (.pointer (some (a 19))), .iface 140 (.pointer (some (a 20))), .iface 140 (.pointer (some (a 21))), .iface 140 (.pointer (some (a 22))), .iface 140 (.pointer (some (a 23))), .iface 140 (.pointer (some (a 24)))] 27)).heap[(a j).block]? = some (.cells c t (0, 0)) := fun j hj => by
    obtain ⟨c, t, h⟩ := hh j hj
    exact ⟨c, t, (Below.heap_alloc _ _ _ (ltHeap h)).trans h⟩
  have HB : Hid (Below w.heap.size w (w.alloc (.cells #[.iface 140 (.pointer (some (a 0))), .iface 140 (.pointer (some (a 1))), .iface 140 (.pointer (some (a 2))), .iface 140 (.pointer (some (a 3))), .iface 140 (.pointer (some (a 4))), .iface 140 (.pointer (some (a 5))), .iface 140 (.pointer (some (a 6))), .iface 140 (.pointer (some (a 7))), .iface 140 (.pointer (some (a 8))), .iface 140 (.pointer (some (a 9))), .iface 140 (.pointer (some (a 10))), .iface 140 (.pointer (some (a 11))), .iface 140 (.pointer (some (a 12))), .iface 140 (.pointer (some (a 13))), .iface 140 (.pointer (some (a 14))), .iface 140 (.pointer (some (a 15))), .iface 140 (.pointer (some (a 16))), .iface 140 (.pointer (some (a 17))), .iface 140 (.pointer (some (a 18))), .iface 140 (.pointer (some (a 19))), .iface 140 (.pointer (some (a 20))), .iface 140 (.pointer (some (a 21))), .iface 140 (.pointer (some (a 22))), .iface 140 (.pointer (some (a 23))), .iface 140 (.pointer (some (a 24)))] 27))) := (Below.refl _ _).alloc (Nat.le_refl _) _
  generalize (w.alloc (.cells #[.iface 140 (.pointer (some (a 0))), .iface 140 (.pointer (some (a 1))), .iface 140 (.pointer (some (a 2))), .iface 140 (.pointer (some (a 3))), .iface 140 (.pointer (some (a 4))), .iface 140 (.pointer (some (a 5))), .iface 140 (.pointer (some (a 6))), .iface 140 (.pointer (some (a 7))), .iface 140 (.pointer (some (a 8))), .iface 140 (.pointer (some (a 9))), .iface 140 (.pointer (some (a 10))), .iface 140 (.pointer (some (a 11))), .iface 140 (.pointer (some (a 12))), .iface 140 (.pointer (some (a 13))), .iface 140 (.pointer (some (a 14))), .iface 140 (.pointer (some (a 15))), .iface 140 (.pointer (some (a 16))), .iface 140 (.pointer (some (a 17))), .iface 140 (.pointer (some (a 18))), .iface 140 (.pointer (some (a 19))), .iface 140 (.pointer (some (a 20))), .iface 140 (.pointer (some (a 21))), .iface 140 (.pointer (some (a 22))), .iface 140 (.pointer (some (a 23))), .iface 140 (.pointer (some (a 24)))] 27)) = W1 at *
  clear hh
  go_loopw [36] (fun i wr => ∃ j : Nat, j ≤ k ∧ i = .int .i64 j ∧ wr = W1) (fun i _ => 25 - (intOf i).toNat)
  case atStart => exact ⟨0, by omega, rfl, rfl⟩
  case round =>
    obtain ⟨j, hj, rfl, rfl⟩ := hrel
    have hj25 : j < 25 := by omega
    have c0 : wr.cell? ⟨w.heap.size, j, none⟩ = some (.iface 140 (.pointer (some (a j)))) := cellAt B0 j _ (by
      simp only [List.getElem?_toArray, List.getElem?_map, List.getElem?_range hj25, Option.map_some, errAt])
    by_cases e : j = k
    · subst e
      have q := eq_same wr (a j)
      clear HH hne B0
      go_wp2
      go_ret
      exact ⟨rfl, HB.out⟩
    · obtain ⟨_, _, h1⟩ := HH k hk
      obtain ⟨_, _, h2⟩ := HH j hj25
      have q := eq_other (hne j hj25 e) h1 h2
      have hjk : j + 1 ≤ k := by omega
      clear HH hne B0 h1 h2
      go_wp2
      exact ⟨⟨j + 1, by omega, by go_num, trivial⟩, by simp [intOf]; omega⟩
theorem num_err {w : World} {es : List Addr} {k : Nat} {s : Addr} (h : ErrsAt w gsNum es) (hs : es[k]? = some s) :
    Calls Tryd.prog 14 #[errAt s] w fun e w' => e = .returned (.int .i64 ((k : Int) + 1)) ∧ Below w.heap.size w w' := by
  have hl : es.length = 25 := h.1.symm
  obtain ⟨hk, rfl⟩ := List.getElem?_eq_some_iff.1 hs
  have hget : ∀ j, (hj : j < 25) → es[j]? = some (es.getD j ⟨0, 0, none⟩) := fun j hj => by
    rw [List.getElem?_eq_getElem (by omega), List.getD_eq_getElem?_getD, List.getElem?_eq_getElem (by omega)]; rfl
  have hg : ∀ j, j < 25 → gsNum[j]? = some (gsNum.getD j 0) := fun j hj => by
    rw [List.getElem?_eq_getElem (by show j < 25; exact hj), List.getD_eq_getElem?_getD, List.getElem?_eq_getElem (by show j < 25; exact hj)]; rfl
  have hk25 : k < 25 := by omega
  have e0 : es[k] = es.getD k ⟨0, 0, none⟩ := by
    have := hget k hk25
    rw [List.getElem?_eq_getElem hk] at this
    exact Option.some.inj this
  have := num_fn k (fun j => es.getD j ⟨0, 0, none⟩) w hk25 (fun j hj => (h.2.2 j _ _ (hg j hj) (hget j hj)).1) (fun j hj hjk e => ?_) (fun j hj => (h.2.2 j _ _ (hg j hj) (hget j hj)).2)
  · rw [e0]; exact this
  · have e1 := hget k hk25
    have e2 := hget j hj
    rw [List.getElem?_eq_getElem (by omega)] at e1 e2
    have e3 : es[k] = es[j] := by rw [Option.some.inj e1, Option.some.inj e2]; exact e
    have hp := List.pairwise_iff_getElem.1 h.2.1
    rcases Nat.lt_or_gt_of_ne hjk with q | q
    · exact hp j k _ _ q e3.symm
    · exact hp k j _ _ q e3
end Go.Proofs.YtmlpijlcpeoeaaaDoor

/- The walk of ShardsSizes: at all numbers. -/
namespace Go.Proofs.YtmlpijlcpeoeaaaDoor
open Go.RowKit Gf
set_option linter.unusedVariables false
set_option maxRecDepth 20000
/-- the errors' addresses, by number -/
def ofL (es : List Addr) : Nat → Addr := fun j => es.getD j ⟨0, 0, none⟩
theorem errsE_num {w : World} {es : List Addr} (h : ErrsAt w gsNum es) : ErrsE w (ofL es) := by
  have hl : es.length = 25 := h.1.symm
  have hget : ∀ j, (hj : j < 25) → es[j]? = some (ofL es j) := fun j hj => by
    unfold ofL
    rw [List.getElem?_eq_getElem (by omega), List.getD_eq_getElem?_getD, List.getElem?_eq_getElem (by omega)]; rfl
  exact ⟨(h.2.2 0 _ _ rfl (hget 0 (by decide))).1, (h.2.2 11 _ _ rfl (hget 11 (by decide))).1, (h.2.2 19 _ _ rfl (hget 19 (by decide))).1⟩
theorem num_V {w : World} {es : List Addr} (n : Nat) (h : ErrsAt w gsNum es) (hn : n ≤ 25) :
    Calls Tryd.prog 14 #[evV (ofL es) n] w fun e w' => e = .returned (.int .i64 n) ∧ Below w.heap.size w w' := by
  cases n with
  | zero => exact (num_nil w).mono fun e w' ⟨he, hw⟩ => ⟨he, hw ▸ Below.refl _ _⟩
  | succ n =>
    have hl : es.length = 25 := h.1.symm
    rw [evV_succ]
    have := num_err (k := n) (s := ofL es n) h (by
      unfold ofL
      rw [List.getElem?_eq_getElem (by omega), List.getD_eq_getElem?_getD, List.getElem?_eq_getElem (by omega)]; rfl)
    simpa using this
theorem halfE_le (k n : Int) : halfE k n ≤ 25 := by unfold halfE; split <;> (try split) <;> (try split) <;> omega
theorem stripesE_le (k n : Int) : stripesE k n ≤ 25 := by unfold stripesE; split <;> (try split) <;> (try split) <;> omega
theorem stripesL_len (k n : Int) : (stripesL k n).length ≤ 32 := by
  by_cases h : stripesE k n = 0
  · obtain ⟨a, m, rfl, rfl, h1, h2, h3⟩ := stripes_ok h
    rw [stripesL_ok h1 h2 h3, strL_len]
    exact cnt_stripes h1 h3
  · rw [stripesL_no h]; simp
end Go.Proofs.YtmlpijlcpeoeaaaDoor

/- What the walks of stage 7 share: the errors by number, blocks that stay, shards in memory. -/
namespace Go.Proofs.YtmlpijlcpeoeaaaDoor
open Go.RowKit Gf
set_option linter.unusedVariables false
set_option maxRecDepth 20000
theorem errsF_num {w : World} {es : List Addr} (h : ErrsAt w gsNum es) : ErrsF w (ofL es) := by
  refine ⟨errsE_num h, (h.2.2 1 _ _ rfl ?_).1⟩
  have hl : es.length = 25 := h.1.symm
  unfold ofL
  rw [List.getElem?_eq_getElem (by omega), List.getD_eq_getElem?_getD, List.getElem?_eq_getElem (by omega)]; rfl
/-- all but some blocks stay -/
def KeptX (w w' : World) (X : Nat → Prop) : Prop := ∀ (b : Nat) (o : Obj), ¬ X b → w.heap[b]? = some o → w'.heap[b]? = some o
theorem keptX_refl (w : World) (X : Nat → Prop) : KeptX w w X := fun _ _ _ h => h
theorem keptX_grown {w0 w w' : World} {X Y : Nat → Prop} {g : Nat} (h : KeptX w0 w X) (hg : w.grownBy w' (some g)) (hY : ∀ b, ¬ Y b → ¬ X b ∧ b ≠ g) : KeptX w0 w' Y := fun b o hb ho => grown_keep hg (h b o (hY b hb).1 ho) (fun e => (hY b hb).2 (Option.some.inj e))
theorem keptX_below {w0 w w' : World} {X Y : Nat → Prop} (h : KeptX w0 w X) (hb : Below w.heap.size w w') (hY : ∀ b, ¬ Y b → ¬ X b) : KeptX w0 w' Y := fun b o hn ho => heap_later (h b o (hY b hn) ho) hb
theorem has8_X {w w' : World} {X : Nat → Prop} {g cap : Nat} {xs : List F} (h : Has8 w g xs cap) (hk : KeptX w w' X) (hn : ¬ X g) : Has8 w' g xs cap := by
  obtain ⟨cur, h1, h2⟩ := h
  exact ⟨cur, hk _ _ hn h1, h2⟩
/-- the first j blocks of a list -/
def firstB (gs : List (Nat × Nat)) (j : Nat) (b : Nat) : Prop := ∃ (q : Nat) (p : Nat × Nat), q < j ∧ gs[q]? = some p ∧ p.1 = b
theorem firstB_not {gs : List (Nat × Nat)} {j i : Nat} {p : Nat × Nat} (hord : ∀ (i j : Nat) (p q : Nat × Nat), i < j → gs[i]? = some p → gs[j]? = some q → p.1 < q.1) (h : gs[i]? = some p) (hij : j ≤ i) : ¬ firstB gs j p.1 := fun ⟨q, x, hq, hx, e⟩ => by
  have := hord q i x p (by omega) hx h
  omega
theorem firstB_step {gs : List (Nat × Nat)} {j : Nat} {p : Nat × Nat} (h : gs[j]? = some p) (b : Nat) (hb : ¬ firstB gs (j + 1) b) : ¬ firstB gs j b ∧ b ≠ p.1 :=
  ⟨fun ⟨q, x, hq, hx, e⟩ => hb ⟨q, x, by omega, hx, e⟩, fun e => hb ⟨j, p, by omega, h, e.symm⟩⟩
theorem strEq8 (xs : List F) : ((str8 xs).toList == (str8 xs).toList) = true := by simp
theorem sh_cells {w : World} {S H j m : Nat} {gs : List (Nat × Nat)} {g0 c0 g1 c1 : Nat} (hT : w.heap[S]? = some (.cells (triC ((List.range m).map (shV (rowsP H gs)))) 38 (0, 0))) (hj : j < m) (e0 : gs[2 * j]? = some (g0, c0)) (e1 : gs[2 * j + 1]? = some (g1, c1)) :
    w.cell? ⟨S, j * 3, none⟩ = some (.int .i64 (j : Int)) ∧ w.cell? ⟨S, j * 3 + 1, none⟩ = some (.slice (some ⟨g0, 0, none⟩) H c0) ∧ w.cell? ⟨S, j * 3 + 2, none⟩ = some (.slice (some ⟨g1, 0, none⟩) H c1) := by
  have ht : ((List.range m).map (shV (rowsP H gs)))[j]? = some (.int .i64 (j : Int), .slice (some ⟨g0, 0, none⟩) H c0, .slice (some ⟨g1, 0, none⟩) H c1) := by
    rw [List.getElem?_map, List.getElem?_range hj, Option.map_some, shV, List.getD_eq_getElem?_getD, List.getD_eq_getElem?_getD, rowsP_at e0, rowsP_at e1]; rfl
  exact ⟨cellAt hT (j * 3) _ (triC_at (q := 0) ht (by decide)), cellAt hT (j * 3 + 1) _ (triC_at (q := 1) ht (by decide)), cellAt hT (j * 3 + 2) _ (triC_at (q := 2) ht (by decide))⟩
theorem shAt_cell {w : World} {B S k r n H j : Nat} {xs : List F} {gs : List (Nat × Nat)} (h : ShAt w B S k r n xs gs) (hH : H = cntN (2 * k) n) (hj : j < k + r) : ∃ g0 c0 g1 c1, gs[2 * j]? = some (g0, c0) ∧ gs[2 * j + 1]? = some (g1, c1) ∧
    w.cell? ⟨S, j * 3, none⟩ = some (.int .i64 (j : Int)) ∧ w.cell? ⟨S, j * 3 + 1, none⟩ = some (.slice (some ⟨g0, 0, none⟩) H c0) ∧ w.cell? ⟨S, j * 3 + 2, none⟩ = some (.slice (some ⟨g1, 0, none⟩) H c1) ∧
    Has8 w g0 (imgL k (carN (groupN k r)) H (strD H xs) (2 * j)) c0 ∧ Has8 w g1 (imgL k (carN (groupN k r)) H (strD H xs) (2 * j + 1)) c1 := by
  obtain ⟨_, hl, hT, hR, _⟩ := h
  rw [← hH] at hT hR
  have e0 : gs[2 * j]? = some gs[2 * j] := List.getElem?_eq_getElem (by omega)
  have e1 : gs[2 * j + 1]? = some gs[2 * j + 1] := List.getElem?_eq_getElem (by omega)
  generalize gs[2 * j] = q0 at e0
  generalize gs[2 * j + 1] = q1 at e1
  obtain ⟨g0, c0⟩ := q0
  obtain ⟨g1, c1⟩ := q1
  have ht : ((List.range (k + r)).map (shV (rowsP H gs)))[j]? = some (.int .i64 (j : Int), .slice (some ⟨g0, 0, none⟩) H c0, .slice (some ⟨g1, 0, none⟩) H c1) := by
    rw [List.getElem?_map, List.getElem?_range hj, Option.map_some, shV, List.getD_eq_getElem?_getD, List.getD_eq_getElem?_getD, rowsP_at e0, rowsP_at e1]; rfl
  exact ⟨g0, c0, g1, c1, e0, e1, cellAt hT (j * 3) _ (triC_at (q := 0) ht (by decide)), cellAt hT (j * 3 + 1) _ (triC_at (q := 1) ht (by decide)), cellAt hT (j * 3 + 2) _ (triC_at (q := 2) ht (by decide)), (hR _ _ e0).2, (hR _ _ e1).2⟩
end Go.Proofs.YtmlpijlcpeoeaaaDoor

/- Shards' halves in their order; lists of one's own, two places on. -/
namespace Go.Proofs.YtmlpijlcpeoeaaaDoor
open Go.RowKit Gf
set_option linter.unusedVariables false
set_option maxRecDepth 20000
/-- the halves of shards, in their order -/
def rowsS (S : List (Int × List F × List F)) : List (List F) := S.flatMap fun s => [s.2.1, s.2.2]
theorem rowsS_len : ∀ S, (rowsS S).length = 2 * S.length
  | [] => rfl
  | s :: S => by
    have := rowsS_len S
    simp only [rowsS, List.flatMap_cons, List.length_append, List.length_cons, List.length_nil] at this ⊢
    omega
theorem rowsS_snoc {S : List (Int × List F × List F)} {j : Nat} {s : Int × List F × List F} (h : S[j]? = some s) : rowsS (S.take (j + 1)) = rowsS (S.take j) ++ [s.2.1, s.2.2] := by
  rw [List.take_add_one, h]
  simp [rowsS]
theorem bothH_next {L : List Nat} {j s : Nat} (h : L[j]? = some s) : bothH (L.take (j + 1)) = bothH (L.take j) ++ [2 * s, 2 * s + 1] := by
  rw [List.take_add_one, h]
  simp [bothH]
theorem pairs_snoc {P : List F → Value → Prop} {L : List (List F)} {vs : List Value} {xs ys : List F} {x y : Value} (hl : vs.length = L.length) (h : ∀ (i : Nat) (zs : List F), L[i]? = some zs → ∃ v, vs[i]? = some v ∧ P zs v) (hx : P xs x) (hy : P ys y) :
    ∀ (i : Nat) (zs : List F), (L ++ [xs, ys])[i]? = some zs → ∃ v, (vs ++ [x, y])[i]? = some v ∧ P zs v := fun i zs hi => by
  by_cases hlt : i < L.length
  · rw [List.getElem?_append_left hlt] at hi
    rw [List.getElem?_append_left (by omega)]
    exact h i zs hi
  · rw [List.getElem?_append_right (by omega)] at hi
    rw [List.getElem?_append_right (by omega), hl]
    generalize i - L.length = q at hi
    match q, hi with
    | 0, hi => obtain rfl := Option.some.inj hi; exact ⟨x, rfl, hx⟩
    | 1, hi => obtain rfl := Option.some.inj hi; exact ⟨y, rfl, hy⟩
theorem own_kind7 {w w' : World} {B B' s s' n n' : Nat} {v v' : Value} {e e' : TypeId} {xs xs' : List Value} (ho : w.ownsRow B e s v n xs) (h : w.grownBy w' v.ownBlock) (hq : w.ownsRow B' e' s' v' n' xs') (hne : e' ≠ e) : w'.ownsRow B' e' s' v' n' xs' :=
  ⟨hq.1, hq.2.imp id fun ⟨g, cap, cur, h1, h2, h3, h4⟩ => ⟨g, cap, cur, h1, h2, own_other ho h h3 hne, h4⟩⟩
theorem castL_two (L : List Nat) (a b : Nat) : (castL (L ++ [a, b])).map (Value.int .i64) = (castL L).map (Value.int .i64) ++ [.int .i64 (a : Int), .int .i64 (b : Int)] := by simp [castL]
end Go.Proofs.YtmlpijlcpeoeaaaDoor

/- What slices.Contains of numbers, and haveSize, halvesOf, numbersOf of package code answer, of all numbers and shards. -/
namespace Go.Proofs.YtmlpijlcpeoeaaaDoor
open Go.RowKit Gf
set_option linter.unusedVariables false
set_option maxRecDepth 20000
/-- the first place of a number -/
def idxI (ns : List Int) (x : Int) : Int := if x ∈ ns then ((ns.idxOf x : Nat) : Int) else -1
set_option maxHeartbeats 1000000 in
theorem index_F (l cap : Nat) (a : Option Addr) (ns : List Int) (x : Int) (w : World) (hl : l = ns.length) (hl9 : l ≤ 1000000) (hX : RowI w a ns) :
    Calls Tryd.prog 82 #[.slice a l cap, .int .i64 x] w fun e w' => ∃ y : Int, e = .returned (.int .i64 y) ∧ (0 ≤ y ↔ x ∈ ns) ∧ w = w' := by
  have HL : Hid (l = ns.length) := hl
  have HX : Hid (RowI w a ns) := hX
  clear hl hX
  go_enter Tryd.func82, Tryd.ntmps82
  go_wp2
  go_loopw [8] (fun i wr => ∃ j : Nat, j ≤ l ∧ i = .int .i64 j ∧ wr = w ∧ (∀ q, q < j → ns[q]? ≠ some x)) (fun i _ => l - (intOf i).toNat)
  case atStart => exact ⟨0, by omega, rfl, rfl, fun q h => by omega⟩
  case round =>
    obtain ⟨j, hj, rfl, rfl, hq⟩ := hrel
    have HQ : Hid (∀ q, q < j → ns[q]? ≠ some x) := hq
    clear hq
    by_cases hlt : j < l
    · obtain ⟨b, off, rfl, hb, hc⟩ := rowI_cell HX.out (show j < ns.length by rw [← HL.out]; exact hlt)
      have c1 := hc j (by rw [← HL.out]; exact hlt)
      obtain ⟨y, hy⟩ : ∃ y, y = ns.getD j 0 := ⟨_, rfl⟩
      rw [← hy] at c1
      have HY : Hid (ns[j]? = some y) := by
        show _ = _
        rw [hy, List.getD_eq_getElem?_getD, List.getElem?_eq_getElem (by rw [← HL.out]; exact hlt)]; rfl
      clear hc hy
      by_cases he : x = y
      · have he' : (x == y) = true := by simp [he]
        have HE : Hid (x = y) := he
        clear he
        go_wp2
        go_ret
        exact ⟨j, rfl, ⟨fun _ => by rw [HE.out]; exact List.mem_of_getElem? HY.out, fun _ => by omega⟩, rfl⟩
      · have he' : (x == y) = false := by simp [he]
        have HE : Hid (¬ x = y) := he
        clear he
        go_wp2
        refine ⟨⟨j + 1, by omega, by go_num, by first | rfl | trivial, fun q hq => ?_⟩, by simp [intOf]; omega⟩
        by_cases hqj : q < j
        · exact HQ.out q hqj
        · obtain rfl : q = j := by omega
          rw [HY.out]
          exact fun h => HE.out (Option.some.inj h).symm
    · obtain rfl : j = l := by omega
      go_wp2
      go_ret
      refine ⟨-1, rfl, ⟨fun h => by omega, fun h => ?_⟩, rfl⟩
      obtain ⟨q, hq⟩ := List.mem_iff_getElem?.1 h
      exact absurd hq (HQ.out q (by have := (List.getElem?_eq_some_iff.1 hq).1; rw [HL.out]; exact this))
theorem contains_F (l cap : Nat) (a : Option Addr) (ns : List Int) (x : Int) (w : World) (hl : l = ns.length) (hl9 : l ≤ 1000000) (hX : RowI w a ns) :
    Calls Tryd.prog 58 #[.slice a l cap, .int .i64 x] w fun e w' => e = .returned (.bool (decide (x ∈ ns))) ∧ w = w' := by
  have HI : Hid _ := index_F l cap a ns x w hl hl9 hX
  clear hl hX
  go_enter Tryd.func58, Tryd.ntmps58
  go_wp2_with fail
  refine Calls.mono HI.out ?_
  rintro e w1 ⟨y, rfl, hy, rfl⟩
  have hd : decide (0 ≤ y) = decide (x ∈ ns) := by simp only [hy]
  have HD : Hid _ := hd
  clear hy hd
  go_wp2
  go_ret
  exact ⟨by rw [← HD.out]; rfl, rfl⟩
set_option maxHeartbeats 1000000 in
theorem haveSize_F (h l cap : Nat) (a : Option Addr) (L : List (List F)) (w : World) (hl : l = L.length) (hl9 : l ≤ 140737488355328) (hX : Rows8 w a L) :
    Calls Tryd.prog 35 #[.int .i64 h, .slice a l cap] w fun e w' => e = .returned (.bool (decide (∀ xs ∈ L, xs.length = h))) ∧ w = w' := by
  have HL : Hid (l = L.length) := hl
  have HX : Hid (Rows8 w a L) := hX
  clear hl hX
  go_enter Tryd.func35, Tryd.ntmps35
  go_wp2
  go_loopw [9] (fun i wr => ∃ j : Nat, j ≤ l ∧ i = .int .i64 j ∧ wr = w ∧ (∀ (q : Nat) (zs : List F), q < j → L[q]? = some zs → zs.length = h)) (fun i _ => l - (intOf i).toNat)
  case atStart => exact ⟨0, by omega, rfl, rfl, fun q _ h => by omega⟩
  case round =>
    obtain ⟨j, hj, rfl, rfl, hq⟩ := hrel
    have HQ : Hid (∀ (q : Nat) (zs : List F), q < j → L[q]? = some zs → zs.length = h) := hq
    clear hq
    by_cases hlt : j < l
    · obtain ⟨zs, hzs⟩ : ∃ zs, L[j]? = some zs := ⟨_, List.getElem?_eq_getElem (by rw [← HL.out]; exact hlt)⟩
      obtain ⟨bR, oR, rfl, hbR, hcR⟩ := rows8_at HX.out (List.getElem?_eq_some_iff.1 hzs).1
      obtain ⟨a', c', e1, _⟩ := hcR j zs hzs
      have HZS : Hid (L[j]? = some zs) := hzs
      clear hzs hcR
      by_cases hz : zs.length = h
      · have hz' : ((zs.length : Int) != (h : Int)) = false := by simp [hz]
        have HZ : Hid (zs.length = h) := hz
        clear hz
        go_wp2
        refine ⟨⟨j + 1, by omega, by go_num, by first | rfl | trivial, fun q ws hq hws => ?_⟩, by simp [intOf]; omega⟩
        by_cases hqi : q < j
        · exact HQ.out q ws hqi hws
        · obtain rfl : q = j := by omega
          rw [HZS.out] at hws
          obtain rfl := Option.some.inj hws
          exact HZ.out
      · have hz' : ((zs.length : Int) != (h : Int)) = true := by simp only [bne_iff_ne, ne_eq]; omega
        have HZ : Hid (¬ zs.length = h) := hz
        clear hz
        go_wp2
        go_ret
        have e9 : decide (∀ xs ∈ L, xs.length = h) = false := decide_eq_false fun h9 => HZ.out (h9 zs (List.mem_of_getElem? HZS.out))
        exact ⟨by rw [e9]; rfl, rfl⟩
    · obtain rfl : j = l := by omega
      go_wp2
      go_ret
      have e9 : decide (∀ xs ∈ L, xs.length = h) = true := decide_eq_true fun xs hx => by
        obtain ⟨q, hq⟩ := List.mem_iff_getElem?.1 hx
        exact HQ.out q xs (by have := (List.getElem?_eq_some_iff.1 hq).1; rw [HL.out]; exact this) hq
      exact ⟨by rw [e9]; rfl, rfl⟩
set_option maxHeartbeats 4000000 in
theorem halvesOf_F (l cap : Nat) (a : Option Addr) (S : List (Int × List F × List F)) (w : World) (hl : l = S.length) (hl9 : l ≤ 16) (h0 : 1 ≤ l) (hS : Sh8 w a S) :
    Calls Tryd.prog 34 #[.slice a l cap] w fun e w' => ∃ a9 c9 l9, e = .returned (.slice a9 l9 c9) ∧ l9 = 2 * l ∧ Rows8 w' a9 (rowsS S) ∧ Below w.heap.size w w' := by
  have HL : Hid (l = S.length) := hl
  have HS : Hid (Sh8 w a S) := hS
  clear hl hS
  go_enter Tryd.func34, Tryd.ntmps34
  go_wp2
  go_loopw [3, 8] (fun q i wr => ∃ j : Nat, ∃ vs : List Value, j ≤ l ∧ i = .int .i64 j ∧ Below w.heap.size w wr ∧ wr.ownsRow w.heap.size 22 1 q (2 * j) vs ∧
    ∀ (i : Nat) (zs : List F), (rowsS (S.take j))[i]? = some zs → ∃ v, vs[i]? = some v ∧ ∃ a' c', v = .slice a' zs.length c' ∧ Row8 w a' zs) (fun _ i _ => l - (intOf i).toNat)
  case atStart => exact ⟨0, [], by omega, rfl, Below.refl _ _, ⟨rfl, .inl ⟨rfl, rfl⟩⟩, fun i zs h => by simp [rowsS] at h⟩
  case round =>
    obtain ⟨j, vs, hj, rfl, hbw, hq, hvs⟩ := hrel
    have HBW : Hid (Below w.heap.size w wr) := hbw
    have HQ : Hid (wr.ownsRow w.heap.size 22 1 u3 (2 * j) vs) := hq
    have HVS : Hid (∀ (i : Nat) (zs : List F), (rowsS (S.take j))[i]? = some zs → ∃ v, vs[i]? = some v ∧ ∃ a' c', v = .slice a' zs.length c' ∧ Row8 w a' zs) := hvs
    clear hbw hq hvs
    by_cases hlt : j < l
    · have hjS : j < S.length := by rw [← HL.out]; exact hlt
      obtain ⟨⟨m, xs, ys⟩, hs⟩ : ∃ s, S[j]? = some s := ⟨_, List.getElem?_eq_getElem hjS⟩
      have HSJ : Hid (rowsS (S.take (j + 1)) = rowsS (S.take j) ++ [xs, ys]) := rowsS_snoc hs
      rcases HS.out with e0 | ⟨bS, oS, eS, hcS⟩
      · rw [e0] at hjS; simp at hjS
      subst eS
      obtain ⟨a1, l1, a2, l2, e1, e2, e3, r1, r2⟩ := hcS j m xs ys hs
      have c1 := cell_later HBW.out e1
      have c2 := cell_later HBW.out e2
      have c3 := cell_later HBW.out e3
      have R1 : Hid (Row8 w a1 xs) := r1
      have R2 : Hid (Row8 w a2 ys) := r2
      have c4 : Hid ((wr.alloc (.cells #[.int .i64 m, .slice a1 xs.length l1, .slice a2 ys.length l2] 38)).heap[wr.heap.size]? = some (.cells #[.int .i64 m, .slice a1 xs.length l1, .slice a2 ys.length l2] 38 (0, 0))) := heap_alloc_last _ _
      have B7 : Hid (Below w.heap.size w (wr.alloc (.cells #[.int .i64 m, .slice a1 xs.length l1, .slice a2 ys.length l2] 38))) := HBW.out.alloc HBW.out.size _
      have Q8 : Hid ((wr.alloc (.cells #[.int .i64 m, .slice a1 xs.length l1, .slice a2 ys.length l2] 38)).ownsRow w.heap.size 22 1 u3 (2 * j) vs) := World.ownsRow.alloc HQ.out _
      clear hs hcS e1 e2 e3 r1 r2
      go_upto_region 5 with fail
      clear c1 c2 c3
      generalize (wr.alloc (.cells #[.int .i64 m, .slice a1 xs.length l1, .slice a2 ys.length l2] 38)) = W7 at *
      generalize wr.heap.size = N at *
      have d1 := cellAt c4.out 1 _ rfl
      have d2 := cellAt c4.out 2 _ rfl
      have hq9 := World.ownsRow.alloc Q8.out (.cells #[.slice a1 xs.length l1, .slice a2 ys.length l2] 22)
      have zz := B7.out.size
      obtain ⟨gQ, capQ, wQ, hrunQ, hqQ, hgrQ, horQ, hltQ⟩ := appendS2 (b := W7.heap.size) (c := 2) (x := .slice a1 xs.length l1) (y := .slice a2 ys.length l2) 25 hq9 (cellAt (heap_alloc_last W7 _) 0 _ rfl) (cellAt (heap_alloc_last W7 _) 1 _ rfl) rfl rfl (by omega) (by simp; omega)
      have hbQ := below_own (B := w.heap.size) (B7.out.alloc B7.out.size (.cells #[.slice a1 xs.length l1, .slice a2 ys.length l2] 22)) hq9 hgrQ (by simp; omega)
      have HRQ : Hid _ := hrunQ
      have HBQ : Hid (Below w.heap.size w wQ) := hbQ
      have HQQ : Hid (wQ.ownsRow w.heap.size 22 1 (.slice (some ⟨gQ, 0, none⟩) (2 * j + 2) capQ) (2 * j + 2) (vs ++ [.slice a1 xs.length l1, .slice a2 ys.length l2])) := hqQ
      have hvl : vs.length = (rowsS (S.take j)).length := by
        have h1 := HQ.out.1
        rw [rowsS_len, List.length_take]; omega
      have HV2 : Hid (∀ (i : Nat) (zs : List F), (rowsS (S.take (j + 1)))[i]? = some zs → ∃ v, (vs ++ [.slice a1 xs.length l1, .slice a2 ys.length l2])[i]? = some v ∧ ∃ a' c', v = .slice a' zs.length c' ∧ Row8 w a' zs) := by
        show ∀ (i : Nat) (zs : List F), _
        rw [HSJ.out]
        exact pairs_snoc (P := fun zs v => ∃ a' c', v = .slice a' zs.length c' ∧ Row8 w a' zs) hvl HVS.out ⟨a1, l1, rfl, R1.out⟩ ⟨a2, l2, rfl, R2.out⟩
      clear hq9 zz hrunQ hqQ hgrQ horQ hltQ hbQ hvl
      go_wp2_with (at_builtin; refine wpList_append_run rfl _ _ 25 rfl _ _ _ _ rfl rfl HRQ.out ?_)
      exact ⟨⟨j + 1, _, by omega, by go_num, HBQ.out, HQQ.out, HV2.out⟩, by simp [intOf]; omega⟩
    · obtain rfl : j = l := by omega
      have hR : ∃ a9 c9, u3 = .slice a9 (2 * j) c9 ∧ Rows8 wr a9 (rowsS S) := by
        have hvs := HVS.out
        rw [List.take_of_length_le (by rw [← HL.out]; exact Nat.le_refl _)] at hvs
        rcases HQ.out.2 with ⟨e, e0⟩ | ⟨g, cap, cur, e, hg⟩
        · omega
        · refine ⟨some ⟨g, 0, none⟩, cap, e, .inr ⟨g, 0, rfl, fun i zs hi => ?_⟩⟩
          obtain ⟨v, hv, a', c', rfl, hr⟩ := hvs i zs hi
          have hil : i < 2 * j := by
            have := (List.getElem?_eq_some_iff.1 hi).1
            rw [rowsS_len, ← HL.out] at this; exact this
          have hoe := HQ.out
          rw [e] at hoe
          refine ⟨a', c', ?_, row8_below hr HBW.out⟩
          rw [Nat.zero_add, hoe.cellAt i (by rw [Nat.mul_one]; exact hil)]
          exact hv
      obtain ⟨a9, c9, rfl, hR9⟩ := hR
      have HR9 : Hid (Rows8 wr a9 (rowsS S)) := hR9
      clear HQ HVS hR9
      go_wp2
      go_ret
      exact ⟨a9, c9, _, rfl, rfl, HR9.out, HBW.out⟩
end Go.Proofs.YtmlpijlcpeoeaaaDoor

/- What numbersOf of package code answers, of all shards: the numbers of their halves, or ErrHalf. -/
namespace Go.Proofs.YtmlpijlcpeoeaaaDoor
open Go.RowKit Gf
set_option linter.unusedVariables false
set_option maxRecDepth 20000
/-- shards whose numbers are in range and apart -/
def GoodT (k r : Nat) (T : List (Int × List F × List F)) : Prop := (∀ s ∈ T, 0 ≤ s.1 ∧ s.1 < k + r) ∧ (T.map fun s => s.1).Nodup
/-- their numbers -/
def numT (T : List (Int × List F × List F)) : List Nat := T.map fun s => s.1.toNat
theorem numT_len (T : List (Int × List F × List F)) : (numT T).length = T.length := by simp [numT]
theorem numT_mem {k r : Nat} {T : List (Int × List F × List F)} {m : Int} (h : GoodT k r T) (hm : 0 ≤ m) : m.toNat ∈ numT T ↔ m ∈ T.map fun s => s.1 := by
  simp only [numT, List.mem_map]
  refine ⟨fun ⟨s, hs, e⟩ => ⟨s, hs, ?_⟩, fun ⟨s, hs, e⟩ => ⟨s, hs, by rw [e]⟩⟩
  have := (h.1 s hs).1
  omega
theorem good_nil (k r : Nat) : GoodT k r [] := ⟨by simp, by simp⟩
theorem good_snoc {k r : Nat} {T : List (Int × List F × List F)} {s : Int × List F × List F} (h : GoodT k r T) (h0 : 0 ≤ s.1) (h1 : s.1 < k + r) (hn : s.1.toNat ∉ numT T) : GoodT k r (T ++ [s]) := by
  refine ⟨fun t ht => ?_, ?_⟩
  · rcases List.mem_append.1 ht with ht | ht
    · exact h.1 t ht
    · obtain rfl := List.mem_singleton.1 ht
      exact ⟨h0, h1⟩
  · rw [List.map_append, List.nodup_append]
    refine ⟨h.2, by simp, fun x hx y hy e => ?_⟩
    simp only [List.map_cons, List.map_nil, List.mem_singleton] at hy
    subst hy
    subst e
    exact hn ((numT_mem h h0).2 hx)
theorem good_take {k r j : Nat} {S : List (Int × List F × List F)} (h : GoodT k r S) : GoodT k r (S.take j) :=
  ⟨fun s hs => h.1 s (List.mem_of_mem_take hs), (List.Sublist.map _ (List.take_sublist j S)).nodup h.2⟩
theorem good_dup {k r j : Nat} {S : List (Int × List F × List F)} {s : Int × List F × List F} (hs : S[j]? = some s) (h0 : 0 ≤ s.1) (hT : GoodT k r (S.take j)) (hd : s.1.toNat ∈ numT (S.take j)) : ¬ GoodT k r S := fun h => by
  have h1 := (good_take (j := j + 1) h).2
  rw [List.take_add_one, hs, Option.toList_some, List.map_append, List.nodup_append] at h1
  exact h1.2.2 _ ((numT_mem hT h0).1 hd) s.1 (by simp) rfl
theorem good_range {k r j : Nat} {S : List (Int × List F × List F)} {s : Int × List F × List F} (hs : S[j]? = some s) (hr : ¬ (0 ≤ s.1 ∧ s.1 < k + r)) : ¬ GoodT k r S := fun h => hr (h.1 s (List.mem_of_getElem? hs))
theorem good_nums {k r : Nat} {S : List (Int × List F × List F)} (h : GoodT k r S) : (∀ j s, S[j]? = some s → s.1 = (((numT S).getD j 0 : Nat) : Int)) ∧ (∀ x ∈ numT S, x < k + r) ∧ (numT S).Nodup := by
  refine ⟨fun j s hs => ?_, fun x hx => ?_, ?_⟩
  · have := (h.1 s (List.mem_of_getElem? hs)).1
    simp only [numT, List.getD_eq_getElem?_getD, List.getElem?_map, hs, Option.map_some, Option.getD_some]
    omega
  · simp only [numT, List.mem_map] at hx
    obtain ⟨s, hs, rfl⟩ := hx
    have := h.1 s hs
    omega
  · have : ∀ T : List (Int × List F × List F), GoodT k r T → (numT T).Nodup := by
      intro T
      induction T with
      | nil => intro _; simp [numT]
      | cons t T ih =>
        intro h
        have hT : GoodT k r T := ⟨fun s hs => h.1 s (List.mem_cons_of_mem _ hs), by have := h.2; rw [List.map_cons, List.nodup_cons] at this; exact this.2⟩
        rw [numT, List.map_cons, List.nodup_cons]
        refine ⟨fun hm => ?_, ih hT⟩
        have h2 := h.2
        rw [List.map_cons, List.nodup_cons] at h2
        exact h2.1 ((numT_mem hT (h.1 t (List.mem_cons_self ..)).1).1 hm)
    exact this S h
/-- the numbers with p halves of shard s behind -/
def bothN (L : List Nat) (s p : Nat) : List Nat := bothH L ++ (List.range p).map fun q => 2 * s + q
theorem bothN_zero (L : List Nat) (s : Nat) : bothN L s 0 = bothH L := by simp [bothN]
theorem bothN_two (L : List Nat) (s : Nat) : bothN L s 2 = bothH (L ++ [s]) := by simp [bothN, bothH, List.range_succ]
theorem bothN_snoc (L : List Nat) (s p : Nat) : bothN L s p ++ [2 * s + p] = bothN L s (p + 1) := by simp [bothN, List.range_succ]
theorem bothN_len (L : List Nat) (s p : Nat) : (bothN L s p).length = 2 * L.length + p := by simp [bothN, bothH_len]
theorem bothN_mem {L : List Nat} {s p : Nat} (hp : p < 2) : 2 * s + p ∈ bothN L s p ↔ s ∈ L := by
  simp only [bothN, bothH, List.mem_append, List.mem_flatMap, List.mem_map, List.mem_range, List.mem_cons, List.not_mem_nil, or_false]
  constructor
  · rintro (⟨x, hx, h | h⟩ | ⟨q, hq, h⟩)
    · obtain rfl : x = s := by omega
      exact hx
    · obtain rfl : x = s := by omega
      exact hx
    · omega
  · exact fun h => .inl ⟨s, h, by omega⟩
theorem castL_mem {L : List Nat} {x : Nat} : ((x : Nat) : Int) ∈ castL L ↔ x ∈ L := by
  simp only [castL, List.mem_map]
  exact ⟨fun ⟨y, hy, e⟩ => by obtain rfl : y = x := by omega
                              exact hy, fun h => ⟨x, h, rfl⟩⟩
set_option maxHeartbeats 4000000 in
theorem numbersOf_F (k r l cap : Nat) (a : Option Addr) (S : List (Int × List F × List F)) (w : World) (s0 : Addr) (hs0 : w.cell? ⟨4, 0, none⟩ = some (errAt s0)) (h1 : 1 ≤ k) (h2 : 2 ≤ r) (h3 : k + r ≤ 16) (hl : l = S.length) (hl9 : l ≤ 140737488355328) (hS : Sh8 w a S) :
    Calls Tryd.prog 33 #[.int .i64 k, .int .i64 r, .slice a l cap] w fun e w' =>
      (l = k ∧ GoodT k r S ∧ (∃ a8 c8, e = .returned (.tuple #[.slice a8 (2 * k) c8, .nilIface]) ∧ RowI w' a8 (castL (bothH (numT S))) ∧ Below w.heap.size w w')) ∨
      (¬ (l = k ∧ GoodT k r S) ∧ e = .returned (.tuple #[.slice none 0 0, errAt s0]) ∧ Below w.heap.size w w') := by
  have hlt0 := World.block_lt_of_cell? w _ hs0
  simp at hlt0
  have HS0 : Hid _ := hs0
  have HL : Hid (l = S.length) := hl
  have HS : Hid (Sh8 w a S) := hS
  clear hl hS hs0
  unfold errAt at *
  by_cases hlk : l = k
  · have hlk' : ((l : Int) != (k : Int)) = false := by simp [hlk]
    have HLK : Hid (l = k) := hlk
    have hl16 : l ≤ 14 := by omega
    clear hlk hl9
    go_enter Tryd.func33, Tryd.ntmps33
    go_wp2
    go_loopw [8, 21] (fun p i wr => ∃ j : Nat, j ≤ l ∧ i = .int .i64 j ∧ Below w.heap.size w wr ∧ GoodT k r (S.take j) ∧ wr.ownsRow w.heap.size 3 1 p (2 * j) (nvs (bothH (numT (S.take j))))) (fun _ i _ => l - (intOf i).toNat)
    case atStart => exact ⟨0, by omega, rfl, Below.refl _ _, by simpa using good_nil k r, ⟨rfl, .inl ⟨rfl, rfl⟩⟩⟩
    case round =>
      obtain ⟨j, hj, rfl, hbw, hgd, hp⟩ := hrel
      have HBW : Hid (Below w.heap.size w wr) := hbw
      have HGD : Hid (GoodT k r (S.take j)) := hgd
      have HP : Hid (wr.ownsRow w.heap.size 3 1 u8 (2 * j) (nvs (bothH (numT (S.take j))))) := hp
      clear hbw hgd hp
      by_cases hlt : j < l
      · have hjS : j < S.length := by rw [← HL.out]; exact hlt
        obtain ⟨⟨m, xs, ys⟩, hs⟩ : ∃ s, S[j]? = some s := ⟨_, List.getElem?_eq_getElem hjS⟩
        rcases HS.out with e0 | ⟨bS, oS, eS, hcS⟩
        · rw [e0] at hjS; simp at hjS
        subst eS
        obtain ⟨a1, l1, a2, l2, e1, e2, e3, r1, r2⟩ := hcS j m xs ys hs
        have c1 := cell_later HBW.out e1
        have c2 := cell_later HBW.out e2
        have c3 := cell_later HBW.out e3
        have HSJ : Hid (S[j]? = some (m, xs, ys)) := hs
        clear hs hcS e1 e2 e3 r1 r2
        have c4 : Hid ((wr.alloc (.cells #[.int .i64 m, .slice a1 xs.length l1, .slice a2 ys.length l2] 38)).heap[wr.heap.size]? = some (.cells #[.int .i64 m, .slice a1 xs.length l1, .slice a2 ys.length l2] 38 (0, 0))) := heap_alloc_last _ _
        have B7 : Hid (Below w.heap.size w (wr.alloc (.cells #[.int .i64 m, .slice a1 xs.length l1, .slice a2 ys.length l2] 38))) := HBW.out.alloc HBW.out.size _
        have P7 : Hid ((wr.alloc (.cells #[.int .i64 m, .slice a1 xs.length l1, .slice a2 ys.length l2] 38)).ownsRow w.heap.size 3 1 u8 (2 * j) (nvs (bothH (numT (S.take j))))) := World.ownsRow.alloc HP.out _
        have hN0 : w.heap.size ≤ wr.heap.size := HBW.out.size
        go_wp2
        clear c1 c2 c3 HP HBW
        generalize (wr.alloc (.cells #[.int .i64 m, .slice a1 xs.length l1, .slice a2 ys.length l2] 38)) = W7 at *
        generalize wr.heap.size = N at *
        generalize hwo : wr = wo at *
        clear hwo
        go_loopw [8, 25] (fun q i wq => ∃ p : Nat, p ≤ 2 ∧ i = .int .i64 p ∧ Below w.heap.size w wq ∧ wq.ownsRow w.heap.size 3 1 q (2 * j + p) (nvs (bothN (numT (S.take j)) m.toNat p)) ∧ wq.heap[N]? = some (.cells #[.int .i64 m, .slice a1 xs.length l1, .slice a2 ys.length l2] 38 (0, 0)) ∧
          (p = 0 ∨ (0 ≤ m ∧ m < k + r) ∧ m.toNat ∉ numT (S.take j))) (fun _ i _ => 2 - (intOf i).toNat)
        case atStart => exact ⟨0, by omega, rfl, B7.out, by rw [bothN_zero]; exact P7.out, c4.out, .inl rfl⟩
        case round =>
          obtain ⟨p, hp2, rfl, hbw, hq, hN, hok⟩ := hrel
          have HBW : Hid (Below w.heap.size w wr) := hbw
          have HQ : Hid (wr.ownsRow w.heap.size 3 1 u8 (2 * j + p) (nvs (bothN (numT (S.take j)) m.toNat p))) := hq
          have HN : Hid (wr.heap[N]? = some (.cells #[.int .i64 m, .slice a1 xs.length l1, .slice a2 ys.length l2] 38 (0, 0))) := hN
          have HOK : Hid (p = 0 ∨ (0 ≤ m ∧ m < k + r) ∧ m.toNat ∉ numT (S.take j)) := hok
          have d0 := cellAt hN 0 _ rfl
          clear hbw hN hok
          by_cases hpl : p < 2
          · have hpi : (p : Int) < 2 := by omega
            obtain ⟨a5, c5, e5, hr5, hl5, _⟩ := ownI_slice hq
            clear hq
            subst e5
            have HR5 : Hid (RowI wr a5 (castL (bothN (numT (S.take j)) m.toNat p))) := hr5
            have hl5' : 2 * j + p = (bothN (numT (S.take j)) m.toNat p).length := hl5
            have HL5 : Hid (2 * j + p = (bothN (numT (S.take j)) m.toNat p).length) := hl5'
            clear hl5 hl5' hr5
            by_cases hin : 0 ≤ m ∧ m < k + r
            · obtain ⟨x, rfl⟩ := Int.eq_ofNat_of_zero_le hin.1
              have hx : x < k + r := by omega
              clear hin
              rw [Int.toNat_natCast] at HQ HR5 HL5 HOK
              obtain ⟨y, hy⟩ : ∃ y, y = 2 * x + p := ⟨_, rfl⟩
              have HOF : Hid _ := fun u => hof_ok k r x p u h1 h2 h3 hx hpl
              rw [← hy] at HOF
              have HY : Hid (y = 2 * x + p) := hy
              have hy9 : y ≤ 100 := by omega
              clear hy
              go_wp2_with fail
              refine Calls.mono (HOF.out _) ?_
              rintro e w4 ⟨rfl, hb4⟩
              have HB4 : Hid (Below w.heap.size w w4) := HBW.out.trans (hb4.mono HBW.out.size)
              have HQ4 : Hid (w4.ownsRow w.heap.size 3 1 (.slice a5 (2 * j + p) c5) (2 * j + p) (nvs (bothN (numT (S.take j)) x p))) := own_below HQ.out hb4
              have HN4 : Hid (w4.heap[N]? = some (.cells #[.int .i64 x, .slice a1 xs.length l1, .slice a2 ys.length l2] 38 (0, 0))) := heap_later HN.out hb4
              have HR4 : Hid (RowI w4 a5 (castL (bothN (numT (S.take j)) x p))) := rowI_below HR5.out hb4
              clear hb4 d0 HQ HN HR5 HBW
              go_wp2_with fail
              refine Calls.mono (contains_F (2 * j + p) c5 a5 (castL (bothN (numT (S.take j)) x p)) y _ (by rw [castL_len]; exact HL5.out) (by omega) HR4.out) ?_
              rintro e w5 ⟨rfl, rfl⟩
              by_cases hd : x ∈ numT (S.take j)
              · have e9 : decide ((y : Int) ∈ castL (bothN (numT (S.take j)) x p)) = true := decide_eq_true (castL_mem.2 (by rw [HY.out]; exact (bothN_mem hpl).2 hd))
                rw [e9]
                have HD : Hid (x ∈ numT (S.take j)) := hd
                clear hd e9
                have c9 := (HB4.out.cell (p := ⟨4, 0, none⟩) hlt0).trans HS0.out
                go_wp2_with fail
                go_region
                go_wp2
                go_ret2
                exact .inr ⟨fun h => good_dup HSJ.out (by show (0 : Int) ≤ (x : Int); omega) HGD.out (by show (x : Int).toNat ∈ _; rw [Int.toNat_natCast]; exact HD.out) h.2, rfl, HB4.out.drew⟩
              · have e9 : decide ((y : Int) ∈ castL (bothN (numT (S.take j)) x p)) = false := decide_eq_false fun h => hd (by rw [HY.out] at h; exact (bothN_mem hpl).1 (castL_mem.1 h))
                rw [e9]
                have HD : Hid (x ∉ numT (S.take j)) := hd
                clear hd e9
                have ho4 := World.ownsRow.alloc HQ4.out (.cells #[.int .i64 y] 3)
                have zz := HB4.out.size
                obtain ⟨gQ, capQ, wQ, hrunQ, hqQ, hgrQ, horQ, hltQ⟩ := appendI (b := w4.heap.size) (c := 1) (x := (y : Int)) 54 ho4 (cellAt (heap_alloc_last w4 _) 0 _ rfl) (by omega) (by simp; omega)
                rw [nvs_snoc] at hqQ
                have hbQ := below_own (B := w.heap.size) (HB4.out.alloc HB4.out.size (.cells #[.int .i64 y] 3)) ho4 hgrQ (by simp; omega)
                have HRQ : Hid _ := hrunQ
                have HBQ : Hid (Below w.heap.size w wQ) := hbQ
                have HQQ : Hid (wQ.ownsRow w.heap.size 3 1 (.slice (some ⟨gQ, 0, none⟩) (2 * j + p + 1) capQ) (2 * j + p + 1) (nvs (bothN (numT (S.take j)) x (p + 1)))) := by
                  rw [HY.out, bothN_snoc] at hqQ; exact hqQ
                have HNQ : Hid (wQ.heap[N]? = some (.cells #[.int .i64 x, .slice a1 xs.length l1, .slice a2 ys.length l2] 38 (0, 0))) := own_other ho4 hgrQ ((Below.heap_alloc _ _ _ (ltHeap HN4.out)).trans HN4.out) (by decide)
                clear ho4 zz hrunQ hqQ hgrQ horQ hltQ hbQ
                go_wp2_with (at_builtin; refine wpList_append_run rfl _ _ 54 rfl _ _ _ _ rfl rfl HRQ.out ?_)
                exact ⟨⟨p + 1, by omega, by go_num, HBQ.out, by rw [Int.toNat_natCast]; exact HQQ.out, HNQ.out, .inr ⟨⟨by omega, by omega⟩, by rw [Int.toNat_natCast]; exact HD.out⟩⟩, by simp [intOf]; omega⟩
            · have HIN : Hid (¬ (0 ≤ m ∧ m < k + r)) := hin
              have c9 := (HBW.out.cell (p := ⟨4, 0, none⟩) hlt0).trans HS0.out
              have HOF : Hid _ := hof_no k r m p wr s0 c9 h1 h2 h3 (fun h => HIN.out h.1)
              unfold errAt at HOF
              clear hin c9
              go_wp2_with fail
              refine Calls.mono HOF.out ?_
              rintro e w4 ⟨rfl, hb4⟩
              have HB4 : Hid (Below w.heap.size w w4) := HBW.out.trans (hb4.mono HBW.out.size)
              clear hb4 d0
              go_wp2_with fail
              go_ret2
              exact .inr ⟨fun h => good_range HSJ.out HIN.out h.2, rfl, HB4.out⟩
          · obtain rfl : p = 2 := by omega
            have hok := HOK.out
            rcases hok with hok | ⟨hin, hnd⟩
            · omega
            have HT : Hid (S.take (j + 1) = S.take j ++ [(m, xs, ys)]) := by
              show _ = _
              rw [List.take_add_one, HSJ.out]; rfl
            have HG2 : Hid (GoodT k r (S.take (j + 1))) := by
              show GoodT k r _
              rw [HT.out]; exact good_snoc HGD.out hin.1 hin.2 hnd
            have HP2 : Hid (wr.ownsRow w.heap.size 3 1 u8 (2 * j + 2) (nvs (bothH (numT (S.take (j + 1)))))) := by
              show World.ownsRow ..
              have e9 : numT (S.take (j + 1)) = numT (S.take j) ++ [m.toNat] := by rw [HT.out]; simp [numT]
              rw [e9, ← bothN_two]; exact HQ.out
            clear hq hin hnd d0
            go_wp2
            exact ⟨⟨j + 1, by omega, by go_num, HBW.out, HG2.out, HP2.out⟩, by simp [intOf]; omega⟩
      · obtain rfl : j = l := by omega
        have hp := HP.out
        have hgd := HGD.out
        rw [List.take_of_length_le (by rw [← HL.out]; exact Nat.le_refl _)] at hp hgd
        obtain ⟨a5, c5, e5, hr5, hl5, _⟩ := ownI_slice hp
        subst e5
        have HR5 : Hid _ := hr5
        have HG5 : Hid _ := hgd
        clear hp hgd hr5 hl5 HP
        go_wp2
        go_ret2
        exact .inl ⟨HLK.out, HG5.out, a5, c5, by rw [HLK.out]; rfl, HR5.out, HBW.out⟩
  · have hlk' : ((l : Int) != (k : Int)) = true := by simp only [bne_iff_ne, ne_eq]; omega
    have HLK : Hid (¬ l = k) := hlk
    have c9 := HS0.out
    clear hlk
    go_enter Tryd.func33, Tryd.ntmps33
    go_wp2
    go_region
    go_wp2
    go_ret2
    exact .inr ⟨fun h => HLK.out h.1, rfl, (Below.refl _ _).drew⟩
end Go.Proofs.YtmlpijlcpeoeaaaDoor

/- The rows of the halves of any k shards, taken out of all rows: their rank. -/
namespace Go.Proofs.YtmlpijlcpeoeaaaDoor
open Go.RowKit Gf
set_option linter.unusedVariables false
set_option maxRecDepth 20000
theorem bothH_snoc (L : List Nat) (s : Nat) : bothH (L ++ [s]) = bothH L ++ [2 * s, 2 * s + 1] := by simp [bothH]
theorem bothH_lt {L : List Nat} {n : Nat} (h : ∀ x ∈ L, x < n) : ∀ x ∈ bothH L, x < 2 * n := fun x hx => by
  simp only [bothH, List.mem_flatMap, List.mem_cons, List.not_mem_nil, or_false] at hx
  obtain ⟨s, hs, rfl | rfl⟩ := hx
  · have := h s hs; omega
  · have := h s hs; omega
theorem htakeM_grid {k n : Nat} {xs : List F} {A : Nat → Nat → F} {L : List Nat} (hn : ∀ x ∈ L, x < n) (hx : xs = grid k A n) : (takeM k xs (castL L)).flatten = grid k (fun i j => A (L.getD i 0) j) L.length := by
  subst hx
  rw [grid_flat k (fun i j => A (L.getD i 0) j)]
  congr 1
  apply List.ext_getElem
  · simp [takeM, castL]
  · intro i h1 h2
    have hi : i < L.length := by simpa [takeM, castL] using h1
    have e : L.getD i 0 = L[i] := by simp [List.getD, hi]
    simp only [takeM, castL, List.getElem_map, List.getElem_range, Int.toNat_natCast]
    rw [rowAt_grid (hn _ (List.getElem_mem hi)), e]
theorem half_take {k r : Nat} {L : List Nat} (hd : L.Nodup) (hl : L.length = k) (hn : ∀ x ∈ L, x < k + r) (h3 : k + r ≤ 16) :
    (pivL (cellF (2 * k) (takeM (2 * k) (halfM k r) (castL (bothH L))).flatten) (2 * k) (2 * k)).length = 2 * k := by
  rw [htakeM_grid (xs := halfM k r) (A := halfF k (carN (groupN k r))) (bothH_lt hn) rfl, pivL_congr (B := fun i j => halfF k (carN (groupN k r)) ((bothH L).getD i 0) j) (fun i hi j hj => by
    rw [bothH_len, hl]; exact at8_grid hi hj)]
  exact half_rank hd hl hn (by omega)
theorem htake_yes (r c l cap ln cn : Nat) (a an : Option Addr) (xs : List F) (ns : List Int) (w : World) (hr : r ≤ 64) (hc : c ≤ 64) (hl : l = r * c) (hx : xs.length = r * c) (hcap : l ≤ cap) (hX : Row8 w a xs) (hnil : a = none → cap = 0)
    (hln : ln = ns.length) (hn : ln ≤ 64) (hN : RowI w an ns) (s : Addr) (hs : w.cell? ⟨11, 0, none⟩ = some (errAt s)) (hall : ∀ n ∈ ns, 0 ≤ n ∧ n < r) :
    Calls Tryd.prog 59 #[.agg #[.int .i64 r, .int .i64 c, .slice a l cap], .slice an ln cn] w fun e w' =>
      ∃ g m, e = .returned (.tuple #[.agg #[.int .i64 ln, .int .i64 c, .slice (some ⟨g, 0, none⟩) m m], .nilIface]) ∧ m = ln * c ∧ w.heap.size ≤ g ∧
        w'.heap[g]? = some (.cells (vfs (takeM c xs ns).flatten) 5 (0, 0)) ∧ Below w.heap.size w w' :=
  (take_F r c l cap ln cn a an xs ns w hr hc hl hx hcap hX hnil hln hn hN s hs).mono fun e w' h => h.elim (fun h => h.2) (fun h => absurd hall h.1)
end Go.Proofs.YtmlpijlcpeoeaaaDoor

/- What Decode of package code answers, of all numbers and shards where k, r and the size are legal; the refusals. -/
namespace Go.Proofs.YtmlpijlcpeoeaaaDoor
open Go.RowKit Gf
set_option linter.unusedVariables false
set_option maxRecDepth 20000
theorem comb_inv {c H i : Nat} {Y A : Mt} {L : List (List F)} {D : Nat → Nat → F} (hI : InvOf c A Y) (hD : ∀ i, i < c → ∀ b, b < H → bytesD L i b = sumF (fun u => gm (A i u) (D u b)) c) (hi : i < c) : combL c H (grid c Y c) L i = rowF H (D i) :=
  rowF_congr fun b hb => by
    rw [sumF_congr (g := fun v => sumF (fun u => gm (gm (Y i v) (A v u)) (D u b)) c) (fun v hv => by
      rw [at8_grid hi hv, hD v hv b hb, sumF_mul_left]
      exact sumF_congr fun u _ => (F.mul_assoc _ _ _).symm), sumF_swap (fun v u => gm (gm (Y i v) (A v u)) (D u b)) c c]
    rw [sumF_congr (g := fun u => gm (if i = u then 1 else 0) (D u b)) (fun u hu => by
      rw [← hI.left i hi u hu, mulF, sumF_mul_right])]
    rw [sumF_pick _ i c hi fun u _ hne => by rw [if_neg (fun e => hne e.symm), F.zero_mul]]
    rw [if_pos rfl, F.one_mul]
set_option maxHeartbeats 4000000 in
theorem undo_F (k r H c m l1 l2 c1 c2 : Nat) (a1 g : Nat) (an ah : Option Addr) (nums : List Nat) (L : List (List F)) (D : Nat → Nat → F) (w : World) (s2 s11 : Addr) (hs2 : w.cell? ⟨3, 0, none⟩ = some (errAt s2)) (hs11 : w.cell? ⟨11, 0, none⟩ = some (errAt s11))
    (h1 : 1 ≤ k) (h2 : 2 ≤ r) (h3 : k + r ≤ 16) (hH : H ≤ 64) (hc : c = 2 * k) (ha1 : a1 = 2 * (k + r)) (hm : m = a1 * c) (hG : w.heap[g]? = some (.cells (vfs (halfM k r)) 5 (0, 0)))
    (hl1 : l1 = c) (hN : RowI w an (castL (bothH nums))) (hnl : nums.length = k) (hin : ∀ x ∈ nums, x < k + r) (hnd : nums.Nodup) (hl2 : l2 = c) (hL : L.length = c) (hLH : ∀ ys ∈ L, ys.length = H) (hLX : Rows8 w ah L)
    (hD : ∀ i, i < 2 * k → ∀ b, b < H → bytesD L i b = sumF (fun u => gm (numM k (carN (groupN k r)) (bothH nums) i u) (D u b)) (2 * k)) :
    Calls Tryd.prog 36 #[.agg #[.int .i64 a1, .int .i64 c, .slice (some ⟨g, 0, none⟩) m m], .slice an l1 c1, .slice ah l2 c2] w fun e w' => ∃ M, e = .returned (.tuple #[.slice (some ⟨M, 0, none⟩) c c, .nilIface]) ∧
      Rows8 w' (some ⟨M, 0, none⟩) ((List.range c).map fun v => rowF H (D v)) ∧ Below w.heap.size w w' := by
  have hrk := half_take hnd hnl hin h3
  have hgr := htakeM_grid (xs := halfM k r) (A := halfF k (carN (groupN k r))) (bothH_lt hin) rfl
  have hlb : (bothH nums).length = c := by rw [bothH_len, hnl, hc]
  rw [hlb] at hgr
  obtain ⟨X, hX⟩ : ∃ X, X = (takeM (2 * k) (halfM k r) (castL (bothH nums))).flatten := ⟨_, rfl⟩
  rw [← hX] at hrk hgr
  have hXl : X.length = c * c := by rw [hgr, grid_len, hc]
  have hXc : ∀ i, i < c → ∀ j, j < c → cellF c X i j = numM k (carN (groupN k r)) (bothH nums) i j := fun i hi j hj => by
    rw [cellF, hgr, hc, at8_grid (by omega) (by omega)]; rfl
  have hall : ∀ x ∈ castL (bothH nums), 0 ≤ x ∧ x < (a1 : Int) := fun x hx => by
    simp only [castL, List.mem_map] at hx
    obtain ⟨y, hy, rfl⟩ := hx
    have := bothH_lt hin y hy
    omega
  rw [← hc] at hrk hX hD
  have hD2 : ∀ i, i < c → ∀ b, b < H → bytesD L i b = sumF (fun u => gm (cellF c X i u) (D u b)) c := fun i hi b hb => by
    rw [hD i hi b hb]
    exact sumF_congr fun u hu => by rw [hXc i hi u hu]
  have HD : Hid (∀ i, i < c → ∀ b, b < H → bytesD L i b = sumF (fun u => gm (cellF c X i u) (D u b)) c) := hD2
  have HRK : Hid ((pivL (cellF c X) c c).length = c) := hrk
  have HX : Hid (X = (takeM c (halfM k r) (castL (bothH nums))).flatten) := hX
  have HXL : Hid (X.length = c * c) := hXl
  have HALL : Hid (∀ x ∈ castL (bothH nums), 0 ≤ x ∧ x < (a1 : Int)) := hall
  have HN : Hid (RowI w an (castL (bothH nums))) := hN
  have HLL : Hid (L.length = c) := hL
  have HLH : Hid (∀ ys ∈ L, ys.length = H) := hLH
  have HLX : Hid (Rows8 w ah L) := hLX
  have HL1 : Hid (l1 = c) := hl1
  have HL2 : Hid (l2 = c) := hl2
  have HM : Hid (m = a1 * c) := hm
  have HG : Hid (w.heap[g]? = some (.cells (vfs (halfM k r)) 5 (0, 0))) := hG
  have HML : Hid ((halfM k r).length = a1 * c) := by show _ = _; rw [halfM_len, ha1, hc]
  have HS2 : Hid _ := hs2
  have HS11 : Hid _ := hs11
  have HLB : Hid ((bothH nums).length = c) := hlb
  have hc32 : c ≤ 32 := by omega
  have hc1 : 1 ≤ c := by omega
  have ha32 : a1 ≤ 32 := by omega
  clear hrk hgr hlb hX hXl hXc hall hD hD2 hN hL hLH hLX hl1 hl2 hm hG hs2 hs11 ha1 hnl hin hnd hc
  have HB1 : Hid (Below w.heap.size w (w.alloc (.cells #[.int .i64 a1, .int .i64 c, .slice (some ⟨g, 0, none⟩) m m] 65))) := (Below.refl _ _).alloc (Nat.le_refl _) _
  go_enter Tryd.func36, Tryd.ntmps36
  go_wp2_with fail
  refine Calls.mono (htake_yes a1 c m m l1 c1 (some ⟨g, 0, none⟩) an (halfM k r) (castL (bothH nums)) _ (by omega) (by omega) HM.out HML.out (Nat.le_refl _) (row8_own (heap_later HG.out HB1.out)) (fun h => by cases h) (by rw [castL_len, HLB.out]; exact HL1.out) (by have := HL1.out; omega) (rowI_below HN.out HB1.out) s11 (cell_later HB1.out HS11.out) HALL.out) ?_
  rintro e w2 ⟨g2, m2, rfl, hm2, hg2, hh2, hb2⟩
  have e1 := HL1.out
  subst e1
  rw [← HX.out] at hh2
  have HM2 : Hid (m2 = l1 * l1) := hm2
  have HA2 : Hid _ := holds_new (holds_cons (holds_nil w2) hh2) #[.int .i64 l1, .int .i64 l1, .slice (some ⟨g2, 0, none⟩) m2 m2] 65
  have hB2 := HB1.out.trans (hb2.mono HB1.out.size)
  have HB2 : Hid (Below w.heap.size w (w2.alloc (.cells #[.int .i64 l1, .int .i64 l1, .slice (some ⟨g2, 0, none⟩) m2 m2] 65))) := hB2.alloc hB2.size _
  clear hm2 hg2 hh2 hb2 hB2
  go_wp2_with fail
  refine Calls.mono (inverse_F l1 m2 m2 (some ⟨g2, 0, none⟩) X _ (by omega) HM2.out HXL.out (Nat.le_refl _) (holds_row HA2.out 1 rfl) (fun h => by cases h) s2 (cell_later HB2.out HS2.out)) ?_
  rintro e w3 (⟨_, g3, m3, Y, rfl, hm3, hg3, hh3, hY, hb3⟩ | ⟨hno, _⟩)
  · have HM3 : Hid (m3 = l1 * l1) := hm3
    have HY : Hid (InvOf l1 (cellF l1 X) Y) := hY
    have HA3 : Hid _ := holds_new (holds_cons (holds_nil w3) hh3) #[.int .i64 l1, .int .i64 l1, .slice (some ⟨g3, 0, none⟩) m3 m3] 65
    have hB3 := HB2.out.trans (hb3.mono HB2.out.size)
    have HB3 : Hid (Below w.heap.size w (w3.alloc (.cells #[.int .i64 l1, .int .i64 l1, .slice (some ⟨g3, 0, none⟩) m3 m3] 65))) := hB3.alloc hB3.size _
    clear hm3 hg3 hh3 hb3 hY hB3
    go_wp2_with fail
    refine Calls.mono (ccomb_F l1 l1 H m3 m3 l2 c2 (some ⟨g3, 0, none⟩) ah (grid l1 Y l1) L _ (by omega) hc1 (by omega) hH HM3.out (grid_len _ _ _) (Nat.le_refl _) (holds_row HA3.out 1 rfl) HL2.out HLL.out HLH.out (rows8_below HLX.out HB3.out)) ?_
    rintro e w4 ⟨M, gs, rfl, hM, hgs, hT, hrs, hb4⟩
    have hr2 := rowsP_congr (g := fun v => rowF H (D v)) hrs fun i hi => comb_inv HY.out HD.out (by rw [← hgs]; exact hi)
    have HR4 : Hid (Rows8 w4 (some ⟨M, 0, none⟩) ((List.range l1).map fun v => rowF H (D v))) := rowsP_rows hr2 hgs (fun i => rowF_len _ _) hT
    have HB4 : Hid (Below w.heap.size w w4) := HB3.out.trans (hb4.mono HB3.out.size)
    clear hM hgs hT hrs hb4 hr2
    go_wp2
    go_ret2
    exact ⟨M, rfl, HR4.out, HB4.out⟩
  · exact absurd HRK.out hno
/-- the bytes of these data halves -/
def joinD (k H n : Nat) (D : Nat → Nat → F) : List F := (((List.range (2 * k)).map fun v => rowF H (D v)).flatten).take n
theorem flatD_len (k H : Nat) (D : Nat → Nat → F) : (((List.range (2 * k)).map fun v => rowF H (D v)).flatten).length = 2 * k * H := by
  rw [flat_len (c := H) (fun ys hy => by obtain ⟨v, _, rfl⟩ := List.mem_map.1 hy; exact rowF_len _ _)]; simp
theorem joinD_len {k H n : Nat} {D : Nat → Nat → F} (h : n ≤ 2 * k * H) : (joinD k H n D).length = n := by
  rw [joinD, List.length_take, flatD_len]; omega
theorem joinD_congr {k H n : Nat} {D E : Nat → Nat → F} (h : ∀ v, v < 2 * k → ∀ b, b < H → D v b = E v b) : joinD k H n D = joinD k H n E := by
  unfold joinD
  congr 2
  apply List.map_congr_left
  intro v hv
  exact rowF_congr fun b hb => h v (by simpa using hv) b hb
/-- the errors that Decode names -/
def ErrsC (w : World) (E : Nat → Addr) : Prop := ErrsF w E ∧ w.cell? ⟨3, 0, none⟩ = some (errAt (E 2)) ∧ w.cell? ⟨4, 0, none⟩ = some (errAt (E 3)) ∧ w.cell? ⟨1, 0, none⟩ = some (errAt (E 4))
theorem errsC_below {w w' : World} {E : Nat → Addr} (h : ErrsC w E) (hb : Below w.heap.size w w') : ErrsC w' E := ⟨errsF_below h.1 hb, cell_later hb h.2.1, cell_later hb h.2.2.1, cell_later hb h.2.2.2⟩
/-- of these data halves the halves of these shards are made -/
def MadeOf (k r H : Nat) (nums : List Nat) (L : List (List F)) (D : Nat → Nat → F) : Prop :=
  ∀ i, i < 2 * k → ∀ b, b < H → bytesD L i b = sumF (fun u => gm (numM k (carN (groupN k r)) (bothH nums) i u) (D u b)) (2 * k)
theorem made_ex {k r H : Nat} {S : List (Int × List F × List F)} (hg : GoodT k r S) (hl : S.length = k) (h3 : k + r ≤ 16) (L : List (List F)) : ∃ D, MadeOf k r H (numT S) L D := by
  obtain ⟨_, g2, g3⟩ := good_nums hg
  have hrk := num_rank (car := carN (groupN k r)) g3 (by rw [numT_len, hl]) g2 (show k + r ≤ 256 by omega)
  obtain ⟨D, hD⟩ := full_table hrk (bytesD L)
  exact ⟨D, fun i hi b _ => hD i hi b⟩
theorem made_one {k r H : Nat} {S : List (Int × List F × List F)} (hg : GoodT k r S) (hl : S.length = k) (h3 : k + r ≤ 16) {L : List (List F)} {D E : Nat → Nat → F} (hD : MadeOf k r H (numT S) L D) (hE : MadeOf k r H (numT S) L E) : ∀ v, v < 2 * k → ∀ b, b < H → D v b = E v b := fun v hv b hb => by
  obtain ⟨_, g2, g3⟩ := good_nums hg
  have hrk := num_rank (car := carN (groupN k r)) g3 (by rw [numT_len, hl]) g2 (show k + r ≤ 256 by omega)
  exact full_one (R := fun i => bytesD L i b) (D := fun u => D u b) (E := fun u => E u b) hrk (fun i hi => hD i hi b hb) (fun i hi => hE i hi b hb) v hv
set_option maxHeartbeats 8000000 in
theorem decode_G (k r n ln cn : Nat) (a : Option Addr) (S : List (Int × List F × List F)) (w : World) (E : Nat → Addr) (hE : ErrsC w E) (h1 : 1 ≤ k) (h2 : 2 ≤ r) (h3 : k + r ≤ 16) (h4 : 1 ≤ n) (h5 : n ≤ 128 * k) (hln : ln = S.length) (hl9 : ln ≤ 140737488355328) (hS : Sh8 w a S) :
    Calls Tryd.prog 19 #[.int .i64 k, .int .i64 r, .int .i64 n, .slice a ln cn] w fun e w' =>
      (¬ (ln = k ∧ GoodT k r S) ∧ e = .returned (.tuple #[.slice none 0 0, errAt (E 3)]) ∧ Below w.heap.size w w') ∨
      ((ln = k ∧ GoodT k r S) ∧ ¬ (∀ xs ∈ rowsS S, xs.length = cntN (2 * k) n) ∧ e = .returned (.tuple #[.slice none 0 0, errAt (E 4)]) ∧ Below w.heap.size w w') ∨
      ((ln = k ∧ GoodT k r S) ∧ (∀ xs ∈ rowsS S, xs.length = cntN (2 * k) n) ∧ ∃ D, MadeOf k r (cntN (2 * k) n) (numT S) (rowsS S) D ∧ ∃ g ys, e = .returned (.tuple #[.slice (some ⟨g, 0, none⟩) n n, .nilIface]) ∧ w.heap.size ≤ g ∧
        w'.heap[g]? = some (.cells (vfs (joinD k (cntN (2 * k) n) n D ++ ys)) 5 (0, 0)) ∧ Below w.heap.size w w') := by
  obtain ⟨k1, k2, k3, _⟩ := cnt_half h1 (show k ≤ 14 by omega) h4 h5
  have HF : Hid _ := fun w E h => half_F k n w E h (by omega) (by omega)
  rw [halfV_ok h1 (by omega) h4 h5, halfE_ok h1 (by omega) h4 h5] at HF
  simp only [evV_zero] at HF
  obtain ⟨H, hH⟩ : ∃ H, H = cntN (2 * k) n := ⟨_, rfl⟩
  rw [← hH] at HF k1 k2 k3 ⊢
  have HH : Hid (H = cntN (2 * k) n) := hH
  have HE : Hid (ErrsC w E) := hE
  have hlt4 := World.block_lt_of_cell? w _ hE.2.2.2
  simp at hlt4
  have HS : Hid (Sh8 w a S) := hS
  have HL : Hid (ln = S.length) := hln
  obtain ⟨c2, hc2⟩ : ∃ c2, c2 = 2 * k := ⟨_, rfl⟩
  obtain ⟨cR, hcR⟩ : ∃ cR, cR = 2 * (k + r) := ⟨_, rfl⟩
  have HC2 : Hid (c2 = 2 * k) := hc2
  have HCR : Hid (cR = 2 * (k + r)) := hcR
  have HR : Hid _ := fun w s h => hrows_F k r w s h h1 h2 h3
  rw [← hc2, ← hcR] at HR
  have HNU : Hid _ := fun u s h q => numbersOf_F k r ln cn a S u s h h1 h2 h3 hln hl9 q
  have HK3 : Hid (n ≤ 2 * k * H) := k3
  clear hE hS hln hH hc2 hcR k3
  unfold errAt at HNU ⊢
  go_enter Tryd.func19, Tryd.ntmps19
  go_wp2_with fail
  refine Calls.mono (HR.out _ (E 1) HE.out.1.2) ?_
  rintro e w1 ⟨g1, m1, rfl, hm1, hg1, hh1, hb1⟩
  have HA1 : Hid _ := holds_new (holds_cons (holds_nil w1) hh1) #[.int .i64 cR, .int .i64 c2, .slice (some ⟨g1, 0, none⟩) m1 m1] 65
  have HB1 : Hid (Below w.heap.size w (w1.alloc (.cells #[.int .i64 cR, .int .i64 c2, .slice (some ⟨g1, 0, none⟩) m1 m1] 65))) := hb1.alloc hb1.size _
  have HM1 : Hid (m1 = cR * c2) := hm1
  clear hm1 hg1 hh1 hb1
  go_wp2_with fail
  refine Calls.mono (HF.out _ E (errsE_below HE.out.1.1 HB1.out)) ?_
  rintro e w2 ⟨rfl, hb2⟩
  have HA2 : Hid _ := holds_later HA1.out hb2
  have HB2 : Hid (Below w.heap.size w w2) := HB1.out.trans (hb2.mono HB1.out.size)
  clear hb2 HA1 HB1
  go_wp2_with fail
  refine Calls.mono (HNU.out _ (E 3) (cell_later HB2.out HE.out.2.2.1) (sh8_below HS.out HB2.out)) ?_
  rintro e w3 (⟨hlk, hgd, a8, c8, rfl, hi8, hb3⟩ | ⟨hno, rfl, hb3⟩)
  · have HLK : Hid (ln = k) := hlk
    have HGD : Hid (GoodT k r S) := hgd
    have HI8 : Hid (RowI w3 a8 (castL (bothH (numT S)))) := hi8
    have HA3 : Hid _ := holds_later HA2.out hb3
    have HB3 : Hid (Below w.heap.size w w3) := HB2.out.trans (hb3.mono HB2.out.size)
    have hln1 : 1 ≤ ln := by omega
    have hln16 : ln ≤ 16 := by omega
    have HNU' := HNU
    clear hlk hgd hi8 hb3 HA2 HB2 HNU HNU'
    go_wp2_with fail
    refine Calls.mono (halvesOf_F ln cn a S _ HL.out hln16 hln1 (sh8_below HS.out HB3.out)) ?_
    rintro e w4 ⟨a9, c9, l9, rfl, hl9', hr9, hb4⟩
    have HL9 : Hid (l9 = 2 * ln) := hl9'
    have hl9b : l9 ≤ 32 := by omega
    have HR9 : Hid (Rows8 w4 a9 (rowsS S)) := hr9
    have HI9 : Hid (RowI w4 a8 (castL (bothH (numT S)))) := rowI_below HI8.out hb4
    have HA4 : Hid _ := holds_later HA3.out hb4
    have HB4 : Hid (Below w.heap.size w w4) := HB3.out.trans (hb4.mono HB3.out.size)
    clear hl9' hr9 hb4 HA3 HB3 HI8
    go_wp2_with fail
    refine Calls.mono (haveSize_F H l9 c9 a9 (rowsS S) _ (by rw [rowsS_len, ← HL.out]; exact HL9.out) (by omega) HR9.out) ?_
    rintro e w5 ⟨rfl, rfl⟩
    by_cases hsz : ∀ xs ∈ rowsS S, xs.length = H
    · rw [decide_eq_true hsz]
      have HSZ : Hid (∀ xs ∈ rowsS S, xs.length = H) := hsz
      obtain ⟨D, hD⟩ := made_ex (H := H) HGD.out (show S.length = k by rw [← HL.out]; exact HLK.out) h3 (rowsS S)
      have HD : Hid (MadeOf k r H (numT S) (rowsS S) D) := hD
      clear hsz hD
      have d0 := cellAt (holds_at HA4.out 0 rfl) 0 _ rfl
      have d1 := cellAt (holds_at HA4.out 0 rfl) 1 _ rfl
      have d2 := cellAt (holds_at HA4.out 0 rfl) 2 _ rfl
      obtain ⟨_, g2, g3⟩ := good_nums HGD.out
      have G2 : Hid (∀ x ∈ numT S, x < k + r) := g2
      have G3 : Hid (numT S).Nodup := g3
      clear g2 g3
      go_wp2_with fail
      refine Calls.mono (undo_F k r H c2 m1 (2 * k) l9 c8 c9 cR g1 a8 a9 (numT S) (rowsS S) D _ (E 2) (E 11) (cell_later HB4.out HE.out.2.1) (cell_later HB4.out HE.out.1.1.2.1) h1 h2 h3 k2 HC2.out HCR.out HM1.out (holds_at HA4.out 1 rfl)
        HC2.out.symm HI9.out (by rw [numT_len, ← HL.out]; exact HLK.out) G2.out G3.out (by have := HL9.out; have := HLK.out; have := HC2.out; omega) (by rw [rowsS_len, ← HL.out, HLK.out]; exact HC2.out.symm) HSZ.out HR9.out HD.out) ?_
      rintro e w6 ⟨M, rfl, hr6, hb6⟩
      have HR6 : Hid (Rows8 w6 (some ⟨M, 0, none⟩) ((List.range c2).map fun v => rowF H (D v))) := hr6
      have HB6 : Hid (Below w.heap.size w w6) := HB4.out.trans (hb6.mono HB4.out.size)
      clear hr6 hb6 d0 d1 d2
      go_wp2_with fail
      refine Calls.mono (join_ok k n c2 c2 (some ⟨M, 0, none⟩) ((List.range c2).map fun v => rowF H (D v)) _ E (errsE_below HE.out.1.1 HB6.out) h1 (by omega) h4 h5 (by simp) HR6.out ⟨by simp [HC2.out], fun ys hy => by obtain ⟨v, _, rfl⟩ := List.mem_map.1 hy; rw [rowF_len, HH.out]⟩) ?_
      rintro e w7 ⟨g7, ys7, rfl, hg7, hF7, hT7, hh7, hb7⟩
      have HB7 : Hid (Below w.heap.size w w7) := HB6.out.trans (hb7.mono HB6.out.size)
      have HJ : Hid (w7.heap[g7]? = some (.cells (vfs (joinD k H n D ++ ys7)) 5 (0, 0))) := by
        show _ = _
        unfold joinD
        rw [← HC2.out, hF7.out]; exact hh7
      have hg7' : w.heap.size ≤ g7 := Nat.le_trans HB6.out.size hg7
      clear hg7 hF7 hT7 hh7 hb7
      go_wp2
      go_ret2
      exact .inr (.inr ⟨⟨HLK.out, HGD.out⟩, HSZ.out, D, HD.out, g7, ys7, rfl, hg7', HJ.out, HB7.out⟩)
    · rw [decide_eq_false hsz]
      have HSZ : Hid (¬ ∀ xs ∈ rowsS S, xs.length = H) := hsz
      have hc9 : w4.cell? ⟨1, 0, none⟩ = some (errAt (E 4)) := (HB4.out.cell (p := ⟨1, 0, none⟩) hlt4).trans HE.out.2.2.2
      unfold errAt at hc9
      clear hsz
      go_wp2
      go_region
      go_wp2
      go_ret2
      exact .inr (.inl ⟨⟨HLK.out, HGD.out⟩, HSZ.out, rfl, HB4.out.drew⟩)
  · have HNO : Hid (¬ (ln = k ∧ GoodT k r S)) := hno
    have HB3 : Hid (Below w.heap.size w w3) := HB2.out.trans (hb3.mono HB2.out.size)
    clear hno hb3 HNU
    go_wp2_with fail
    go_ret2
    exact .inl ⟨HNO.out, rfl, HB3.out⟩
set_option maxHeartbeats 2000000 in
theorem decode_size (k r : Nat) (n : Int) (ln cn : Nat) (a : Option Addr) (w : World) (E : Nat → Addr) (hE : ErrsC w E) (h1 : 1 ≤ k) (h2 : 2 ≤ r) (h3 : k + r ≤ 16) (hn0 : -9223372036854775808 ≤ n) (hn1 : n ≤ 9223372036854775807) (h : halfE k n ≠ 0) :
    Calls Tryd.prog 19 #[.int .i64 k, .int .i64 r, .int .i64 n, .slice a ln cn] w fun e w' => e = .returned (.tuple #[.slice none 0 0, evV E (halfE k n)]) ∧ Below w.heap.size w w' := by
  have HF : Hid _ := fun w E h => half_F k n w E h hn0 hn1
  rw [halfV_no h] at HF
  have hs : evV E (halfE k n) = errAt (E (halfE k n - 1)) := by unfold evV; rw [if_neg h]
  have HF2 : Hid _ := fun w (q : ErrsE w E) => HF.out w E q
  rw [hs] at HF2 ⊢
  generalize E (halfE k n - 1) = s at *
  have HR : Hid _ := fun w s h => hrows_F k r w s h h1 h2 h3
  have HE : Hid (ErrsC w E) := hE
  clear hs h hE HF
  unfold errAt at HF2 ⊢
  go_enter Tryd.func19, Tryd.ntmps19
  go_wp2_with fail
  refine Calls.mono (HR.out _ (E 1) HE.out.1.2) ?_
  rintro e w1 ⟨g1, m1, rfl, hm1, hg1, hh1, hb1⟩
  have HB1 : Hid (Below w.heap.size w (w1.alloc (.cells #[.int .i64 (2 * (k + r) : Nat), .int .i64 (2 * k : Nat), .slice (some ⟨g1, 0, none⟩) m1 m1] 65))) := hb1.alloc hb1.size _
  clear hm1 hg1 hh1 hb1
  go_wp2_with fail
  refine Calls.mono (HF2.out _ (errsE_below HE.out.1.1 HB1.out)) ?_
  rintro e w2 ⟨rfl, hb2⟩
  have HB2 : Hid (Below w.heap.size w w2) := HB1.out.trans (hb2.mono HB1.out.size)
  clear hb2
  go_wp2_with fail
  go_ret2
  exact ⟨rfl, HB2.out⟩
set_option maxHeartbeats 2000000 in
theorem decode_illegal (k r n : Int) (ln cn : Nat) (a : Option Addr) (w : World) (E : Nat → Addr) (hE : ErrsC w E) (hk0 : -9223372036854775808 ≤ k) (hk1 : k ≤ 9223372036854775807) (hr0 : -9223372036854775808 ≤ r) (hr1 : r ≤ 9223372036854775807) (hL : ¬ LegalP k r) :
    Calls Tryd.prog 19 #[.int .i64 k, .int .i64 r, .int .i64 n, .slice a ln cn] w fun e w' => e = .returned (.tuple #[.slice none 0 0, errAt (E 0)]) ∧ Below w.heap.size w w' := by
  have HR : Hid _ := fun u hu => hrows_bad k r u (E 0) hu hk0 hk1 hr0 hr1 hL
  have HE : Hid (ErrsC w E) := hE
  clear hE hL
  unfold errAt at HR ⊢
  go_enter Tryd.func19, Tryd.ntmps19
  go_wp2_with fail
  refine Calls.mono (HR.out _ HE.out.1.1.1) ?_
  rintro e w1 ⟨rfl, hb1⟩
  have HB1 : Hid (Below w.heap.size w w1) := hb1
  clear hb1
  go_wp2_with fail
  go_ret2
  exact ⟨rfl, HB1.out.alloc HB1.out.size _⟩
end Go.Proofs.YtmlpijlcpeoeaaaDoor

/- Shards of a stripe, chosen and exchanged; what they are made of. -/
namespace Go.Proofs.YtmlpijlcpeoeaaaDoor
open Go.RowKit Gf
set_option linter.unusedVariables false
set_option maxRecDepth 20000
theorem errsC_num {w : World} {es : List Addr} (h : ErrsAt w gsNum es) : ErrsC w (ofL es) := by
  have hl : es.length = 25 := h.1.symm
  have hget : ∀ j, (hj : j < 25) → es[j]? = some (ofL es j) := fun j hj => by
    unfold ofL
    rw [List.getElem?_eq_getElem (by omega), List.getD_eq_getElem?_getD, List.getElem?_eq_getElem (by omega)]; rfl
  exact ⟨errsF_num h, (h.2.2 2 _ _ rfl (hget 2 (by decide))).1, (h.2.2 3 _ _ rfl (hget 3 (by decide))).1, (h.2.2 4 _ _ rfl (hget 4 (by decide))).1⟩
/-- a shard of a stripe -/
def shS (k r H : Nat) (xs : List F) (x : Nat) : Int × List F × List F := ((x : Int), imgL k (carN (groupN k r)) H (strD H xs) (2 * x), imgL k (carN (groupN k r)) H (strD H xs) (2 * x + 1))
theorem stripe_join {k H n : Nat} {xs : List F} (hn : n = xs.length) (h : n ≤ 2 * k * H) : joinD k H n (strD H xs) = xs := by
  have := flat_halves H (2 * k) xs
  unfold joinD
  show (((List.range (2 * k)).map (hf H xs)).flatten).take n = xs
  rw [this, hn]
  exact take_pad (by omega)
/-- shards in memory, chosen by f -/
theorem sh8_pick {w : World} {B S k r H m q : Nat} {xs : List F} {gs : List (Nat × Nat)} {f : Nat → Nat} (hl : gs.length = 2 * m) (hT : w.heap[S]? = some (.cells (triC ((List.range m).map fun x => shV (rowsP H gs) (f x))) 38 (0, 0)))
    (hR : RowsP w B gs (imgL k (carN (groupN k r)) H (strD H xs))) (hf : ∀ x, x < m → f x < m) (hq : q ≤ m) : Sh8 w (some ⟨S, 0, none⟩) ((List.range q).map fun x => shS k r H xs (f x)) := by
  refine .inr ⟨S, 0, rfl, fun j n ys zs hj => ?_⟩
  have hjq : j < q := by have := (List.getElem?_eq_some_iff.1 hj).1; simpa using this
  rw [List.getElem?_map, List.getElem?_range hjq] at hj
  simp only [Option.map_some, Option.some.injEq, shS, Prod.mk.injEq] at hj
  obtain ⟨rfl, rfl, rfl⟩ := hj
  have hfj := hf j (by omega)
  have e0 : gs[2 * f j]? = some gs[2 * f j] := List.getElem?_eq_getElem (by omega)
  have e1 : gs[2 * f j + 1]? = some gs[2 * f j + 1] := List.getElem?_eq_getElem (by omega)
  generalize gs[2 * f j] = q0 at e0
  generalize gs[2 * f j + 1] = q1 at e1
  obtain ⟨g0, c0⟩ := q0
  obtain ⟨g1, c1⟩ := q1
  have ht : ((List.range m).map fun x => shV (rowsP H gs) (f x))[j]? = some (.int .i64 (f j : Int), .slice (some ⟨g0, 0, none⟩) H c0, .slice (some ⟨g1, 0, none⟩) H c1) := by
    rw [List.getElem?_map, List.getElem?_range (by omega), Option.map_some, shV, List.getD_eq_getElem?_getD, List.getD_eq_getElem?_getD, rowsP_at e0, rowsP_at e1]; rfl
  refine ⟨some ⟨g0, 0, none⟩, c0, some ⟨g1, 0, none⟩, c1, ?_, ?_, ?_, row8_has (hR.1 _ _ e0).2, row8_has (hR.1 _ _ e1).2⟩
  · rw [Nat.zero_add]; exact cellAt hT (j * 3) _ (triC_at (q := 0) ht (by decide))
  · rw [Nat.zero_add, imgL_len]; exact cellAt hT (j * 3 + 1) _ (triC_at (q := 1) ht (by decide))
  · rw [Nat.zero_add, imgL_len]; exact cellAt hT (j * 3 + 2) _ (triC_at (q := 2) ht (by decide))
theorem pick_good {k r H q m : Nat} {xs : List F} {f : Nat → Nat} (hf : ∀ x, x < m → f x < m) (hi : ∀ x y, x < m → y < m → f x = f y → x = y) (hq : q ≤ m) (hm : m = k + r) : GoodT k r ((List.range q).map fun x => shS k r H xs (f x)) := by
  refine ⟨fun s hs => ?_, ?_⟩
  · obtain ⟨x, hx, rfl⟩ := List.mem_map.1 hs
    have := hf x (by have := List.mem_range.1 hx; omega)
    simp only [shS]
    omega
  · rw [List.map_map]
    rw [List.Nodup, List.pairwise_map]
    refine List.Pairwise.imp_of_mem (fun {x y} hx hy hne e => hne ?_) (List.nodup_range (n := q))
    simp only [Function.comp, shS] at e
    exact hi x y (by have := List.mem_range.1 hx; omega) (by have := List.mem_range.1 hy; omega) (by omega)
theorem pick_num {k r H q : Nat} {xs : List F} {f : Nat → Nat} : numT ((List.range q).map fun x => shS k r H xs (f x)) = (List.range q).map f := by
  simp [numT, shS, Function.comp_def]
theorem rows_pick {k r H : Nat} {xs : List F} : ∀ L : List Nat, rowsS (L.map (shS k r H xs)) = (bothH L).map (imgL k (carN (groupN k r)) H (strD H xs))
  | [] => rfl
  | x :: L => by
    have := rows_pick (k := k) (r := r) (H := H) (xs := xs) L
    simp only [rowsS, List.map_cons, List.flatMap_cons, bothH, List.map_append] at this ⊢
    rw [this]; rfl
theorem pick_made {k r H : Nat} {xs : List F} (L : List Nat) (hl : L.length = k) : MadeOf k r H L (rowsS (L.map (shS k r H xs))) (strD H xs) := fun i hi b hb => by
  rw [rows_pick, bytesD]
  have hil : i < (bothH L).length := by rw [bothH_len]; omega
  rw [List.getD_eq_getElem?_getD, List.getElem?_map, List.getElem?_eq_getElem hil]
  simp only [Option.map_some, Option.getD_some]
  rw [imgL, at8_rowF hb, imgF]
  refine sumF_congr fun v hv => ?_
  rw [numM, List.getD_eq_getElem?_getD, List.getElem?_eq_getElem hil]; rfl
/-- two places exchanged -/
def swapP (f : Nat → Nat) (i j : Nat) : Nat → Nat := fun x => if x = j then f i else if x = i then f j else f x
theorem swapP_set {m i j : Nat} {f : Nat → Nat} {g : Nat → Tri} (hi : i < m) (hj : j < m) : (((List.range m).map fun x => g (f x)).set i (g (f j))).set j (g (f i)) = (List.range m).map fun x => g (swapP f i j x) := by
  apply List.ext_getElem?
  intro x
  rw [List.getElem?_set, List.getElem?_set]
  simp only [List.getElem?_map, List.length_set, List.length_map, List.length_range]
  by_cases h1 : j = x
  · subst h1
    rw [if_pos rfl, if_pos hj, List.getElem?_range hj]
    simp [swapP]
  · rw [if_neg h1]
    by_cases h2 : i = x
    · subst h2
      rw [if_pos rfl, if_pos hi, List.getElem?_range hi]
      simp [swapP, Ne.symm h1]
    · rw [if_neg h2]
      by_cases hx : x < m
      · rw [List.getElem?_range hx]
        simp [swapP, Ne.symm h1, Ne.symm h2]
      · rw [List.getElem?_eq_none (by simp; omega)]; rfl
theorem swapP_lt {m i j : Nat} {f : Nat → Nat} (hi : i < m) (hj : j < m) (hf : ∀ x, x < m → f x < m) : ∀ x, x < m → swapP f i j x < m := fun x hx => by
  unfold swapP
  split
  · exact hf i hi
  · split
    · exact hf j hj
    · exact hf x hx
theorem swapP_inj {m i j : Nat} {f : Nat → Nat} (hi : i < m) (hj : j < m) (hf : ∀ x y, x < m → y < m → f x = f y → x = y) : ∀ x y, x < m → y < m → swapP f i j x = swapP f i j y → x = y := fun x y hx hy e => by
  have h : ∀ x, swapP f i j x = f (if x = j then i else if x = i then j else x) := fun x => by
    unfold swapP
    by_cases h1 : x = j
    · rw [if_pos h1, if_pos h1]
    · rw [if_neg h1, if_neg h1]
      by_cases h2 : x = i
      · rw [if_pos h2, if_pos h2]
      · rw [if_neg h2, if_neg h2]
  rw [h, h] at e
  have := hf _ _ (by split <;> (try split) <;> omega) (by split <;> (try split) <;> omega) e
  revert this
  split <;> split <;> (try split) <;> (try split) <;> omega
theorem shV_form {H m x : Nat} {gs : List (Nat × Nat)} (hl : gs.length = 2 * m) (hx : x < m) : ∃ g0 c0 g1 c1, shV (rowsP H gs) x = (.int .i64 (x : Int), .slice (some ⟨g0, 0, none⟩) H c0, .slice (some ⟨g1, 0, none⟩) H c1) := by
  have e0 : gs[2 * x]? = some gs[2 * x] := List.getElem?_eq_getElem (by omega)
  have e1 : gs[2 * x + 1]? = some gs[2 * x + 1] := List.getElem?_eq_getElem (by omega)
  exact ⟨_, _, _, _, by rw [shV, List.getD_eq_getElem?_getD, List.getD_eq_getElem?_getD, rowsP_at e0, rowsP_at e1]; rfl⟩
end Go.Proofs.YtmlpijlcpeoeaaaDoor

/- What Decode of package code tells, said of the shards alone: the error's number and the bytes; in whatever order the shards come. -/
namespace Go.Proofs.YtmlpijlcpeoeaaaDoor
open Go.RowKit Gf
set_option linter.unusedVariables false
set_option maxRecDepth 20000
/-- of these shards Decode tells this error and these bytes -/
def DecAs (k r n : Int) (S : List (Int × List F × List F)) (x : Nat) (zs : List F) : Prop :=
  (¬ LegalP k r ∧ x = 1 ∧ zs = []) ∨ (LegalP k r ∧ halfE k n ≠ 0 ∧ x = halfE k n ∧ zs = []) ∨ ∃ a b m : Nat, k = a ∧ r = b ∧ n = m ∧ 1 ≤ a ∧ 2 ≤ b ∧ a + b ≤ 16 ∧ 1 ≤ m ∧ m ≤ 128 * a ∧
    ((¬ (S.length = a ∧ GoodT a b S) ∧ x = 4 ∧ zs = []) ∨ ((S.length = a ∧ GoodT a b S) ∧ ¬ (∀ xs ∈ rowsS S, xs.length = cntN (2 * a) m) ∧ x = 5 ∧ zs = []) ∨
     ((S.length = a ∧ GoodT a b S) ∧ (∀ xs ∈ rowsS S, xs.length = cntN (2 * a) m) ∧ x = 0 ∧ ∃ D, MadeOf a b (cntN (2 * a) m) (numT S) (rowsS S) D ∧ zs = joinD a (cntN (2 * a) m) m D))
theorem decAs_ex (k r n : Int) (S : List (Int × List F × List F)) : ∃ x zs, DecAs k r n S x zs := by
  by_cases hL : LegalP k r
  · by_cases hh : halfE k n = 0
    · obtain ⟨a, b, rfl, rfl, h1, h2, h3⟩ := legal_nat hL
      obtain ⟨a', m, ha, rfl, _, _, h4, h5⟩ := half_ok hh
      obtain rfl : a = a' := by omega
      by_cases hg : S.length = a ∧ GoodT a b S
      · by_cases hl : ∀ xs ∈ rowsS S, xs.length = cntN (2 * a) m
        · obtain ⟨D, hD⟩ := made_ex (H := cntN (2 * a) m) hg.2 hg.1 h3 (rowsS S)
          exact ⟨0, _, .inr (.inr ⟨a, b, m, rfl, rfl, rfl, h1, h2, h3, h4, h5, .inr (.inr ⟨hg, hl, rfl, D, hD, rfl⟩)⟩)⟩
        · exact ⟨5, [], .inr (.inr ⟨a, b, m, rfl, rfl, rfl, h1, h2, h3, h4, h5, .inr (.inl ⟨hg, hl, rfl, rfl⟩)⟩)⟩
      · exact ⟨4, [], .inr (.inr ⟨a, b, m, rfl, rfl, rfl, h1, h2, h3, h4, h5, .inl ⟨hg, rfl, rfl⟩⟩)⟩
    · exact ⟨_, [], .inr (.inl ⟨hL, hh, rfl, rfl⟩)⟩
  · exact ⟨1, [], .inl ⟨hL, rfl, rfl⟩⟩
theorem decAs_le {k r n : Int} {S : List (Int × List F × List F)} {x : Nat} {zs : List F} (h : DecAs k r n S x zs) : x ≤ 25 := by
  rcases h with ⟨_, rfl, _⟩ | ⟨_, _, rfl, _⟩ | ⟨a, b, m, _, _, _, _, _, _, _, _, h⟩
  · decide
  · exact halfE_25 _ _
  · rcases h with ⟨_, rfl, _⟩ | ⟨_, _, rfl, _⟩ | ⟨_, _, rfl, _⟩ <;> decide
theorem decode_V (k r n : Int) (ln cn : Nat) (a : Option Addr) (S : List (Int × List F × List F)) (w : World) (E : Nat → Addr) (x : Nat) (zs : List F) (hE : ErrsC w E) (hk0 : -9223372036854775808 ≤ k) (hk1 : k ≤ 9223372036854775807) (hr0 : -9223372036854775808 ≤ r) (hr1 : r ≤ 9223372036854775807) (hn0 : -9223372036854775808 ≤ n) (hn1 : n ≤ 9223372036854775807)
    (hln : ln = S.length) (hl9 : ln ≤ 140737488355328) (hS : Sh8 w a S) (hD : DecAs k r n S x zs) :
    Calls Tryd.prog 19 #[.int .i64 k, .int .i64 r, .int .i64 n, .slice a ln cn] w fun e w' => ∃ bd, e = .returned (.tuple #[.slice bd zs.length zs.length, evV E x]) ∧ Row8 w' bd zs ∧ Below w.heap.size w w' := by
  rcases hD with ⟨hL, rfl, rfl⟩ | ⟨hL, hh, rfl, rfl⟩ | ⟨p, q, m, rfl, rfl, rfl, h1, h2, h3, h4, h5, hc⟩
  · exact (decode_illegal k r n ln cn a w E hE hk0 hk1 hr0 hr1 hL).mono fun e w' ⟨he, hb⟩ => ⟨none, he, .inl rfl, hb⟩
  · obtain ⟨p, q, rfl, rfl, h1, h2, h3⟩ := legal_nat hL
    exact (decode_size p q n ln cn a w E hE h1 h2 h3 hn0 hn1 hh).mono fun e w' ⟨he, hb⟩ => ⟨none, he, .inl rfl, hb⟩
  · refine (decode_G p q m ln cn a S w E hE h1 h2 h3 h4 h5 hln hl9 hS).mono fun e w' h => ?_
    subst hln
    rcases h with ⟨c, he, hb⟩ | ⟨c, d, he, hb⟩ | ⟨c, d, D, hD, g, ys, he, _, hh, hb⟩
    · rcases hc with ⟨_, rfl, rfl⟩ | ⟨c', _⟩ | ⟨c', _⟩
      · exact ⟨none, he, .inl rfl, hb⟩
      · exact absurd c' c
      · exact absurd c' c
    · rcases hc with ⟨c', _⟩ | ⟨_, _, rfl, rfl⟩ | ⟨_, d', _⟩
      · exact absurd c c'
      · exact ⟨none, he, .inl rfl, hb⟩
      · exact absurd d' d
    · rcases hc with ⟨c', _⟩ | ⟨_, d', _⟩ | ⟨_, _, rfl, D', hD', rfl⟩
      · exact absurd c c'
      · exact absurd d d'
      · obtain ⟨_, _, k3, _⟩ := cnt_half h1 (show p ≤ 14 by omega) h4 h5
        have e1 : joinD p (cntN (2 * p) m) m D = joinD p (cntN (2 * p) m) m D' := joinD_congr (made_one c.2 c.1 h3 hD hD')
        rw [e1] at hh
        rw [joinD_len k3]
        exact ⟨_, he, row8_front hh, hb⟩
theorem bothH_at : ∀ (L : List Nat) (j q : Nat), q < 2 → (bothH L)[2 * j + q]? = L[j]?.map fun s => 2 * s + q
  | [], j, q, _ => by simp [bothH]
  | s :: L, 0, q, h => by
    match q, h with
    | 0, _ => rfl
    | 1, _ => rfl
  | s :: L, j + 1, q, h => by
    have := bothH_at L j q h
    rw [show 2 * (j + 1) + q = (2 * j + q) + 2 by omega]
    exact this
/-- half q of a shard -/
def halfS (s : Int × List F × List F) (q : Nat) : List F := if q = 0 then s.2.1 else s.2.2
theorem rowsS_at : ∀ (S : List (Int × List F × List F)) (j q : Nat), q < 2 → (rowsS S)[2 * j + q]? = S[j]?.map fun s => halfS s q
  | [], j, q, _ => by simp [rowsS]
  | s :: S, 0, q, h => by
    match q, h with
    | 0, _ => rfl
    | 1, _ => rfl
  | s :: S, j + 1, q, h => by
    have := rowsS_at S j q h
    rw [show 2 * (j + 1) + q = (2 * j + q) + 2 by omega]
    exact this
/-- what a list of shards is made of, shard by shard -/
theorem made_iff {k r H : Nat} {S : List (Int × List F × List F)} {D : Nat → Nat → F} (hl : S.length = k) :
    MadeOf k r H (numT S) (rowsS S) D ↔ ∀ s ∈ S, ∀ q, q < 2 → ∀ b, b < H → at8 (halfS s q) b = sumF (fun u => gm (halfF k (carN (groupN k r)) (2 * s.1.toNat + q) u) (D u b)) (2 * k) := by
  have key : ∀ (j q : Nat) (s : Int × List F × List F), q < 2 → S[j]? = some s → ∀ b, bytesD (rowsS S) (2 * j + q) b = at8 (halfS s q) b ∧ numM k (carN (groupN k r)) (bothH (numT S)) (2 * j + q) = halfF k (carN (groupN k r)) (2 * s.1.toNat + q) := fun j q s hq hs b => by
    refine ⟨?_, ?_⟩
    · rw [bytesD, List.getD_eq_getElem?_getD, rowsS_at S j q hq, hs]; rfl
    · rw [numM, List.getD_eq_getElem?_getD, bothH_at _ j q hq, numT, List.getElem?_map, hs]; rfl
  constructor
  · intro h s hs q hq b hb
    obtain ⟨j, hj⟩ := List.mem_iff_getElem?.1 hs
    have hjl := (List.getElem?_eq_some_iff.1 hj).1
    have h9 := h (2 * j + q) (by omega) b hb
    rw [(key j q s hq hj b).1, (key j q s hq hj b).2] at h9
    exact h9
  · intro h i hi b hb
    obtain ⟨j, q, rfl, hq⟩ : ∃ j q, i = 2 * j + q ∧ q < 2 := ⟨i / 2, i % 2, by omega, by omega⟩
    have hj : S[j]? = some S[j] := List.getElem?_eq_getElem (by omega)
    rw [(key j q _ hq hj b).1, (key j q _ hq hj b).2]
    exact h _ (List.getElem_mem _) q hq b hb
theorem good_perm {k r : Nat} {S T : List (Int × List F × List F)} (hp : S.Perm T) : GoodT k r S ↔ GoodT k r T :=
  ⟨fun h => ⟨fun s hs => h.1 s (hp.mem_iff.2 hs), (hp.map _).nodup_iff.1 h.2⟩, fun h => ⟨fun s hs => h.1 s (hp.mem_iff.1 hs), (hp.map _).nodup_iff.2 h.2⟩⟩
theorem rows_perm {S T : List (Int × List F × List F)} (hp : S.Perm T) {xs : List F} : xs ∈ rowsS S ↔ xs ∈ rowsS T := by
  simp only [rowsS, List.mem_flatMap]
  exact ⟨fun ⟨s, hs, h⟩ => ⟨s, hp.mem_iff.1 hs, h⟩, fun ⟨s, hs, h⟩ => ⟨s, hp.mem_iff.2 hs, h⟩⟩
theorem decAs_perm {k r n : Int} {S T : List (Int × List F × List F)} {x : Nat} {zs : List F} (hp : S.Perm T) (h : DecAs k r n S x zs) : DecAs k r n T x zs := by
  have hl : S.length = T.length := hp.length_eq
  rcases h with h | h | ⟨a, b, m, q1, q2, q3, q4, q5, q6, q7, q8, h⟩
  · exact .inl h
  · exact .inr (.inl h)
  · refine .inr (.inr ⟨a, b, m, q1, q2, q3, q4, q5, q6, q7, q8, ?_⟩)
    have hg : (S.length = a ∧ GoodT a b S) ↔ (T.length = a ∧ GoodT a b T) := by rw [hl, good_perm hp]
    have hr : (∀ xs ∈ rowsS S, xs.length = cntN (2 * a) m) ↔ (∀ xs ∈ rowsS T, xs.length = cntN (2 * a) m) := ⟨fun h xs hx => h xs ((rows_perm hp).2 hx), fun h xs hx => h xs ((rows_perm hp).1 hx)⟩
    rcases h with ⟨c, e, z⟩ | ⟨c, d, e, z⟩ | ⟨c, d, e, D, hD, z⟩
    · exact .inl ⟨fun h => c (hg.2 h), e, z⟩
    · exact .inr (.inl ⟨hg.1 c, fun h => d (hr.2 h), e, z⟩)
    · refine .inr (.inr ⟨hg.1 c, hr.1 d, e, D, ?_, z⟩)
      rw [made_iff (hg.1 c).1]
      rw [made_iff c.1] at hD
      exact fun s hs => hD s (hp.mem_iff.2 hs)
theorem swap_perm {α : Type} {S : List α} {i j : Nat} {s t : α} (hi : S[i]? = some s) (hj : S[j]? = some t) : S.Perm ((S.set i t).set j s) := by
  obtain ⟨hi1, hi2⟩ := List.getElem?_eq_some_iff.1 hi
  obtain ⟨hj1, hj2⟩ := List.getElem?_eq_some_iff.1 hj
  have := (List.set_set_perm hi1 hj1).symm
  rw [hi2, hj2] at this
  exact this
end Go.Proofs.YtmlpijlcpeoeaaaDoor

/- What the statements' own copy of shards answers, of all lists of shards: the same shards in new memory; nothing that was there turns. -/
namespace Go.Proofs.YtmlpijlcpeoeaaaDoor
open Go.RowKit Gf
set_option linter.unusedVariables false
set_option maxRecDepth 20000
theorem copyE {u : World} {p : Nat} {a : Option Addr} {l c : Nat} {xs : List F} (ty : TypeId) (hl : l = xs.length) (hb : l ≤ 140737488355328) (hE : u.heap[p]? = some (.cells #[] 5 (0, 0))) (hx : Row8 u a xs) :
    ∃ g cap u', (Builtin.append_ #[22, 22] ty #[.slice (some ⟨p, 0, none⟩) 0 0, .slice a l c]).run Tryd.prog u = .ok (.slice (some ⟨g, 0, none⟩) l cap) u' ∧ Has8 u' g xs cap ∧ Below u.heap.size u u' := by
  by_cases h0 : l = 0
  · subst h0
    obtain rfl : xs = [] := List.eq_nil_of_length_eq_zero hl.symm
    exact ⟨p, 0, _, append8_zero _ _ _ _ _, has8_full (xs := []) hE (by simp [maxLen]), Below.refl _ _⟩
  · obtain ⟨b, off, rfl, _, hc⟩ := row8_get hx (show 0 < xs.length by omega)
    obtain ⟨g', cap', w', h1, h2, h3, h4⟩ := append8_grows (w := u) (g := p) (n := 0) (cap := 0) (xs := []) (ys := xs) (ad := ⟨b, off, none⟩) (m := l) (c := c) ty (.inl rfl) rfl hl (by omega) (by omega) (fun j hj => by
      have : (⟨b, off, none⟩ : Addr).add j = ⟨b, off + j, none⟩ := by unfold Addr.add; split <;> simp_all
      rw [this]; exact hc j hj)
    exact ⟨g', cap', w', by rw [h1]; simp, by simpa using h2, ⟨h3.os, h3.tape, h3.output, h3.size, fun k hk => h3.block k hk (by simp)⟩⟩
theorem grown_of_below {w u : World} {r : Option Nat} (h : Below w.heap.size w u) : w.grownBy u r := ⟨h.os, h.tape, h.output, h.size, fun k hk _ => h.block k hk⟩
theorem grown_after {w u v : World} {r : Option Nat} (h : Below w.heap.size w u) (hg : u.grownBy v r) : w.grownBy v r :=
  ⟨hg.os.trans h.os, hg.tape.trans h.tape, hg.output.trans h.output, Nat.le_trans h.size hg.size, fun k hk hne => (hg.block k (Nat.lt_of_lt_of_le hk h.size) hne).trans (h.block k hk)⟩
theorem has8_own {w w' : World} {B n g cap : Nat} {v : Value} {xs : List Value} {ys : List F} (ho : w.ownsRow B 38 3 v n xs) (h : w.grownBy w' v.ownBlock) (h8 : Has8 w g ys cap) : Has8 w' g ys cap := by
  obtain ⟨cur, h1, h2⟩ := h8
  exact ⟨cur, own_other ho h h1 (by decide), h2⟩
/-- triples that are copies of these shards, each half in a block of bytes -/
def CopT (w : World) (T : List Tri) (S : List (Int × List F × List F)) : Prop :=
  ∀ (j : Nat) (s : Int × List F × List F), S[j]? = some s → ∃ g1 c1 g2 c2, T[j]? = some (.int .i64 s.1, .slice (some ⟨g1, 0, none⟩) s.2.1.length c1, .slice (some ⟨g2, 0, none⟩) s.2.2.length c2) ∧ Has8 w g1 s.2.1 c1 ∧ Has8 w g2 s.2.2 c2
theorem copT_snoc {w w' : World} {T : List Tri} {S : List (Int × List F × List F)} {s : Int × List F × List F} {g1 c1 g2 c2 : Nat} (h : CopT w T S) (hl : T.length = S.length) (hk : ∀ g ys cap, Has8 w g ys cap → Has8 w' g ys cap) (r1 : Has8 w' g1 s.2.1 c1) (r2 : Has8 w' g2 s.2.2 c2) :
    CopT w' (T ++ [(.int .i64 s.1, .slice (some ⟨g1, 0, none⟩) s.2.1.length c1, .slice (some ⟨g2, 0, none⟩) s.2.2.length c2)]) (S ++ [s]) := fun j u hu => by
  by_cases hj : j < S.length
  · rw [List.getElem?_append_left hj] at hu
    obtain ⟨b1, d1, b2, d2, e, q1, q2⟩ := h j u hu
    exact ⟨b1, d1, b2, d2, by rw [List.getElem?_append_left (by omega)]; exact e, hk _ _ _ q1, hk _ _ _ q2⟩
  · have e := (List.getElem?_eq_some_iff.1 hu).1
    simp at e
    obtain rfl : j = S.length := by omega
    rw [List.getElem?_append_right (Nat.le_refl _), Nat.sub_self] at hu
    obtain rfl := Option.some.inj hu
    exact ⟨g1, c1, g2, c2, by rw [List.getElem?_append_right (by omega), hl, Nat.sub_self]; rfl, r1, r2⟩
theorem triL_snoc (T : List Tri) (t : Tri) : triL T ++ [t.1, t.2.1, t.2.2] = triL (T ++ [t]) := by simp [triL]
theorem appendT3 {w : World} {B n b c : Nat} {v x y z : Value} {T : List Tri} (ty : TypeId) (ho : w.ownsRow B 38 3 v n (triL T)) (hb : w.heap[b]? = some (.cells #[x, y, z] 38 (0, 0))) (h1 : x.oneCell' = true) (h2 : y.oneCell' = true) (h3 : z.oneCell' = true) (hn : n ≤ 2513169434843) (hB : B ≤ w.heap.size) :
    ∃ g cap w', (Builtin.append_ #[30, 30] ty #[v, .slice (some ⟨b, 0, none⟩) 1 c]).run Tryd.prog w = .ok (.slice (some ⟨g, 0, none⟩) (n + 1) cap) w' ∧
      w'.ownsRow B 38 3 (.slice (some ⟨g, 0, none⟩) (n + 1) cap) (n + 1) (triL (T ++ [(x, y, z)])) ∧ w.grownBy w' v.ownBlock := by
  obtain ⟨i, hi, s1, s2, s3⟩ := infoT
  obtain ⟨g, cap, w', q1, q2, q3, _⟩ := run_append_lies (P := Tryd.prog) w 30 ty B 38 i _ 3 56 Tryd.underlying30 hi s3 s1 s2 rfl (by decide) v n (triL T) ho ⟨b, 0, none⟩ 1 c [x, y, z] rfl (fun j u hu => by
    have e : (⟨b, 0, none⟩ : Addr).add j = ⟨b, j, none⟩ := by unfold Addr.add; split <;> simp_all
    rw [e]
    match j, hu with
    | 0, hu => obtain rfl := Option.some.inj hu; exact cellAt hb 0 _ rfl
    | 1, hu => obtain rfl := Option.some.inj hu; exact cellAt hb 1 _ rfl
    | 2, hu => obtain rfl := Option.some.inj hu; exact cellAt hb 2 _ rfl) (by simp [h1, h2, h3]) (by decide) (by simp only [maxLen]; omega) (by omega) hB _ rfl
  exact ⟨g, cap, w', q1, by rw [← triL_snoc]; exact q2, q3⟩
theorem sh8_cop {w : World} {B g n cp : Nat} {T : List Tri} {S : List (Int × List F × List F)} (ho : w.ownsRow B 38 3 (.slice (some ⟨g, 0, none⟩) n cp) n (triL T)) (hc : CopT w T S) (hl : n = S.length) : Sh8 w (some ⟨g, 0, none⟩) S := by
  refine .inr ⟨g, 0, rfl, fun j m xs ys hj => ?_⟩
  have hj9 := (List.getElem?_eq_some_iff.1 hj).1
  obtain ⟨g1, c1, g2, c2, e, r1, r2⟩ := hc j _ hj
  refine ⟨_, c1, _, c2, ?_, ?_, ?_, row8_has r1, row8_has r2⟩
  · have := ho.cellAt (j * 3 + 0) (by omega)
    rw [triL_at _ _ _ (by omega), e] at this
    simpa [tri3] using this
  · have := ho.cellAt (j * 3 + 1) (by omega)
    rw [triL_at _ _ _ (by omega), e] at this
    simpa [tri3] using this
  · have := ho.cellAt (j * 3 + 2) (by omega)
    rw [triL_at _ _ _ (by omega), e] at this
    simpa [tri3] using this
set_option maxHeartbeats 8000000 in
theorem copied_F (l cap : Nat) (a : Option Addr) (S : List (Int × List F × List F)) (w : World) (hl : l = S.length) (hl9 : l ≤ 2513169434843) (hS : Sh8 w a S) (hb9 : ∀ s ∈ S, s.2.1.length ≤ 140737488355328 ∧ s.2.2.length ≤ 140737488355328) :
    Calls Tryd.prog 18 #[.slice a l cap] w fun e w' => ∃ g cp, e = .returned (.slice (some ⟨g, 0, none⟩) l cp) ∧ Sh8 w' (some ⟨g, 0, none⟩) S ∧ Below w.heap.size w w' := by
  have HL : Hid (l = S.length) := hl
  have HS : Hid (Sh8 w a S) := hS
  have HB9 : Hid (∀ s ∈ S, s.2.1.length ≤ 140737488355328 ∧ s.2.2.length ≤ 140737488355328) := hb9
  have HB0 : Hid (Below w.heap.size w (w.alloc (.cells #[] 38))) := (Below.refl _ _).alloc (Nat.le_refl _) _
  have HO0 : Hid ((w.alloc (.cells #[] 38)).ownsRow w.heap.size 38 3 (.slice (some ⟨w.heap.size, 0, none⟩) 0 0) 0 (triL [])) := ⟨rfl, .inr ⟨w.heap.size, 0, #[], rfl, Nat.le_refl _, heap_alloc_last _ _, by simp, by simp [maxLen], rfl, rfl⟩⟩
  clear hl hS hb9
  go_enter Tryd.func18, Tryd.ntmps18
  go_wp2
  generalize hW0 : (w.alloc (.cells #[] 38)) = W0 at *
  clear hW0
  go_loopw [3, 9] (fun q t wr => ∃ (j : Nat) (T : List Tri), j ≤ l ∧ t = .int .i64 j ∧ T.length = j ∧ Below w.heap.size w wr ∧ wr.ownsRow w.heap.size 38 3 q j (triL T) ∧ CopT wr T (S.take j) ∧ ∃ g cp, q = .slice (some ⟨g, 0, none⟩) j cp) (fun _ t _ => l - (intOf t).toNat)
  case atStart => exact ⟨0, [], by omega, rfl, rfl, HB0.out, HO0.out, (fun j s h => by simp at h), ⟨_, _, rfl⟩⟩
  case round =>
    obtain ⟨j, T, hj, rfl, hTl, hbw, ho, hcp, hgo⟩ := hrel
    have HG : Hid (∃ g cp, u3 = .slice (some ⟨g, 0, none⟩) j cp) := hgo
    have HBW : Hid (Below w.heap.size w wr) := hbw
    have HO : Hid (wr.ownsRow w.heap.size 38 3 u3 j (triL T)) := ho
    have HCP : Hid (CopT wr T (S.take j)) := hcp
    have HTL : Hid (T.length = j) := hTl
    clear hbw ho hcp hTl hgo
    by_cases hlt : j < l
    · have hjS : j < S.length := by rw [← HL.out]; exact hlt
      obtain ⟨⟨m, xs, ys⟩, hs⟩ : ∃ s, S[j]? = some s := ⟨_, List.getElem?_eq_getElem hjS⟩
      rcases HS.out with e0 | ⟨bS, oS, eS, hcS⟩
      · rw [e0] at hjS; simp at hjS
      subst eS
      obtain ⟨a1, l1, a2, l2, e1, e2, e3, r1, r2⟩ := hcS j m xs ys hs
      have c1 := cell_later HBW.out e1
      have c2 := cell_later HBW.out e2
      have c3 := cell_later HBW.out e3
      have R1 : Hid (Row8 w a1 xs) := r1
      have R2 : Hid (Row8 w a2 ys) := r2
      obtain ⟨hbx, hby⟩ := HB9.out _ (List.mem_of_getElem? hs)
      have HSJ : Hid (S[j]? = some (m, xs, ys)) := hs
      have c4 : Hid ((wr.alloc (.cells #[.int .i64 m, .slice a1 xs.length l1, .slice a2 ys.length l2] 38)).heap[wr.heap.size]? = some (.cells #[.int .i64 m, .slice a1 xs.length l1, .slice a2 ys.length l2] 38 (0, 0))) := heap_alloc_last _ _
      have BWa : Below wr.heap.size wr (wr.alloc (.cells #[.int .i64 m, .slice a1 xs.length l1, .slice a2 ys.length l2] 38)) := (Below.refl _ _).alloc (Nat.le_refl _) _
      have HW : Hid (Below w.heap.size w (wr.alloc (.cells #[.int .i64 m, .slice a1 xs.length l1, .slice a2 ys.length l2] 38))) := HBW.out.trans (BWa.mono HBW.out.size)
      have OW : Hid ((wr.alloc (.cells #[.int .i64 m, .slice a1 xs.length l1, .slice a2 ys.length l2] 38)).ownsRow w.heap.size 38 3 u3 j (triL T)) := World.ownsRow.alloc HO.out _
      have CW : Hid (CopT (wr.alloc (.cells #[.int .i64 m, .slice a1 xs.length l1, .slice a2 ys.length l2] 38)) T (S.take j)) := fun j9 s9 hs9 => by
        obtain ⟨b1, d1, b2, d2, e, q1, q2⟩ := HCP.out j9 s9 hs9
        exact ⟨b1, d1, b2, d2, e, has8_later q1 BWa, has8_later q2 BWa⟩
      have hne : u3.ownBlock ≠ some wr.heap.size := fun e => by
        have := (HO.out.lt wr.heap.size e).2
        omega
      have HNE : Hid (u3.ownBlock ≠ some wr.heap.size) := hne
      clear hs hcS e1 e2 e3 r1 r2 BWa hne
      go_upto_region 5 with fail
      clear c1 c2 c3
      generalize (wr.alloc (.cells #[.int .i64 m, .slice a1 xs.length l1, .slice a2 ys.length l2] 38)) = W at *
      generalize wr.heap.size = N at *
      have C0 : ∀ u, W.grownBy u u3.ownBlock → u.cell? ⟨N, 0, none⟩ = some (.int .i64 m) := fun u hu => cellAt (grown_keep hu c4.out (fun e => HNE.out e.symm)) 0 _ rfl
      have C1 : ∀ u, W.grownBy u u3.ownBlock → u.cell? ⟨N, 1, none⟩ = some (.slice a1 xs.length l1) := fun u hu => cellAt (grown_keep hu c4.out (fun e => HNE.out e.symm)) 1 _ rfl
      have C2 : ∀ u, W.grownBy u u3.ownBlock → u.cell? ⟨N, 2, none⟩ = some (.slice a2 ys.length l2) := fun u hu => cellAt (grown_keep hu c4.out (fun e => HNE.out e.symm)) 2 _ rfl
      have hst : W.grownBy W.drew u3.ownBlock := grownBy_drew (World.grownBy.refl _ _)
      have hBV : Below W.heap.size W W.drew := (Below.refl _ _).drew
      refine wp_region_noPanic ?_
      refine wp_region_held_drew (S := fun u => W.grownBy u u3.ownBlock) (by kernel_rfl) ?_ (fun hHeld => ?_)
      · exact hst
      refine wpAnyH_take (i := 0) (oi := { dst := some 13, op := Op.move (Operand.tmp 3), type := 30, pos := "law.go:53", after := #[], guard := none }) (v := ?_) rfl (by kernel_rfl) (by kernel_rfl) (by kernel_rfl) (fun _ _ _ h => h) (Or.inl ⟨by rfl, ?_⟩) hHeld ?_
      rotate_left
      · intro u hSw
        go_simp
        try with_reducible rfl
      try simp only [Act.put, List.setIfInBounds_toArray, List.set_cons_zero, List.set_cons_succ]
      refine wpAnyH_take (i := 1) (oi := { dst := some 14, op := Op.fieldAddr 38 (Operand.tmp 5) 0, type := 0, pos := "law.go:53", after := #[], guard := none }) (v := ?_) rfl (by kernel_rfl) (by kernel_rfl) (by kernel_rfl) (fun _ _ _ h => h) (Or.inl ⟨by rfl, ?_⟩) hHeld ?_
      rotate_left
      · intro u hSw
        go_simp
        try with_reducible rfl
      try simp only [Act.put, List.setIfInBounds_toArray, List.set_cons_zero, List.set_cons_succ]
      refine wpAnyH_take (i := 2) (oi := { dst := some 15, op := Op.load 3 (Operand.tmp 14), type := 3, pos := "law.go:53", after := #[{ on := 1, ground := Ground.data }], guard := none }) (v := ?_) rfl (by kernel_rfl) (by kernel_rfl) (by kernel_rfl) (fun _ _ _ h => h) (Or.inl ⟨by rfl, ?_⟩) hHeld ?_
      rotate_left
      · intro u hSw
        go_simp
        try with_reducible rfl
      try simp only [Act.put, List.setIfInBounds_toArray, List.set_cons_zero, List.set_cons_succ]
      refine wpAnyH_take (i := 4) (oi := { dst := some 17, op := Op.fieldAddr 38 (Operand.tmp 5) 1, type := 0, pos := "law.go:53", after := #[], guard := none }) (v := ?_) rfl (by kernel_rfl) (by kernel_rfl) (by kernel_rfl) (fun _ _ _ h => h) (Or.inl ⟨by rfl, ?_⟩) hHeld ?_
      rotate_left
      · intro u hSw
        go_simp
        try with_reducible rfl
      try simp only [Act.put, List.setIfInBounds_toArray, List.set_cons_zero, List.set_cons_succ]
      refine wpAnyH_take (i := 5) (oi := { dst := some 18, op := Op.load 22 (Operand.tmp 17), type := 22, pos := "law.go:53", after := #[{ on := 4, ground := Ground.data }], guard := none }) (v := ?_) rfl (by kernel_rfl) (by kernel_rfl) (by kernel_rfl) (fun _ _ _ h => h) (Or.inl ⟨by rfl, ?_⟩) hHeld ?_
      rotate_left
      · intro u hSw
        go_simp
        try with_reducible rfl
      try simp only [Act.put, List.setIfInBounds_toArray, List.set_cons_zero, List.set_cons_succ]
      refine wpAnyH_take (i := 8) (oi := { dst := some 21, op := Op.fieldAddr 38 (Operand.tmp 5) 2, type := 0, pos := "law.go:53", after := #[], guard := none }) (v := ?_) rfl (by kernel_rfl) (by kernel_rfl) (by kernel_rfl) (fun _ _ _ h => h) (Or.inl ⟨by rfl, ?_⟩) hHeld ?_
      rotate_left
      · intro u hSw
        go_simp
        try with_reducible rfl
      try simp only [Act.put, List.setIfInBounds_toArray, List.set_cons_zero, List.set_cons_succ]
      refine wpAnyH_take (i := 9) (oi := { dst := some 22, op := Op.load 22 (Operand.tmp 21), type := 22, pos := "law.go:53", after := #[{ on := 8, ground := Ground.data }], guard := none }) (v := ?_) rfl (by kernel_rfl) (by kernel_rfl) (by kernel_rfl) (fun _ _ _ h => h) (Or.inl ⟨by rfl, ?_⟩) hHeld ?_
      rotate_left
      · intro u hSw
        go_simp
        try with_reducible rfl
      try simp only [Act.put, List.setIfInBounds_toArray, List.set_cons_zero, List.set_cons_succ]
      clear hst
      generalize hV0 : W.drew = V0 at *
      clear hV0
      refine wpAnyH_ready (rs := [3, 7]) (by kernel_rfl) (by simp) ?_
      refine (AllReadyH.cons (o := { dst := some 16, op := Op.buildSlice 22 0 #[], type := 22, pos := "law.go:53", after := #[], guard := none }) rfl (fun K hK => ?_) (AllReadyH.cons (o := { dst := some 20, op := Op.buildSlice 22 0 #[], type := 22, pos := "law.go:53", after := #[], guard := none }) rfl (fun K hK => ?_) AllReadyH.nil))
      · go_simp
        have hbn : Below V0.heap.size V0 (V0.alloc (.cells #[] 5)) := (Below.refl _ _).alloc (Nat.le_refl _) _
        have E3 : Hid ((V0.alloc (.cells #[] 5)).heap[V0.heap.size]? = some (.cells #[] 5 (0, 0))) := heap_alloc_last _ _
        replace hBV : Below W.heap.size W (V0.alloc (.cells #[] 5)) := hBV.trans (hbn.mono hBV.size)
        refine hK.out _ _ ?_ (fun hHeld => ?_)
        · exact grown_of_below hBV
        clear hK K hbn
        try simp only [Act.put, List.setIfInBounds_toArray, List.set_cons_zero, List.set_cons_succ]
        generalize (V0.alloc (.cells #[] 5)) = V1 at *
        generalize V0.heap.size = p3 at *
        refine wpAnyH_ready (rs := [6, 7]) (by kernel_rfl) (by simp) ?_
        refine (AllReadyH.cons (o := { dst := some 19, op := Op.call { callee := Callee.builtin Builtin.append, args := #[Operand.tmp 16, Operand.tmp 18], argTypes := #[22, 22] }, type := 22, pos := "law.go:53", after := #[{ on := 3, ground := Ground.data }, { on := 5, ground := Ground.data }], guard := none }) rfl (fun K hK => ?_) (AllReadyH.cons (o := { dst := some 20, op := Op.buildSlice 22 0 #[], type := 22, pos := "law.go:53", after := #[], guard := none }) rfl (fun K hK => ?_) AllReadyH.nil))
        · obtain ⟨gA, cA, V2, hrun, h8, hbn⟩ := copyE (c := l1) 22 rfl hbx E3.out (row8_below R1.out (HW.out.trans (hBV.mono HW.out.size)))
          refine wanted_append_run rfl _ _ 22 rfl _ _ _ _ rfl rfl hrun ?_
          replace hBV : Below W.heap.size W V2 := hBV.trans (hbn.mono hBV.size)
          have HA : Hid (Has8 V2 gA xs cA) := h8
          refine hK.out _ _ ?_ (fun hHeld => ?_)
          · exact grown_of_below hBV
          clear hK K hrun h8 hbn
          try simp only [Act.put, List.setIfInBounds_toArray, List.set_cons_zero, List.set_cons_succ]
          refine wpAnyH_ready (rs := [7]) (by kernel_rfl) (by simp) ?_
          refine (AllReadyH.cons (o := { dst := some 20, op := Op.buildSlice 22 0 #[], type := 22, pos := "law.go:53", after := #[], guard := none }) rfl (fun K hK => ?_) AllReadyH.nil)
          go_simp
          have hbn : Below V2.heap.size V2 (V2.alloc (.cells #[] 5)) := (Below.refl _ _).alloc (Nat.le_refl _) _
          have E7 : Hid ((V2.alloc (.cells #[] 5)).heap[V2.heap.size]? = some (.cells #[] 5 (0, 0))) := heap_alloc_last _ _
          replace hBV : Below W.heap.size W (V2.alloc (.cells #[] 5)) := hBV.trans (hbn.mono hBV.size)
          replace HA : Hid _ := has8_later HA.out hbn
          refine hK.out _ _ ?_ (fun hHeld => ?_)
          · exact grown_of_below hBV
          clear hK K hbn
          try simp only [Act.put, List.setIfInBounds_toArray, List.set_cons_zero, List.set_cons_succ]
          generalize (V2.alloc (.cells #[] 5)) = V3 at *
          generalize V2.heap.size = p7 at *
          refine wpAnyH_ready (rs := [10]) (by kernel_rfl) (by simp) ?_
          refine (AllReadyH.cons (o := { dst := some 23, op := Op.call { callee := Callee.builtin Builtin.append, args := #[Operand.tmp 20, Operand.tmp 22], argTypes := #[22, 22] }, type := 22, pos := "law.go:53", after := #[{ on := 7, ground := Ground.data }, { on := 9, ground := Ground.data }, { on := 6, ground := Ground.chain }], guard := none }) rfl (fun K hK => ?_) AllReadyH.nil)
          obtain ⟨gB, cB, VB, hrun, h8, hbn⟩ := copyE (c := l2) 22 rfl hby E7.out (row8_below R2.out (HW.out.trans (hBV.mono HW.out.size)))
          refine wanted_append_run rfl _ _ 22 rfl _ _ _ _ rfl rfl hrun ?_
          replace hBV : Below W.heap.size W VB := hBV.trans (hbn.mono hBV.size)
          have HB : Hid (Has8 VB gB ys cB) := h8
          replace HA : Hid _ := has8_later HA.out hbn
          refine hK.out _ _ ?_ (fun hHeld => ?_)
          · exact grown_of_below hBV
          clear hK K hrun h8 hbn
          try simp only [Act.put, List.setIfInBounds_toArray, List.set_cons_zero, List.set_cons_succ]
          refine wpAnyH_take (i := 11) (oi := { dst := some 24, op := Op.build 38 #[(0, Operand.tmp 15), (1, Operand.tmp 19), (2, Operand.tmp 23)], type := 38, pos := "law.go:53", after := #[{ on := 2, ground := Ground.data }, { on := 6, ground := Ground.data }, { on := 10, ground := Ground.data }], guard := none }) (v := ?_) rfl (by kernel_rfl) (by kernel_rfl) (by kernel_rfl) (fun _ _ _ h => h) (Or.inl ⟨by rfl, ?_⟩) hHeld ?_
          rotate_left
          · intro u hSw
            go_simp
            try with_reducible rfl
          try simp only [Act.put, List.setIfInBounds_toArray, List.set_cons_zero, List.set_cons_succ]
          refine wpAnyH_ready (rs := [12]) (by kernel_rfl) (by simp) ?_
          refine (AllReadyH.cons (o := { dst := some 25, op := Op.buildSlice 30 1 #[(0, Operand.tmp 24)], type := 30, pos := "law.go:53", after := #[{ on := 11, ground := Ground.data }], guard := none }) rfl (fun K hK => ?_) AllReadyH.nil)
          go_simp
          have hbn : Below VB.heap.size VB (VB.alloc (.cells #[.int .i64 m, .slice (some ⟨gA, 0, none⟩) xs.length cA, .slice (some ⟨gB, 0, none⟩) ys.length cB] 38)) := (Below.refl _ _).alloc (Nat.le_refl _) _
          replace hBV : Below W.heap.size W (VB.alloc (.cells #[.int .i64 m, .slice (some ⟨gA, 0, none⟩) xs.length cA, .slice (some ⟨gB, 0, none⟩) ys.length cB] 38)) := hBV.trans (hbn.mono hBV.size)
          replace HA : Hid _ := has8_later HA.out hbn
          replace HB : Hid _ := has8_later HB.out hbn
          have EX : Hid ((VB.alloc (.cells #[.int .i64 m, .slice (some ⟨gA, 0, none⟩) xs.length cA, .slice (some ⟨gB, 0, none⟩) ys.length cB] 38)).heap[VB.heap.size]? = some (.cells #[.int .i64 m, .slice (some ⟨gA, 0, none⟩) xs.length cA, .slice (some ⟨gB, 0, none⟩) ys.length cB] 38 (0, 0))) := heap_alloc_last _ _
          refine hK.out _ _ ?_ (fun hHeld => ?_)
          · exact grown_of_below hBV
          clear hK K hbn
          try simp only [Act.put, List.setIfInBounds_toArray, List.set_cons_zero, List.set_cons_succ]
          generalize (VB.alloc (.cells #[.int .i64 m, .slice (some ⟨gA, 0, none⟩) xs.length cA, .slice (some ⟨gB, 0, none⟩) ys.length cB] 38)) = VC at *
          generalize VB.heap.size = pX at *
          have hOV := own_below OW.out hBV
          obtain ⟨gO, cO, VO, hrun, hO2, hgr⟩ := appendT3 (c := 1) 30 hOV EX.out rfl rfl rfl (by omega) (Nat.le_trans HW.out.size hBV.size)
          refine wpAnyH_ready (rs := [13]) (by kernel_rfl) (by simp) ?_
          refine (AllReadyH.cons (o := { dst := some 26, op := Op.call { callee := Callee.builtin Builtin.append, args := #[Operand.tmp 13, Operand.tmp 25], argTypes := #[30, 30] }, type := 30, pos := "law.go:53", after := #[{ on := 0, ground := Ground.data }, { on := 12, ground := Ground.data }, { on := 10, ground := Ground.chain }], guard := none }) rfl (fun K hK => ?_) AllReadyH.nil)
          refine wanted_append_run rfl _ _ 30 rfl _ _ _ _ rfl rfl hrun ?_
          refine hK.out _ _ ?_ (fun hHeld => ?_)
          · exact grown_after hBV hgr
          clear hK K
          try simp only [Act.put, List.setIfInBounds_toArray, List.set_cons_zero, List.set_cons_succ]
          refine wpAnyH_take (i := 14) (oi := { dst := some 3, op := Op.assign (Operand.tmp 26), type := 30, pos := "law.go:53", after := #[{ on := 13, ground := Ground.data }, { on := 13, ground := Ground.chain }, { on := 0, ground := Ground.phase }, { on := 1, ground := Ground.phase }, { on := 2, ground := Ground.phase }, { on := 3, ground := Ground.phase }, { on := 4, ground := Ground.phase }, { on := 5, ground := Ground.phase }, { on := 6, ground := Ground.phase }, { on := 7, ground := Ground.phase }, { on := 8, ground := Ground.phase }, { on := 9, ground := Ground.phase }, { on := 10, ground := Ground.phase }, { on := 11, ground := Ground.phase }, { on := 12, ground := Ground.phase }, { on := 13, ground := Ground.phase }], guard := none }) (v := ?_) rfl (by kernel_rfl) (by kernel_rfl) (by kernel_rfl) (fun _ _ _ h => h) (Or.inl ⟨by rfl, ?_⟩) hHeld ?_
          rotate_left
          · intro u hSw
            go_simp
            try with_reducible rfl
          try simp only [Act.put, List.setIfInBounds_toArray, List.set_cons_zero, List.set_cons_succ]
          refine wpAnyH_done (by kernel_rfl) ?_ _
          refine NoPanic.normal ?_
          have HBF : Hid (Below w.heap.size w VO) := below_own (HW.out.trans (hBV.mono HW.out.size)) hOV hgr (Nat.le_trans HW.out.size hBV.size)
          have HCF : Hid (CopT VO (T ++ [(.int .i64 m, .slice (some ⟨gA, 0, none⟩) xs.length cA, .slice (some ⟨gB, 0, none⟩) ys.length cB)]) (S.take (j + 1))) := by
            show CopT ..
            rw [List.take_add_one, HSJ.out]
            exact copT_snoc (s := (m, xs, ys)) CW.out (by rw [HTL.out, List.length_take, ← HL.out]; omega) (fun g9 ys9 c9 h9 => has8_own hOV hgr (has8_later h9 hBV)) (has8_own hOV hgr HA.out) (has8_own hOV hgr HB.out)
          have HOF : Hid _ := hO2
          have HTF : Hid ((T ++ [((.int .i64 m : Value), (.slice (some ⟨gA, 0, none⟩) xs.length cA : Value), (.slice (some ⟨gB, 0, none⟩) ys.length cB : Value))]).length = j + 1) := by
            show _ = _
            rw [List.length_append, HTL.out]; rfl
          clear hOV hrun hO2 hgr hHeld hBV C0 C1 C2
          go_wp2
          exact ⟨⟨j + 1, _, by omega, by go_num, HTF.out, HBF.out, HOF.out, HCF.out, _, _, rfl⟩, by simp [intOf]; omega⟩
        · go_simp
          have hbn : Below V1.heap.size V1 (V1.alloc (.cells #[] 5)) := (Below.refl _ _).alloc (Nat.le_refl _) _
          have E7 : Hid ((V1.alloc (.cells #[] 5)).heap[V1.heap.size]? = some (.cells #[] 5 (0, 0))) := heap_alloc_last _ _
          replace hBV : Below W.heap.size W (V1.alloc (.cells #[] 5)) := hBV.trans (hbn.mono hBV.size)
          replace E3 : Hid _ := heap_later E3.out hbn
          refine hK.out _ _ ?_ (fun hHeld => ?_)
          · exact grown_of_below hBV
          clear hK K hbn
          try simp only [Act.put, List.setIfInBounds_toArray, List.set_cons_zero, List.set_cons_succ]
          generalize (V1.alloc (.cells #[] 5)) = V2 at *
          generalize V1.heap.size = p7 at *
          refine wpAnyH_ready (rs := [6]) (by kernel_rfl) (by simp) ?_
          refine (AllReadyH.cons (o := { dst := some 19, op := Op.call { callee := Callee.builtin Builtin.append, args := #[Operand.tmp 16, Operand.tmp 18], argTypes := #[22, 22] }, type := 22, pos := "law.go:53", after := #[{ on := 3, ground := Ground.data }, { on := 5, ground := Ground.data }], guard := none }) rfl (fun K hK => ?_) AllReadyH.nil)
          obtain ⟨gA, cA, V3, hrun, h8, hbn⟩ := copyE (c := l1) 22 rfl hbx E3.out (row8_below R1.out (HW.out.trans (hBV.mono HW.out.size)))
          refine wanted_append_run rfl _ _ 22 rfl _ _ _ _ rfl rfl hrun ?_
          replace hBV : Below W.heap.size W V3 := hBV.trans (hbn.mono hBV.size)
          have HA : Hid (Has8 V3 gA xs cA) := h8
          replace E7 : Hid _ := heap_later E7.out hbn
          refine hK.out _ _ ?_ (fun hHeld => ?_)
          · exact grown_of_below hBV
          clear hK K hrun h8 hbn
          try simp only [Act.put, List.setIfInBounds_toArray, List.set_cons_zero, List.set_cons_succ]
          refine wpAnyH_ready (rs := [10]) (by kernel_rfl) (by simp) ?_
          refine (AllReadyH.cons (o := { dst := some 23, op := Op.call { callee := Callee.builtin Builtin.append, args := #[Operand.tmp 20, Operand.tmp 22], argTypes := #[22, 22] }, type := 22, pos := "law.go:53", after := #[{ on := 7, ground := Ground.data }, { on := 9, ground := Ground.data }, { on := 6, ground := Ground.chain }], guard := none }) rfl (fun K hK => ?_) AllReadyH.nil)
          obtain ⟨gB, cB, VB, hrun, h8, hbn⟩ := copyE (c := l2) 22 rfl hby E7.out (row8_below R2.out (HW.out.trans (hBV.mono HW.out.size)))
          refine wanted_append_run rfl _ _ 22 rfl _ _ _ _ rfl rfl hrun ?_
          replace hBV : Below W.heap.size W VB := hBV.trans (hbn.mono hBV.size)
          have HB : Hid (Has8 VB gB ys cB) := h8
          replace HA : Hid _ := has8_later HA.out hbn
          refine hK.out _ _ ?_ (fun hHeld => ?_)
          · exact grown_of_below hBV
          clear hK K hrun h8 hbn
          try simp only [Act.put, List.setIfInBounds_toArray, List.set_cons_zero, List.set_cons_succ]
          refine wpAnyH_take (i := 11) (oi := { dst := some 24, op := Op.build 38 #[(0, Operand.tmp 15), (1, Operand.tmp 19), (2, Operand.tmp 23)], type := 38, pos := "law.go:53", after := #[{ on := 2, ground := Ground.data }, { on := 6, ground := Ground.data }, { on := 10, ground := Ground.data }], guard := none }) (v := ?_) rfl (by kernel_rfl) (by kernel_rfl) (by kernel_rfl) (fun _ _ _ h => h) (Or.inl ⟨by rfl, ?_⟩) hHeld ?_
          rotate_left
          · intro u hSw
            go_simp
            try with_reducible rfl
          try simp only [Act.put, List.setIfInBounds_toArray, List.set_cons_zero, List.set_cons_succ]
          refine wpAnyH_ready (rs := [12]) (by kernel_rfl) (by simp) ?_
          refine (AllReadyH.cons (o := { dst := some 25, op := Op.buildSlice 30 1 #[(0, Operand.tmp 24)], type := 30, pos := "law.go:53", after := #[{ on := 11, ground := Ground.data }], guard := none }) rfl (fun K hK => ?_) AllReadyH.nil)
          go_simp
          have hbn : Below VB.heap.size VB (VB.alloc (.cells #[.int .i64 m, .slice (some ⟨gA, 0, none⟩) xs.length cA, .slice (some ⟨gB, 0, none⟩) ys.length cB] 38)) := (Below.refl _ _).alloc (Nat.le_refl _) _
          replace hBV : Below W.heap.size W (VB.alloc (.cells #[.int .i64 m, .slice (some ⟨gA, 0, none⟩) xs.length cA, .slice (some ⟨gB, 0, none⟩) ys.length cB] 38)) := hBV.trans (hbn.mono hBV.size)
          replace HA : Hid _ := has8_later HA.out hbn
          replace HB : Hid _ := has8_later HB.out hbn
          have EX : Hid ((VB.alloc (.cells #[.int .i64 m, .slice (some ⟨gA, 0, none⟩) xs.length cA, .slice (some ⟨gB, 0, none⟩) ys.length cB] 38)).heap[VB.heap.size]? = some (.cells #[.int .i64 m, .slice (some ⟨gA, 0, none⟩) xs.length cA, .slice (some ⟨gB, 0, none⟩) ys.length cB] 38 (0, 0))) := heap_alloc_last _ _
          refine hK.out _ _ ?_ (fun hHeld => ?_)
          · exact grown_of_below hBV
          clear hK K hbn
          try simp only [Act.put, List.setIfInBounds_toArray, List.set_cons_zero, List.set_cons_succ]
          generalize (VB.alloc (.cells #[.int .i64 m, .slice (some ⟨gA, 0, none⟩) xs.length cA, .slice (some ⟨gB, 0, none⟩) ys.length cB] 38)) = VC at *
          generalize VB.heap.size = pX at *
          have hOV := own_below OW.out hBV
          obtain ⟨gO, cO, VO, hrun, hO2, hgr⟩ := appendT3 (c := 1) 30 hOV EX.out rfl rfl rfl (by omega) (Nat.le_trans HW.out.size hBV.size)
          refine wpAnyH_ready (rs := [13]) (by kernel_rfl) (by simp) ?_
          refine (AllReadyH.cons (o := { dst := some 26, op := Op.call { callee := Callee.builtin Builtin.append, args := #[Operand.tmp 13, Operand.tmp 25], argTypes := #[30, 30] }, type := 30, pos := "law.go:53", after := #[{ on := 0, ground := Ground.data }, { on := 12, ground := Ground.data }, { on := 10, ground := Ground.chain }], guard := none }) rfl (fun K hK => ?_) AllReadyH.nil)
          refine wanted_append_run rfl _ _ 30 rfl _ _ _ _ rfl rfl hrun ?_
          refine hK.out _ _ ?_ (fun hHeld => ?_)
          · exact grown_after hBV hgr
          clear hK K
          try simp only [Act.put, List.setIfInBounds_toArray, List.set_cons_zero, List.set_cons_succ]
          refine wpAnyH_take (i := 14) (oi := { dst := some 3, op := Op.assign (Operand.tmp 26), type := 30, pos := "law.go:53", after := #[{ on := 13, ground := Ground.data }, { on := 13, ground := Ground.chain }, { on := 0, ground := Ground.phase }, { on := 1, ground := Ground.phase }, { on := 2, ground := Ground.phase }, { on := 3, ground := Ground.phase }, { on := 4, ground := Ground.phase }, { on := 5, ground := Ground.phase }, { on := 6, ground := Ground.phase }, { on := 7, ground := Ground.phase }, { on := 8, ground := Ground.phase }, { on := 9, ground := Ground.phase }, { on := 10, ground := Ground.phase }, { on := 11, ground := Ground.phase }, { on := 12, ground := Ground.phase }, { on := 13, ground := Ground.phase }], guard := none }) (v := ?_) rfl (by kernel_rfl) (by kernel_rfl) (by kernel_rfl) (fun _ _ _ h => h) (Or.inl ⟨by rfl, ?_⟩) hHeld ?_
          rotate_left
          · intro u hSw
            go_simp
            try with_reducible rfl
          try simp only [Act.put, List.setIfInBounds_toArray, List.set_cons_zero, List.set_cons_succ]
          refine wpAnyH_done (by kernel_rfl) ?_ _
          refine NoPanic.normal ?_
          have HBF : Hid (Below w.heap.size w VO) := below_own (HW.out.trans (hBV.mono HW.out.size)) hOV hgr (Nat.le_trans HW.out.size hBV.size)
          have HCF : Hid (CopT VO (T ++ [(.int .i64 m, .slice (some ⟨gA, 0, none⟩) xs.length cA, .slice (some ⟨gB, 0, none⟩) ys.length cB)]) (S.take (j + 1))) := by
            show CopT ..
            rw [List.take_add_one, HSJ.out]
            exact copT_snoc (s := (m, xs, ys)) CW.out (by rw [HTL.out, List.length_take, ← HL.out]; omega) (fun g9 ys9 c9 h9 => has8_own hOV hgr (has8_later h9 hBV)) (has8_own hOV hgr HA.out) (has8_own hOV hgr HB.out)
          have HOF : Hid _ := hO2
          have HTF : Hid ((T ++ [((.int .i64 m : Value), (.slice (some ⟨gA, 0, none⟩) xs.length cA : Value), (.slice (some ⟨gB, 0, none⟩) ys.length cB : Value))]).length = j + 1) := by
            show _ = _
            rw [List.length_append, HTL.out]; rfl
          clear hOV hrun hO2 hgr hHeld hBV C0 C1 C2
          go_wp2
          exact ⟨⟨j + 1, _, by omega, by go_num, HTF.out, HBF.out, HOF.out, HCF.out, _, _, rfl⟩, by simp [intOf]; omega⟩
      · go_simp
        have hbn : Below V0.heap.size V0 (V0.alloc (.cells #[] 5)) := (Below.refl _ _).alloc (Nat.le_refl _) _
        have E7 : Hid ((V0.alloc (.cells #[] 5)).heap[V0.heap.size]? = some (.cells #[] 5 (0, 0))) := heap_alloc_last _ _
        replace hBV : Below W.heap.size W (V0.alloc (.cells #[] 5)) := hBV.trans (hbn.mono hBV.size)
        refine hK.out _ _ ?_ (fun hHeld => ?_)
        · exact grown_of_below hBV
        clear hK K hbn
        try simp only [Act.put, List.setIfInBounds_toArray, List.set_cons_zero, List.set_cons_succ]
        generalize (V0.alloc (.cells #[] 5)) = V1 at *
        generalize V0.heap.size = p7 at *
        refine wpAnyH_ready (rs := [3]) (by kernel_rfl) (by simp) ?_
        refine (AllReadyH.cons (o := { dst := some 16, op := Op.buildSlice 22 0 #[], type := 22, pos := "law.go:53", after := #[], guard := none }) rfl (fun K hK => ?_) AllReadyH.nil)
        go_simp
        have hbn : Below V1.heap.size V1 (V1.alloc (.cells #[] 5)) := (Below.refl _ _).alloc (Nat.le_refl _) _
        have E3 : Hid ((V1.alloc (.cells #[] 5)).heap[V1.heap.size]? = some (.cells #[] 5 (0, 0))) := heap_alloc_last _ _
        replace hBV : Below W.heap.size W (V1.alloc (.cells #[] 5)) := hBV.trans (hbn.mono hBV.size)
        replace E7 : Hid _ := heap_later E7.out hbn
        refine hK.out _ _ ?_ (fun hHeld => ?_)
        · exact grown_of_below hBV
        clear hK K hbn
        try simp only [Act.put, List.setIfInBounds_toArray, List.set_cons_zero, List.set_cons_succ]
        generalize (V1.alloc (.cells #[] 5)) = V2 at *
        generalize V1.heap.size = p3 at *
        refine wpAnyH_ready (rs := [6]) (by kernel_rfl) (by simp) ?_
        refine (AllReadyH.cons (o := { dst := some 19, op := Op.call { callee := Callee.builtin Builtin.append, args := #[Operand.tmp 16, Operand.tmp 18], argTypes := #[22, 22] }, type := 22, pos := "law.go:53", after := #[{ on := 3, ground := Ground.data }, { on := 5, ground := Ground.data }], guard := none }) rfl (fun K hK => ?_) AllReadyH.nil)
        obtain ⟨gA, cA, V3, hrun, h8, hbn⟩ := copyE (c := l1) 22 rfl hbx E3.out (row8_below R1.out (HW.out.trans (hBV.mono HW.out.size)))
        refine wanted_append_run rfl _ _ 22 rfl _ _ _ _ rfl rfl hrun ?_
        replace hBV : Below W.heap.size W V3 := hBV.trans (hbn.mono hBV.size)
        have HA : Hid (Has8 V3 gA xs cA) := h8
        replace E7 : Hid _ := heap_later E7.out hbn
        refine hK.out _ _ ?_ (fun hHeld => ?_)
        · exact grown_of_below hBV
        clear hK K hrun h8 hbn
        try simp only [Act.put, List.setIfInBounds_toArray, List.set_cons_zero, List.set_cons_succ]
        refine wpAnyH_ready (rs := [10]) (by kernel_rfl) (by simp) ?_
        refine (AllReadyH.cons (o := { dst := some 23, op := Op.call { callee := Callee.builtin Builtin.append, args := #[Operand.tmp 20, Operand.tmp 22], argTypes := #[22, 22] }, type := 22, pos := "law.go:53", after := #[{ on := 7, ground := Ground.data }, { on := 9, ground := Ground.data }, { on := 6, ground := Ground.chain }], guard := none }) rfl (fun K hK => ?_) AllReadyH.nil)
        obtain ⟨gB, cB, VB, hrun, h8, hbn⟩ := copyE (c := l2) 22 rfl hby E7.out (row8_below R2.out (HW.out.trans (hBV.mono HW.out.size)))
        refine wanted_append_run rfl _ _ 22 rfl _ _ _ _ rfl rfl hrun ?_
        replace hBV : Below W.heap.size W VB := hBV.trans (hbn.mono hBV.size)
        have HB : Hid (Has8 VB gB ys cB) := h8
        replace HA : Hid _ := has8_later HA.out hbn
        refine hK.out _ _ ?_ (fun hHeld => ?_)
        · exact grown_of_below hBV
        clear hK K hrun h8 hbn
        try simp only [Act.put, List.setIfInBounds_toArray, List.set_cons_zero, List.set_cons_succ]
        refine wpAnyH_take (i := 11) (oi := { dst := some 24, op := Op.build 38 #[(0, Operand.tmp 15), (1, Operand.tmp 19), (2, Operand.tmp 23)], type := 38, pos := "law.go:53", after := #[{ on := 2, ground := Ground.data }, { on := 6, ground := Ground.data }, { on := 10, ground := Ground.data }], guard := none }) (v := ?_) rfl (by kernel_rfl) (by kernel_rfl) (by kernel_rfl) (fun _ _ _ h => h) (Or.inl ⟨by rfl, ?_⟩) hHeld ?_
        rotate_left
        · intro u hSw
          go_simp
          try with_reducible rfl
        try simp only [Act.put, List.setIfInBounds_toArray, List.set_cons_zero, List.set_cons_succ]
        refine wpAnyH_ready (rs := [12]) (by kernel_rfl) (by simp) ?_
        refine (AllReadyH.cons (o := { dst := some 25, op := Op.buildSlice 30 1 #[(0, Operand.tmp 24)], type := 30, pos := "law.go:53", after := #[{ on := 11, ground := Ground.data }], guard := none }) rfl (fun K hK => ?_) AllReadyH.nil)
        go_simp
        have hbn : Below VB.heap.size VB (VB.alloc (.cells #[.int .i64 m, .slice (some ⟨gA, 0, none⟩) xs.length cA, .slice (some ⟨gB, 0, none⟩) ys.length cB] 38)) := (Below.refl _ _).alloc (Nat.le_refl _) _
        replace hBV : Below W.heap.size W (VB.alloc (.cells #[.int .i64 m, .slice (some ⟨gA, 0, none⟩) xs.length cA, .slice (some ⟨gB, 0, none⟩) ys.length cB] 38)) := hBV.trans (hbn.mono hBV.size)
        replace HA : Hid _ := has8_later HA.out hbn
        replace HB : Hid _ := has8_later HB.out hbn
        have EX : Hid ((VB.alloc (.cells #[.int .i64 m, .slice (some ⟨gA, 0, none⟩) xs.length cA, .slice (some ⟨gB, 0, none⟩) ys.length cB] 38)).heap[VB.heap.size]? = some (.cells #[.int .i64 m, .slice (some ⟨gA, 0, none⟩) xs.length cA, .slice (some ⟨gB, 0, none⟩) ys.length cB] 38 (0, 0))) := heap_alloc_last _ _
        refine hK.out _ _ ?_ (fun hHeld => ?_)
        · exact grown_of_below hBV
        clear hK K hbn
        try simp only [Act.put, List.setIfInBounds_toArray, List.set_cons_zero, List.set_cons_succ]
        generalize (VB.alloc (.cells #[.int .i64 m, .slice (some ⟨gA, 0, none⟩) xs.length cA, .slice (some ⟨gB, 0, none⟩) ys.length cB] 38)) = VC at *
        generalize VB.heap.size = pX at *
        have hOV := own_below OW.out hBV
        obtain ⟨gO, cO, VO, hrun, hO2, hgr⟩ := appendT3 (c := 1) 30 hOV EX.out rfl rfl rfl (by omega) (Nat.le_trans HW.out.size hBV.size)
        refine wpAnyH_ready (rs := [13]) (by kernel_rfl) (by simp) ?_
        refine (AllReadyH.cons (o := { dst := some 26, op := Op.call { callee := Callee.builtin Builtin.append, args := #[Operand.tmp 13, Operand.tmp 25], argTypes := #[30, 30] }, type := 30, pos := "law.go:53", after := #[{ on := 0, ground := Ground.data }, { on := 12, ground := Ground.data }, { on := 10, ground := Ground.chain }], guard := none }) rfl (fun K hK => ?_) AllReadyH.nil)
        refine wanted_append_run rfl _ _ 30 rfl _ _ _ _ rfl rfl hrun ?_
        refine hK.out _ _ ?_ (fun hHeld => ?_)
        · exact grown_after hBV hgr
        clear hK K
        try simp only [Act.put, List.setIfInBounds_toArray, List.set_cons_zero, List.set_cons_succ]
        refine wpAnyH_take (i := 14) (oi := { dst := some 3, op := Op.assign (Operand.tmp 26), type := 30, pos := "law.go:53", after := #[{ on := 13, ground := Ground.data }, { on := 13, ground := Ground.chain }, { on := 0, ground := Ground.phase }, { on := 1, ground := Ground.phase }, { on := 2, ground := Ground.phase }, { on := 3, ground := Ground.phase }, { on := 4, ground := Ground.phase }, { on := 5, ground := Ground.phase }, { on := 6, ground := Ground.phase }, { on := 7, ground := Ground.phase }, { on := 8, ground := Ground.phase }, { on := 9, ground := Ground.phase }, { on := 10, ground := Ground.phase }, { on := 11, ground := Ground.phase }, { on := 12, ground := Ground.phase }, { on := 13, ground := Ground.phase }], guard := none }) (v := ?_) rfl (by kernel_rfl) (by kernel_rfl) (by kernel_rfl) (fun _ _ _ h => h) (Or.inl ⟨by rfl, ?_⟩) hHeld ?_
        rotate_left
        · intro u hSw
          go_simp
          try with_reducible rfl
        try simp only [Act.put, List.setIfInBounds_toArray, List.set_cons_zero, List.set_cons_succ]
        refine wpAnyH_done (by kernel_rfl) ?_ _
        refine NoPanic.normal ?_
        have HBF : Hid (Below w.heap.size w VO) := below_own (HW.out.trans (hBV.mono HW.out.size)) hOV hgr (Nat.le_trans HW.out.size hBV.size)
        have HCF : Hid (CopT VO (T ++ [(.int .i64 m, .slice (some ⟨gA, 0, none⟩) xs.length cA, .slice (some ⟨gB, 0, none⟩) ys.length cB)]) (S.take (j + 1))) := by
          show CopT ..
          rw [List.take_add_one, HSJ.out]
          exact copT_snoc (s := (m, xs, ys)) CW.out (by rw [HTL.out, List.length_take, ← HL.out]; omega) (fun g9 ys9 c9 h9 => has8_own hOV hgr (has8_later h9 hBV)) (has8_own hOV hgr HA.out) (has8_own hOV hgr HB.out)
        have HOF : Hid _ := hO2
        have HTF : Hid ((T ++ [((.int .i64 m : Value), (.slice (some ⟨gA, 0, none⟩) xs.length cA : Value), (.slice (some ⟨gB, 0, none⟩) ys.length cB : Value))]).length = j + 1) := by
          show _ = _
          rw [List.length_append, HTL.out]; rfl
        clear hOV hrun hO2 hgr hHeld hBV C0 C1 C2
        go_wp2
        exact ⟨⟨j + 1, _, by omega, by go_num, HTF.out, HBF.out, HOF.out, HCF.out, _, _, rfl⟩, by simp [intOf]; omega⟩
    · obtain rfl : j = l := by omega
      obtain ⟨g, cp, rfl⟩ := HG.out
      have hS9 : Sh8 wr (some ⟨g, 0, none⟩) S := by
        have hcp := HCP.out
        rw [List.take_of_length_le (by rw [← HL.out]; exact Nat.le_refl _)] at hcp
        exact sh8_cop HO.out hcp HL.out
      have HS9 : Hid _ := hS9
      clear hS9 HO
      go_wp2
      go_ret
      exact ⟨g, cp, rfl, HS9.out, HBW.out⟩
end Go.Proofs.YtmlpijlcpeoeaaaDoor

/- What the document's own Join answers, of all lists of halves; nothing that was there turns. -/
namespace Go.Proofs.YtmlpijlcpeoeaaaDoor
open Go.RowKit Gf
set_option linter.unusedVariables false
set_option maxRecDepth 20000
theorem wantedA_run {P : Program} {w : World} {o : Oper} {a : Act} {K : Act → World → Prop} {Q : Exit → Act → World → Prop} {ys : Nat → Option Bool} {L : Prop} (hgd : o.guard = none) (s x : Operand) (t : TypeId)
    (ho : o.op = .call { callee := .builtin .append, args := #[s, x], argTypes := #[t, t] }) (v u r : Value) (w' : World) (hs : a.eval s = v) (hx : a.eval x = u)
    (hr : (Builtin.append_ #[t, t] o.type #[v, u]).run P w = .ok r w') (h : K (a.put o.dst r) w') : if Region.wanted o ys = true then Oper.wp P o a w K Q else L := by
  rw [if_pos (by simp [Region.wanted, hgd])]
  unfold Oper.wp execOp
  simp only [ho, resolve, invoke, builtin, Sem.run_bind, Sem.run_pure, Result.andThen_ok, List.map_toArray, List.map_cons, List.map_nil, hs, hx, hr]
  exact h
theorem take_snoc8 {xs : List F} {i : Nat} (h : i < xs.length) : xs.take i ++ [at8 xs i] = xs.take (i + 1) := by
  rw [List.take_succ_eq_append_getElem h]
  simp [at8, h]
theorem rjoin_bad (k size : Int) (a : Option Addr) (l ca : Nat) (w : World) (h : halfE k size ≠ 0) :
    Calls Tryd.prog 39 #[.int .i64 k, .int .i64 size, .slice a l ca] w fun e w' => e = .returned (.tuple #[.slice none 0 0, .int .i64 (halfE k size)]) ∧ w = w' := by
  have HF : Hid _ := fun w => rhalf_F k size w
  rw [halfV_no h] at HF
  have h' : ¬ ((halfE k size : Nat) : Int) = 0 := by omega
  generalize halfE k size = x at *
  clear h
  go_enter Tryd.func39, Tryd.ntmps39
  go_wp2_with fail
  refine Calls.mono (HF.out _) ?_
  rintro e w1 ⟨rfl, rfl⟩
  go_wp2_with fail
  go_ret2
  exact ⟨rfl, rfl⟩
set_option maxHeartbeats 8000000 in
theorem rjoin_F (k n l cap : Nat) (a : Option Addr) (L : List (List F)) (w : World) (h1 : 1 ≤ k) (h2 : k ≤ 14) (h3 : 1 ≤ n) (h4 : n ≤ 128 * k)
    (hl : l = L.length) (hl9 : l ≤ 140737488355328) (hL : Rows8 w a L) :
    Calls Tryd.prog 39 #[.int .i64 k, .int .i64 n, .slice a l cap] w fun e w' =>
      (¬ FitP (2 * k) (cntN (2 * k) n) L ∧ e = .returned (.tuple #[.slice none 0 0, .int .i64 5]) ∧ Below w.heap.size w w') ∨
      (FitP (2 * k) (cntN (2 * k) n) L ∧ ∃ g cap, e = .returned (.tuple #[.slice (some ⟨g, 0, none⟩) n cap, .int .i64 0]) ∧ n ≤ L.flatten.length ∧ Has8 w' g (L.flatten.take n) cap ∧ w.heap.size ≤ g ∧ Below w.heap.size w w') := by
  have HF : Hid _ := fun w => rhalf_F k n w
  rw [halfV_ok h1 h2 h3 h4, halfE_ok h1 h2 h3 h4] at HF
  obtain ⟨k1, k2, k3, k4⟩ := cnt_half h1 h2 h3 h4
  obtain ⟨c, hc⟩ : ∃ c, c = 2 * k := ⟨_, rfl⟩
  rw [← hc] at HF k1 k2 k3 k4 ⊢
  generalize cntN c n = H at *
  have HKC : Hid ((2 : Int) * k = c) := by show _ = _; omega
  have hc28 : c ≤ 28 := by omega
  have HK3 : Hid _ := k3
  have HL : Hid _ := hl
  have HR : Hid _ := hL
  have hn9 : n ≤ 1792 := by omega
  clear k3 k4 h4 hc hl hL
  go_enter Tryd.func39, Tryd.ntmps39
  go_wp2_with fail
  refine Calls.mono (HF.out _) ?_
  rintro e w1 ⟨rfl, rfl⟩
  have hkc := HKC.out
  go_upto_region 5 with fail
  have hbl : ((l : Int) != (c : Int)) = false ↔ l = c := by simp only [bne_eq_false_iff_eq]; omega
  generalize ((l : Int) != (c : Int)) = b0 at *
  have HB0 : Hid _ := hbl
  clear hbl hkc
  go_wp2
  go_loopw [10, 31] (fun s t wr => ∃ j : Nat, ∃ bb : Bool, j ≤ l ∧ t = .int .i64 j ∧ s = .bool bb ∧ wr = w ∧ Hid (bb = false ↔ l = c ∧ ∀ i xs, i < j → L[i]? = some xs → xs.length = H)) (fun _ t _ => l - (intOf t).toNat)
  case atStart => exact ⟨0, b0, by omega, rfl, rfl, rfl, (⟨fun h => ⟨HB0.out.1 h, fun i xs h => absurd h (by omega)⟩, fun h => HB0.out.2 h.1⟩ : b0 = false ↔ _)⟩
  case round =>
    obtain ⟨j, bb, hj, rfl, rfl, rfl, HI⟩ := hrel
    by_cases hlt : j < l
    · obtain ⟨b, off, rfl, hb, hcl⟩ := rows8_at HR.out (show j < L.length by rw [← HL.out]; exact hlt)
      obtain ⟨xs, hxs⟩ : ∃ xs, L[j]? = some xs := ⟨_, List.getElem?_eq_getElem (by rw [← HL.out]; exact hlt)⟩
      obtain ⟨a', cap', c1, _⟩ := hcl j xs hxs
      have HX : Hid _ := hxs
      clear hcl hxs
      cases bb with
      | true =>
        have HN : Hid ((true : Bool) = false ↔ l = c ∧ ∀ i xs, i < j + 1 → L[i]? = some xs → xs.length = H) := by
          refine ⟨fun h => (by cases h), fun h => HI.out.2 ⟨h.1, fun i ys hi hy => h.2 i ys (by omega) hy⟩⟩
        go_wp2
        exact ⟨⟨j + 1, true, by omega, by go_num, rfl, trivial, HN.out⟩, by simp [intOf]; omega⟩
      | false =>
        obtain ⟨bx, hbx⟩ : ∃ bx : Bool, ((xs.length : Int) != (H : Int)) = bx := ⟨_, rfl⟩
        have hbx2 : bx = false ↔ xs.length = H := by rw [← hbx]; simp only [bne_eq_false_iff_eq]; omega
        have HN : Hid (bx = false ↔ l = c ∧ ∀ i xs, i < j + 1 → L[i]? = some xs → xs.length = H) := by
          have h0 := HI.out.1 rfl
          refine ⟨fun h => ⟨h0.1, fun i ys hi hy => ?_⟩, fun h => hbx2.2 (h.2 j xs (by omega) HX.out)⟩
          by_cases e : i = j
          · subst e
            obtain rfl := Option.some.inj (HX.out.symm.trans hy)
            exact hbx2.1 h
          · exact h0.2 i ys (by omega) hy
        clear hbx2
        go_wp2
        exact ⟨⟨j + 1, bx, by omega, by go_num, rfl, trivial, HN.out⟩, by simp [intOf]; omega⟩
    · obtain rfl : j = l := by omega
      cases bb with
      | true =>
        have HNO : Hid (¬ FitP c H L) := fun hf => by
          have := HI.out.2 ⟨by rw [HL.out]; exact hf.1, fun i ys _ hy => hf.2 ys (List.mem_of_getElem? hy)⟩
          cases this
        go_wp2
        go_ret2
        exact .inl ⟨HNO.out, rfl, Below.refl _ _⟩
      | false =>
        have HOK : Hid (FitP c H L) := ⟨by rw [← HL.out]; exact (HI.out.1 rfl).1, fun ys hy => by
          obtain ⟨i, hi, e⟩ := List.getElem_of_mem hy
          exact (HI.out.1 rfl).2 i ys (by rw [HL.out]; exact hi) (by rw [List.getElem?_eq_getElem hi, e])⟩
        have HFL : Hid (L.flatten.length = c * H) := by show _ = _; rw [flat_len HOK.out.2, HOK.out.1]
        have HLC : Hid (j = c) := by show _ = _; rw [HL.out]; exact HOK.out.1
        go_wp2
        have hh0 : Has8 (wr.alloc (.cells #[] 5)) wr.heap.size (L.flatten.take 0) 0 := ⟨#[], heap_alloc_last wr _, rfl, by simp, by simp [maxLen], rfl⟩
        generalize hw9 : wr = w9 at *
        go_loopw [13, 14] (fun s t wr => ∃ i g cp : Nat, i ≤ n ∧ t = .int .i64 i ∧ s = .slice (some ⟨g, 0, none⟩) i cp ∧ w9.heap.size ≤ g ∧ Below w9.heap.size w9 wr ∧ Has8 wr g (L.flatten.take i) cp) (fun _ t _ => n - (intOf t).toNat)
        case atStart => exact ⟨0, w9.heap.size, 0, by omega, rfl, rfl, Nat.le_refl _, (Below.refl _ _).alloc (Nat.le_refl _) _, hh0⟩
        case round =>
          obtain ⟨i, g, cp, hi, rfl, rfl, hg, hbw, hh⟩ := hrel
          have HBW : Hid _ := hbw
          have HH : Hid _ := hh
          clear hh0
          by_cases hlti : i < n
          · obtain ⟨q, hq⟩ : ∃ q, q = i / H := ⟨_, rfl⟩
            obtain ⟨r, hr⟩ : ∃ r, r = i % H := ⟨_, rfl⟩
            have hir : i = q * H + r := by rw [hq, hr, Nat.mul_comm]; exact (Nat.div_add_mod i H).symm
            have hrH : r < H := by rw [hr]; exact Nat.mod_lt _ (by omega)
            have hiF : i < L.flatten.length := by rw [HFL.out]; have := HK3.out; omega
            have hqc : q < c := by
              apply Decidable.byContradiction
              intro h
              have := Nat.mul_le_mul_right H (show c ≤ q by omega)
              have h6 := HFL.out
              omega
            obtain ⟨b, off, rfl, hb, hcl⟩ := rows8_at HR.out (show q < L.length by rw [HOK.out.1]; exact hqc)
            obtain ⟨xs, hxs⟩ : ∃ xs, L[q]? = some xs := ⟨_, List.getElem?_eq_getElem (by rw [HOK.out.1]; exact hqc)⟩
            obtain ⟨a', cap', c1, c2⟩ := hcl q xs hxs
            have hxl : xs.length = H := HOK.out.2 xs (List.mem_of_getElem? hxs)
            obtain ⟨b', off', rfl, hb', hc2⟩ := row8_cell c2 (show r < xs.length by rw [hxl]; exact hrH)
            have e1 : at8 L.flatten i = at8 xs r := by
              rw [hir, flat_at HOK.out.2 (by rw [HOK.out.1]; exact hqc) hrH, List.getD_eq_getElem?_getD, hxs]; rfl
            have C1 : ∀ u, Below w9.heap.size w9 u → u.cell? ⟨b, off + q, none⟩ = some (.slice (some ⟨b', off', none⟩) H cap') := fun u hu => by rw [← hxl]; exact cell_later hu c1
            have C2 : ∀ u, Below w9.heap.size w9 u → u.cell? ⟨b', off' + r, none⟩ = some (.int .u8 ((at8 L.flatten i).toNat : Int)) := fun u hu => by rw [e1]; exact cell_later hu (hc2 r (by rw [hxl]; exact hrH))
            have dq : (i : Int) / (H : Int) = (q : Int) := by rw [hq]; simp
            have dr : (i : Int) % (H : Int) = (r : Int) := by rw [hr]; simp
            have hql : (q : Int) < j := by have := HLC.out; omega
            have hrl : (r : Int) < H := by omega
            have hq0 : (0 : Int) ≤ q := by omega
            have hr0 : (0 : Int) ≤ r := by omega
            have hH0 : ¬ H = 0 := by omega
            have tq : IntKind.i64.wrap (q : Int) = (q : Int) := by rw [IntKind.wrap_i64]; omega
            have dr2 : (i : Int).tmod (H : Int) = (r : Int) := by rw [hr]; exact (Int.ofNat_tmod i H).symm
            have hB0 : Below w9.heap.size w9 wr.drew := hbw.drew
            have hh2 : Has8 (wr.drew.alloc (.cells #[.int .u8 ((at8 L.flatten i).toNat : Int)] 5)) g (L.flatten.take i) cp := has8_below hh (((Below.refl wr.heap.size wr).drew).alloc (Nat.le_refl _) _)
            obtain ⟨g2, cp2, w2, hrun, hh3, hgr, hor⟩ := append8 (ad := ⟨wr.drew.heap.size, 0, none⟩) (m := 1) (c := 1) (ys := [at8 L.flatten i]) 22 hh2 (by rw [List.length_take, Nat.min_eq_left (by omega)]) rfl (by omega) (fun z hz => by
              obtain rfl : z = 0 := by simpa using hz
              exact cellAt (heap_alloc_last wr.drew (.cells #[.int .u8 ((at8 L.flatten i).toNat : Int)] 5)) 0 _ rfl)
            rw [take_snoc8 hiF] at hh3
            have hB1 : Below w9.heap.size w9 (wr.drew.alloc (.cells #[.int .u8 ((at8 L.flatten i).toNat : Int)] 5)) := hB0.alloc hB0.size _
            have hB2 : Below w9.heap.size w9 w2 := grownBy_below hB1 hgr hg hB1.size
            have hg2 : w9.heap.size ≤ g2 := by
              have := hB1.size
              rcases hor with e | e <;> rw [e] <;> omega
            have HRun : Hid _ := hrun
            have HH3 : Hid _ := hh3
            have HB2 : Hid _ := hB2
            clear hq hr hir hcl hxs c1 c2 hxl hc2 e1 hbw hh hh2 hrun hh3 hgr hor hB2
            go_upto_region 16 with fail
            refine wp_region_noPanic ?_
            refine wp_region_held_drew (S := fun u => Below w9.heap.size w9 u) (by kernel_rfl) ?_ (fun hHeld => ?_)
            · exact hB0
            refine wpAnyH_take (i := 0) (oi := { dst := some 50, op := Op.move (Operand.tmp 13), type := 22, pos := "ref.go:74", after := #[], guard := none }) (v := ?_) rfl (by kernel_rfl) (by kernel_rfl) (by kernel_rfl) (fun _ _ _ h => h) (Or.inl ⟨by rfl, ?_⟩) hHeld ?_
            rotate_left
            · intro u hSw
              go_simp
              try with_reducible rfl
            try simp only [Act.put, List.setIfInBounds_toArray, List.set_cons_zero, List.set_cons_succ]
            refine wpAnyH_take (i := 1) (oi := { dst := some 51, op := Op.move (Operand.tmp 2), type := 25, pos := "ref.go:74", after := #[], guard := none }) (v := ?_) rfl (by kernel_rfl) (by kernel_rfl) (by kernel_rfl) (fun _ _ _ h => h) (Or.inl ⟨by rfl, ?_⟩) hHeld ?_
            rotate_left
            · intro u hSw
              go_simp
              try with_reducible rfl
            try simp only [Act.put, List.setIfInBounds_toArray, List.set_cons_zero, List.set_cons_succ]
            refine wpAnyH_take (i := 2) (oi := { dst := some 52, op := Op.move (Operand.tmp 14), type := 3, pos := "ref.go:74", after := #[], guard := none }) (v := ?_) rfl (by kernel_rfl) (by kernel_rfl) (by kernel_rfl) (fun _ _ _ h => h) (Or.inl ⟨by rfl, ?_⟩) hHeld ?_
            rotate_left
            · intro u hSw
              go_simp
              try with_reducible rfl
            try simp only [Act.put, List.setIfInBounds_toArray, List.set_cons_zero, List.set_cons_succ]
            refine wpAnyH_take (i := 3) (oi := { dst := some 53, op := Op.move (Operand.tmp 8), type := 3, pos := "ref.go:74", after := #[], guard := none }) (v := ?_) rfl (by kernel_rfl) (by kernel_rfl) (by kernel_rfl) (fun _ _ _ h => h) (Or.inl ⟨by rfl, ?_⟩) hHeld ?_
            rotate_left
            · intro u hSw
              go_simp
              try with_reducible rfl
            try simp only [Act.put, List.setIfInBounds_toArray, List.set_cons_zero, List.set_cons_succ]
            refine wpAnyH_take (i := 4) (oi := { dst := some 54, op := Op.binOp BinOp.quo 3 (Operand.tmp 52) (Operand.tmp 53) 3, type := 3, pos := "ref.go:74", after := #[{ on := 2, ground := Ground.data }, { on := 3, ground := Ground.data }], guard := none }) (v := ?_) rfl (by kernel_rfl) (by kernel_rfl) (by kernel_rfl) (fun _ _ _ h => h) (Or.inl ⟨by rfl, ?_⟩) hHeld ?_
            rotate_left
            · intro u hSw
              go_simp
              try with_reducible rfl
            try simp only [Act.put, List.setIfInBounds_toArray, List.set_cons_zero, List.set_cons_succ]
            refine wpAnyH_take (i := 5) (oi := { dst := some 55, op := Op.indexAddr 25 (Operand.tmp 51) (Operand.tmp 54), type := 0, pos := "ref.go:74", after := #[{ on := 1, ground := Ground.data }, { on := 4, ground := Ground.data }], guard := none }) (v := ?_) rfl (by kernel_rfl) (by kernel_rfl) (by kernel_rfl) (fun _ _ _ h => h) (Or.inl ⟨by rfl, ?_⟩) hHeld ?_
            rotate_left
            · intro u hSw
              go_simp
              try with_reducible rfl
            try simp only [Act.put, List.setIfInBounds_toArray, List.set_cons_zero, List.set_cons_succ]
            refine wpAnyH_take (i := 6) (oi := { dst := some 56, op := Op.load 22 (Operand.tmp 55), type := 22, pos := "ref.go:74", after := #[{ on := 5, ground := Ground.data }], guard := none }) (v := ?_) rfl (by kernel_rfl) (by kernel_rfl) (by kernel_rfl) (fun _ _ _ h => h) (Or.inl ⟨by rfl, ?_⟩) hHeld ?_
            rotate_left
            · intro u hSw
              have q0 := C1 u hSw
              go_simp
              try with_reducible rfl
            try simp only [Act.put, List.setIfInBounds_toArray, List.set_cons_zero, List.set_cons_succ]
            refine wpAnyH_take (i := 7) (oi := { dst := some 57, op := Op.move (Operand.tmp 14), type := 3, pos := "ref.go:74", after := #[], guard := none }) (v := ?_) rfl (by kernel_rfl) (by kernel_rfl) (by kernel_rfl) (fun _ _ _ h => h) (Or.inl ⟨by rfl, ?_⟩) hHeld ?_
            rotate_left
            · intro u hSw
              go_simp
              try with_reducible rfl
            try simp only [Act.put, List.setIfInBounds_toArray, List.set_cons_zero, List.set_cons_succ]
            refine wpAnyH_take (i := 8) (oi := { dst := some 58, op := Op.move (Operand.tmp 8), type := 3, pos := "ref.go:74", after := #[], guard := none }) (v := ?_) rfl (by kernel_rfl) (by kernel_rfl) (by kernel_rfl) (fun _ _ _ h => h) (Or.inl ⟨by rfl, ?_⟩) hHeld ?_
            rotate_left
            · intro u hSw
              go_simp
              try with_reducible rfl
            try simp only [Act.put, List.setIfInBounds_toArray, List.set_cons_zero, List.set_cons_succ]
            refine wpAnyH_take (i := 9) (oi := { dst := some 59, op := Op.binOp BinOp.rem 3 (Operand.tmp 57) (Operand.tmp 58) 3, type := 3, pos := "ref.go:74", after := #[{ on := 7, ground := Ground.data }, { on := 8, ground := Ground.data }], guard := none }) (v := ?_) rfl (by kernel_rfl) (by kernel_rfl) (by kernel_rfl) (fun _ _ _ h => h) (Or.inl ⟨by rfl, ?_⟩) hHeld ?_
            rotate_left
            · intro u hSw
              go_simp
              try with_reducible rfl
            try simp only [Act.put, List.setIfInBounds_toArray, List.set_cons_zero, List.set_cons_succ]
            refine wpAnyH_take (i := 10) (oi := { dst := some 60, op := Op.indexAddr 22 (Operand.tmp 56) (Operand.tmp 59), type := 0, pos := "ref.go:74", after := #[{ on := 6, ground := Ground.data }, { on := 9, ground := Ground.data }], guard := none }) (v := ?_) rfl (by kernel_rfl) (by kernel_rfl) (by kernel_rfl) (fun _ _ _ h => h) (Or.inl ⟨by rfl, ?_⟩) hHeld ?_
            rotate_left
            · intro u hSw
              go_simp
              try with_reducible rfl
            try simp only [Act.put, List.setIfInBounds_toArray, List.set_cons_zero, List.set_cons_succ]
            refine wpAnyH_take (i := 11) (oi := { dst := some 61, op := Op.load 5 (Operand.tmp 60), type := 5, pos := "ref.go:74", after := #[{ on := 10, ground := Ground.data }], guard := none }) (v := ?_) rfl (by kernel_rfl) (by kernel_rfl) (by kernel_rfl) (fun _ _ _ h => h) (Or.inl ⟨by rfl, ?_⟩) hHeld ?_
            rotate_left
            · intro u hSw
              have q0 := C2 u hSw
              go_simp
              try with_reducible rfl
            try simp only [Act.put, List.setIfInBounds_toArray, List.set_cons_zero, List.set_cons_succ]
            refine wpAnyH_ready (rs := [12]) (by kernel_rfl) (by simp) ?_
            refine AllReadyH.cons (o := { dst := some 62, op := Op.buildSlice 22 1 #[(0, Operand.tmp 61)], type := 22, pos := "ref.go:74", after := #[{ on := 11, ground := Ground.data }], guard := none }) rfl (fun K hK => ?_) AllReadyH.nil
            go_simp
            go_wp2_with fail
            refine hK.out _ _ ?_ (fun hHeld => ?_)
            · exact hB1
            clear hK K
            try simp only [Act.put, List.setIfInBounds_toArray, List.set_cons_zero, List.set_cons_succ]
            refine wpAnyH_ready (rs := [13]) (by kernel_rfl) (by simp) ?_
            refine AllReadyH.cons (o := { dst := some 63, op := Op.call { callee := Callee.builtin Builtin.append, args := #[Operand.tmp 50, Operand.tmp 62], argTypes := #[22, 22] }, type := 22, pos := "ref.go:74", after := #[{ on := 0, ground := Ground.data }, { on := 12, ground := Ground.data }], guard := none }) rfl (fun K hK => ?_) AllReadyH.nil
            refine wantedA_run rfl _ _ 22 rfl _ _ _ _ rfl rfl HRun.out ?_
            refine hK.out _ _ ?_ (fun hHeld => ?_)
            · exact HB2.out
            clear hK K
            try simp only [Act.put, List.setIfInBounds_toArray, List.set_cons_zero, List.set_cons_succ]
            refine wpAnyH_take (i := 14) (oi := { dst := some 13, op := Op.assign (Operand.tmp 63), type := 22, pos := "ref.go:74", after := #[{ on := 13, ground := Ground.data }, { on := 13, ground := Ground.chain }, { on := 0, ground := Ground.phase }, { on := 1, ground := Ground.phase }, { on := 2, ground := Ground.phase }, { on := 3, ground := Ground.phase }, { on := 4, ground := Ground.phase }, { on := 5, ground := Ground.phase }, { on := 6, ground := Ground.phase }, { on := 7, ground := Ground.phase }, { on := 8, ground := Ground.phase }, { on := 9, ground := Ground.phase }, { on := 10, ground := Ground.phase }, { on := 11, ground := Ground.phase }, { on := 12, ground := Ground.phase }, { on := 13, ground := Ground.phase }], guard := none }) (v := ?_) rfl (by kernel_rfl) (by kernel_rfl) (by kernel_rfl) (fun _ _ _ h => h) (Or.inl ⟨by rfl, ?_⟩) hHeld ?_
            rotate_left
            · intro u hSw
              go_simp
              try with_reducible rfl
            try simp only [Act.put, List.setIfInBounds_toArray, List.set_cons_zero, List.set_cons_succ]
            refine wpAnyH_done (by kernel_rfl) ?_ _
            refine NoPanic.normal ?_
            clear C1 C2 dq dr dr2 tq hql hrl hq0 hr0 hH0 hB0 hB1
            go_wp2
            exact ⟨⟨i + 1, g2, cp2, by omega, by go_num, rfl, hg2, HB2.out, HH3.out⟩, by simp [intOf]; omega⟩
          · obtain rfl : i = n := by omega
            clear hbw hh
            go_wp2
            go_ret2
            exact .inr ⟨HOK.out, g, cp, rfl, by rw [HFL.out]; exact HK3.out, HH.out, by rw [hw9]; exact hg, by rw [hw9]; exact HBW.out⟩
end Go.Proofs.YtmlpijlcpeoeaaaDoor

/- What the document's own Decode answers, of shards whose numbers are in range and apart. -/
namespace Go.Proofs.YtmlpijlcpeoeaaaDoor
open Go.RowKit Gf
set_option linter.unusedVariables false
set_option maxRecDepth 20000
set_option maxHeartbeats 16000000 in
theorem rdecode_good (k r n ln cn : Nat) (a : Option Addr) (nums : List Nat) (S : List (Int × List F × List F)) (w : World) (h1 : 1 ≤ k) (h2 : 2 ≤ r) (h3 : k + r ≤ 16) (h4 : 1 ≤ n) (h5 : n ≤ 128 * k)
    (hln : ln = k) (hl : ln = S.length) (hnl : nums.length = S.length) (hnS : ∀ j s, S[j]? = some s → s.1 = ((nums.getD j 0 : Nat) : Int)) (hin : ∀ x ∈ nums, x < k + r) (hnd : nums.Nodup) (hS : Sh8 w a S) :
    Calls Tryd.prog 20 #[.int .i64 k, .int .i64 r, .int .i64 n, .slice a ln cn] w fun e w' =>
      (¬ (∀ xs ∈ rowsS S, xs.length = cntN (2 * k) n) ∧ e = .returned (.tuple #[.slice none 0 0, .int .i64 5]) ∧ Below w.heap.size w w') ∨
      ((∀ xs ∈ rowsS S, xs.length = cntN (2 * k) n) ∧ ∃ D : Nat → Nat → F, (∀ i, i < 2 * k → ∀ b, b < cntN (2 * k) n → bytesD (rowsS S) i b = sumF (fun u => gm (numM k (carN (groupN k r)) (bothH nums) i u) (D u b)) (2 * k)) ∧
        ∃ g cap, e = .returned (.tuple #[.slice (some ⟨g, 0, none⟩) n cap, .int .i64 0]) ∧ Has8 w' g ((((List.range (2 * k)).map fun v => rowF (cntN (2 * k) n) (D v)).flatten).take n) cap ∧ w.heap.size ≤ g ∧ Below w.heap.size w w') := by
  have HF : Hid _ := fun w => rhalf_F k n w
  rw [halfV_ok h1 (by omega) h4 h5, halfE_ok h1 (by omega) h4 h5] at HF
  obtain ⟨k1, k2, k3, k4⟩ := cnt_half h1 (show k ≤ 14 by omega) h4 h5
  obtain ⟨H, hH⟩ : ∃ H, H = cntN (2 * k) n := ⟨_, rfl⟩
  rw [← hH] at HF k2 k1 ⊢
  have HH : Hid _ := hH
  have HL : Hid (ln = S.length) := hl
  have HNL : Hid (nums.length = S.length) := hnl
  have HNS : Hid (∀ j s, S[j]? = some s → s.1 = ((nums.getD j 0 : Nat) : Int)) := hnS
  have HIN : Hid (∀ x ∈ nums, x < k + r) := hin
  have HND : Hid nums.Nodup := hnd
  have HS : Hid (Sh8 w a S) := hS
  subst hln
  clear hH hl hnl hnS hin hnd hS k3 k4
  go_enter Tryd.func20, Tryd.ntmps20
  go_wp2_with fail
  refine Calls.mono (legal_yes ln r _ h1 h2 h3) ?_
  rintro e w1 ⟨rfl, rfl⟩
  go_wp2_with fail
  refine Calls.mono (HF.out _) ?_
  rintro e w1 ⟨rfl, rfl⟩
  go_wp2
  have hA := holds_new (holds_new (holds_nil w) #[] 3) #[] 22
  rw [World.size_alloc] at hA
  have B4 : Hid (Below w.heap.size w ((w.alloc (.cells #[] 3)).alloc (.cells #[] 22))) := ((Below.refl _ _).alloc (Nat.le_refl _) _).alloc (by simp) _
  have z0 : w.heap.size + 2 ≤ ((w.alloc (.cells #[] 3)).alloc (.cells #[] 22)).heap.size := by simp
  have ho1 : ((w.alloc (.cells #[] 3)).alloc (.cells #[] 22)).ownsRow w.heap.size 3 1 (.slice (some ⟨w.heap.size, 0, none⟩) 0 0) 0 [] := ⟨rfl, .inr ⟨w.heap.size, 0, #[], rfl, Nat.le_refl _, holds_at hA 1 rfl, by simp, by simp [maxLen], rfl, rfl⟩⟩
  have ho2 : ((w.alloc (.cells #[] 3)).alloc (.cells #[] 22)).ownsRow w.heap.size 22 1 (.slice (some ⟨w.heap.size + 1, 0, none⟩) 0 0) 0 [] := ⟨rfl, .inr ⟨w.heap.size + 1, 0, #[], rfl, by omega, holds_at hA 0 rfl, by simp, by simp [maxLen], rfl, rfl⟩⟩
  clear hA
  try rw [World.size_alloc]
  generalize ((w.alloc (.cells #[] 3)).alloc (.cells #[] 22)) = W at *
  go_loopw [12, 13, 42] (fun p q i wr => ∃ j : Nat, ∃ vs : List Value, j ≤ ln ∧ i = .int .i64 j ∧ Below w.heap.size w wr ∧ wr.ownsRow w.heap.size 3 1 p (2 * j) ((castL (bothH (nums.take j))).map (Value.int .i64)) ∧ wr.ownsRow w.heap.size 22 1 q (2 * j) vs ∧
    ∀ (i : Nat) (zs : List F), (rowsS (S.take j))[i]? = some zs → ∃ v, vs[i]? = some v ∧ ∃ a' c', v = .slice a' zs.length c' ∧ Row8 w a' zs) (fun _ _ i _ => ln - (intOf i).toNat)
  case atStart => exact ⟨0, [], by omega, rfl, B4.out, by simpa [bothH, castL] using ho1, by simpa using ho2, fun i zs h => by simp [rowsS] at h⟩
  case round =>
    obtain ⟨j, vs, hj, rfl, hbw, hp, hq, hvs⟩ := hrel
    have HBW : Hid (Below w.heap.size w wr) := hbw
    have HP : Hid (wr.ownsRow w.heap.size 3 1 u12 (2 * j) ((castL (bothH (nums.take j))).map (Value.int .i64))) := hp
    have HQ : Hid (wr.ownsRow w.heap.size 22 1 u13 (2 * j) vs) := hq
    have HVS : Hid (∀ (i : Nat) (zs : List F), (rowsS (S.take j))[i]? = some zs → ∃ v, vs[i]? = some v ∧ ∃ a' c', v = .slice a' zs.length c' ∧ Row8 w a' zs) := hvs
    clear hbw hp hq hvs ho1 ho2
    by_cases hlt : j < ln
    · have hjS : j < S.length := by rw [← HL.out]; exact hlt
      obtain ⟨⟨m, xs, ys⟩, hs⟩ : ∃ s, S[j]? = some s := ⟨_, List.getElem?_eq_getElem hjS⟩
      have HSJ : Hid (rowsS (S.take (j + 1)) = rowsS (S.take j) ++ [xs, ys]) := rowsS_snoc hs
      rcases HS.out with e0 | ⟨bS, oS, eS, hcS⟩
      · rw [e0] at hjS; simp at hjS
      subst eS
      obtain ⟨a1, l1, a2, l2, e1, e2, e3, r1, r2⟩ := hcS j m xs ys hs
      have c1 := cell_later HBW.out e1
      have c2 := cell_later HBW.out e2
      have c3 := cell_later HBW.out e3
      obtain ⟨x, hx⟩ : ∃ x, x = nums.getD j 0 := ⟨_, rfl⟩
      have hmx : m = (x : Int) := by rw [hx]; exact HNS.out j _ hs
      have hgx : nums[j]? = some x := by rw [hx, List.getD_eq_getElem?_getD, List.getElem?_eq_getElem (by rw [HNL.out]; exact hjS)]; rfl
      have hxr : x < ln + r := HIN.out x (List.mem_of_getElem? hgx)
      have HGX : Hid (nums[j]? = some x) := hgx
      have R1 : Hid (Row8 w a1 xs) := r1
      have R2 : Hid (Row8 w a2 ys) := r2
      subst hmx
      have hx0 : ¬ ((x : Int) < 0) := by omega
      have hx1 : ¬ ((ln : Int) + (r : Int) ≤ (x : Int)) := by omega
      clear hs hcS e1 e2 e3 r1 r2 hx hgx
      go_wp2
      have c4 : Hid ((wr.alloc (.cells #[.int .i64 x, .slice a1 xs.length l1, .slice a2 ys.length l2] 38)).heap[wr.heap.size]? = some (.cells #[.int .i64 x, .slice a1 xs.length l1, .slice a2 ys.length l2] 38 (0, 0))) := heap_alloc_last _ _
      have B7 : Hid (Below w.heap.size w (wr.alloc (.cells #[.int .i64 x, .slice a1 xs.length l1, .slice a2 ys.length l2] 38))) := HBW.out.alloc HBW.out.size _
      have P7 : Hid ((wr.alloc (.cells #[.int .i64 x, .slice a1 xs.length l1, .slice a2 ys.length l2] 38)).ownsRow w.heap.size 3 1 u12 (2 * j) ((castL (bothH (nums.take j))).map (Value.int .i64))) := World.ownsRow.alloc HP.out _
      have Q7 : Hid ((wr.alloc (.cells #[.int .i64 x, .slice a1 xs.length l1, .slice a2 ys.length l2] 38)).ownsRow w.heap.size 22 1 u13 (2 * j) vs) := World.ownsRow.alloc HQ.out _
      clear HP HQ HBW c1 c2 c3
      generalize (wr.alloc (.cells #[.int .i64 x, .slice a1 xs.length l1, .slice a2 ys.length l2] 38)) = W7 at *
      generalize wr.heap.size = N at *
      generalize wr = w9 at *
      go_loopw [16] (fun t wx => ∃ i : Nat, i ≤ j ∧ t = .int .i64 i ∧ Below W7.heap.size W7 wx) (fun t _ => j - (intOf t).toNat)
      case atStart => exact ⟨0, by omega, rfl, Below.refl _ _⟩
      case round =>
        obtain ⟨i, hi, rfl, hbx⟩ := hrel
        have HBX : Hid (Below W7.heap.size W7 wr) := hbx
        have d1 := cellAt (heap_later c4.out hbx) 0 _ rfl
        by_cases hlti : i < j
        · have hiS : i < S.length := by omega
          obtain ⟨⟨mi, xi, yi⟩, hsi⟩ : ∃ s, S[i]? = some s := ⟨_, List.getElem?_eq_getElem hiS⟩
          rcases HS.out with e0 | ⟨bS', oS', eS, hcS⟩
          · rw [e0] at hjS; simp at hjS
          cases eS
          obtain ⟨_, _, _, _, e1, _⟩ := hcS i mi xi yi hsi
          have hb8 : Below w.heap.size w wr := B7.out.trans (hbx.mono B7.out.size)
          have f1 := cell_later hb8 e1
          obtain ⟨y, hy⟩ : ∃ y, y = nums.getD i 0 := ⟨_, rfl⟩
          have hmy : mi = (y : Int) := by rw [hy]; exact HNS.out i _ hsi
          have hgy : nums[i]? = some y := by rw [hy, List.getD_eq_getElem?_getD, List.getElem?_eq_getElem (by rw [HNL.out]; exact hiS)]; rfl
          have hyx : y ≠ x := fun e => by
            have := (List.getElem?_inj (List.getElem?_eq_some_iff.1 hgy).1 HND.out).1 (show nums[i]? = nums[j]? by rw [hgy, HGX.out, e])
            omega
          subst hmy
          have hne : ((y : Int) == (x : Int)) = false := by simp only [beq_eq_false_iff_ne, ne_eq]; omega
          have kA : ∀ u, Below wr.heap.size wr u → u.cell? ⟨bS, oS + i * 3, none⟩ = some (.int .i64 (y : Int)) := fun u hu => cell_later hu f1
          have kB : ∀ u, Below wr.heap.size wr u → u.cell? ⟨N, 0, none⟩ = some (.int .i64 (x : Int)) := fun u hu => cell_later hu d1
          have hi0 : (0 : Int) ≤ (i : Int) := by omega
          have hi1 : (i : Int) < (ln : Int) := by omega
          have hi2 : i < ln := by omega
          clear hbx hsi hcS e1 hb8 hy hgy hyx f1 d1
          go_upto_region 18 with fail
          have hR2 : Below wr.heap.size wr wr.drew := (Below.refl _ _).drew
          go_region_held3 (fun w' => Below wr.heap.size wr w') (first | assumption | (refine Below.drew ?_; assumption)) (fail)
          clear kA kB hR2
          go_wp2
          exact ⟨⟨i + 1, by omega, by go_num, HBX.out.drew⟩, by simp [intOf]; omega⟩
        · obtain rfl : j = i := by omega
          have hb8 : Below w.heap.size w wr := B7.out.trans (hbx.mono B7.out.size)
          have hP8 := own_below P7.out hbx
          have hQ8 := own_below Q7.out hbx
          have hN8 := heap_later c4.out hbx
          obtain ⟨p0, hp0⟩ : ∃ p0, p0 = 2 * x := ⟨_, rfl⟩
          obtain ⟨p1, hp1⟩ : ∃ p1, p1 = 2 * x + 1 := ⟨_, rfl⟩
          have hbs : bothH (nums.take (j + 1)) = bothH (nums.take j) ++ [p0, p1] := by rw [hp0, hp1]; exact bothH_next HGX.out
          have t1 : (2 : Int) * (x : Int) = (p0 : Int) := by omega
          have t2 : (p0 : Int) + 1 = (p1 : Int) := by omega
          have hp9' : (p1 : Int) ≤ 100 := by omega
          clear hp0 hp1
          have q1 := cellAt hN8 1 _ rfl
          have q2 := cellAt hN8 2 _ rfl
          have HP8 : Hid (wr.ownsRow w.heap.size 3 1 u12 (2 * j) ((castL (bothH (nums.take j))).map (Value.int .i64))) := hP8
          have HQ8 : Hid (wr.ownsRow w.heap.size 22 1 u13 (2 * j) vs) := hQ8
          have HN8 : Hid (wr.heap[N]? = some (.cells #[.int .i64 x, .slice a1 xs.length l1, .slice a2 ys.length l2] 38 (0, 0))) := hN8
          have HB8 : Hid (Below w.heap.size w wr) := hb8
          have hp9 := World.ownsRow.alloc hP8 (.cells #[.int .i64 (p0 : Int), .int .i64 (p1 : Int)] 3)
          obtain ⟨gP, capP, wP, hrunP, hpP, hgrP, horP, hltP⟩ := appendI2 (b := wr.heap.size) (c := 2) (x := (p0 : Int)) (y := (p1 : Int)) 54 hp9 (cellAt (heap_alloc_last wr _) 0 _ rfl) (cellAt (heap_alloc_last wr _) 1 _ rfl) (by omega) (by have := hb8.size; simp; omega)
          rw [← castL_two, ← hbs] at hpP
          have hbP := below_own (B := w.heap.size) (hb8.alloc hb8.size (.cells #[.int .i64 (p0 : Int), .int .i64 (p1 : Int)] 3)) hp9 hgrP (by have := hb8.size; simp; omega)
          have hNP := own_other hp9 hgrP ((Below.heap_alloc _ _ _ (ltHeap hN8)).trans hN8) (by decide)
          have hQP := own_kind7 hp9 hgrP (World.ownsRow.alloc hQ8 (.cells #[.int .i64 (p0 : Int), .int .i64 (p1 : Int)] 3)) (by decide)
          have k1 := cellAt hNP 1 _ rfl
          have k2 := cellAt hNP 2 _ rfl
          have hq9 := World.ownsRow.alloc hQP (.cells #[.slice a1 xs.length l1, .slice a2 ys.length l2] 22)
          obtain ⟨gQ, capQ, wQ, hrunQ, hqQ, hgrQ, horQ, hltQ⟩ := appendS2 (b := wP.heap.size) (c := 2) (x := .slice a1 xs.length l1) (y := .slice a2 ys.length l2) 25 hq9 (cellAt (heap_alloc_last wP _) 0 _ rfl) (cellAt (heap_alloc_last wP _) 1 _ rfl) rfl rfl (by omega) (by have := hbP.size; simp; omega)
          have hbQ := below_own (B := w.heap.size) (hbP.alloc hbP.size (.cells #[.slice a1 xs.length l1, .slice a2 ys.length l2] 22)) hq9 hgrQ (by have := hbP.size; simp; omega)
          have hPQ := own_kind7 hq9 hgrQ (World.ownsRow.alloc hpP (.cells #[.slice a1 xs.length l1, .slice a2 ys.length l2] 22)) (by decide)
          have HRP : Hid _ := hrunP
          have HRQ : Hid _ := hrunQ
          have HBQ : Hid (Below w.heap.size w wQ) := hbQ
          have HPQ : Hid (wQ.ownsRow w.heap.size 3 1 (.slice (some ⟨gP, 0, none⟩) (2 * j + 2) capP) (2 * j + 2) ((castL (bothH (nums.take (j + 1)))).map (Value.int .i64))) := hPQ
          have HQQ : Hid (wQ.ownsRow w.heap.size 22 1 (.slice (some ⟨gQ, 0, none⟩) (2 * j + 2) capQ) (2 * j + 2) (vs ++ [.slice a1 xs.length l1, .slice a2 ys.length l2])) := hqQ
          have hvl : vs.length = (rowsS (S.take j)).length := by
            have h1 := HQ8.out.1
            rw [rowsS_len, List.length_take]; omega
          have HV2 : Hid (∀ (i : Nat) (zs : List F), (rowsS (S.take (j + 1)))[i]? = some zs → ∃ v, (vs ++ [.slice a1 xs.length l1, .slice a2 ys.length l2])[i]? = some v ∧ ∃ a' c', v = .slice a' zs.length c' ∧ Row8 w a' zs) := by
            show ∀ (i : Nat) (zs : List F), _
            rw [HSJ.out]
            exact pairs_snoc (P := fun zs v => ∃ a' c', v = .slice a' zs.length c' ∧ Row8 w a' zs) hvl HVS.out ⟨a1, l1, rfl, R1.out⟩ ⟨a2, l2, rfl, R2.out⟩
          clear hbx hb8 hP8 hQ8 hN8 hp9 hrunP hpP hgrP horP hltP hbP hNP hQP hq9 hrunQ hqQ hgrQ horQ hltQ hbQ hPQ hvl hbs
          go_upto_region 21 with (at_builtin; refine wpList_append_run rfl _ _ 54 rfl _ _ _ _ rfl rfl HRP.out ?_)
          go_wp2_with (at_builtin; refine wpList_append_run rfl _ _ 25 rfl _ _ _ _ rfl rfl HRQ.out ?_)
          exact ⟨⟨j + 1, _, by omega, by go_num, HBQ.out, HPQ.out, HQQ.out, HV2.out⟩, by simp [intOf]; omega⟩
    · obtain rfl : ln = j := by omega
      have hI := HP.out
      rw [List.take_of_length_le (by rw [HNL.out, ← HL.out]; exact Nat.le_refl _), ← nvs_cast] at hI
      obtain ⟨a8, c8, rfl, hI1, hI2, hI3⟩ := ownI_slice hI
      have hR : ∃ a9 c9, u13 = .slice a9 (2 * ln) c9 ∧ Rows8 wr a9 (rowsS S) := by
        have hvs := HVS.out
        rw [List.take_of_length_le (by rw [← HL.out]; exact Nat.le_refl _)] at hvs
        rcases HQ.out.2 with ⟨e, e0⟩ | ⟨g, cap, cur, e, hg⟩
        · omega
        · refine ⟨some ⟨g, 0, none⟩, cap, e, .inr ⟨g, 0, rfl, fun i zs hi => ?_⟩⟩
          obtain ⟨v, hv, a', c', rfl, hr⟩ := hvs i zs hi
          have hil : i < 2 * ln := by
            have := (List.getElem?_eq_some_iff.1 hi).1
            rw [rowsS_len, ← HL.out] at this; exact this
          have hoe := HQ.out
          rw [e] at hoe
          refine ⟨a', c', ?_, row8_below hr HBW.out⟩
          rw [Nat.zero_add, hoe.cellAt i (by rw [Nat.mul_one]; exact hil)]
          exact hv
      obtain ⟨a9, c9, rfl, hR9⟩ := hR
      have HR9 : Hid (Rows8 wr a9 (rowsS S)) := hR9
      have HI1 : Hid (RowI wr a8 (castL (bothH nums))) := hI1
      clear HP HQ HVS hI hI1 hI2 hI3 hR9
      go_wp2
      generalize wr = w9 at *
      go_loopw [91] (fun t wx => ∃ i : Nat, i ≤ 2 * ln ∧ t = .int .i64 i ∧ (∀ (q : Nat) (zs : List F), q < i → (rowsS S)[q]? = some zs → zs.length = H) ∧ Below w9.heap.size w9 wx) (fun t _ => 2 * ln - (intOf t).toNat)
      case atStart => exact ⟨0, by omega, rfl, fun q _ h => by omega, Below.refl _ _⟩
      case round =>
        obtain ⟨i, hi, rfl, hqs, hbx⟩ := hrel
        have HBX : Hid (Below w9.heap.size w9 wr) := hbx
        have HQS : Hid (∀ (q : Nat) (zs : List F), q < i → (rowsS S)[q]? = some zs → zs.length = H) := hqs
        clear hqs
        by_cases hlt : i < 2 * ln
        · obtain ⟨zs, hzs⟩ : ∃ zs, (rowsS S)[i]? = some zs := ⟨_, List.getElem?_eq_getElem (by rw [rowsS_len, ← HL.out]; exact hlt)⟩
          obtain ⟨bR, oR, rfl, hbR, hcR⟩ := rows8_at HR9.out (List.getElem?_eq_some_iff.1 hzs).1
          obtain ⟨a', c', e1, _⟩ := hcR i zs hzs
          have f1 := cell_later hbx e1
          have hi1 : (i : Int) < ((2 * ln : Nat) : Int) := by omega
          have HZS : Hid ((rowsS S)[i]? = some zs) := hzs
          clear hbx hzs hcR e1
          by_cases hz : zs.length = H
          · have hz' : ((zs.length : Int) != (H : Int)) = false := by simp [hz]
            have HZ : Hid (zs.length = H) := hz
            clear hz
            go_wp2
            refine ⟨⟨i + 1, by omega, by go_num, fun q ws hq hws => ?_, HBX.out⟩, by simp [intOf]; omega⟩
            by_cases hqi : q < i
            · exact HQS.out q ws hqi hws
            · obtain rfl : q = i := by omega
              rw [HZS.out] at hws
              obtain rfl := Option.some.inj hws
              exact HZ.out
          · have hz' : ((zs.length : Int) != (H : Int)) = true := by simp only [bne_iff_ne, ne_eq]; omega
            have HZ : Hid (¬ zs.length = H) := hz
            clear hz
            go_wp2
            go_ret2
            exact .inl ⟨fun h => HZ.out (h zs (List.mem_of_getElem? HZS.out)), rfl, HBW.out.trans (HBX.out.mono HBW.out.size)⟩
        · obtain rfl : i = 2 * ln := by omega
          have hall : ∀ xs ∈ rowsS S, xs.length = H := fun xs hx => by
            obtain ⟨q, hq⟩ := List.mem_iff_getElem?.1 hx
            have hql := (List.getElem?_eq_some_iff.1 hq).1
            rw [rowsS_len, ← HL.out] at hql
            exact HQS.out q xs hql hq
          have hnk : nums.length = ln := by rw [HNL.out, ← HL.out]
          have hrk := num_rank (car := carN (groupN ln r)) HND.out hnk HIN.out (show ln + r ≤ 256 by omega)
          obtain ⟨D, hD⟩ := full_table hrk (bytesD (rowsS S))
          have HALL : Hid (∀ xs ∈ rowsS S, xs.length = H) := hall
          have HD : Hid (∀ i, i < 2 * ln → ∀ b, bytesD (rowsS S) i b = sumF (fun u => gm (numM ln (carN (groupN ln r)) (bothH nums) i u) (D u b)) (2 * ln)) := hD
          have HRK : Hid ((pivL (numM ln (carN (groupN ln r)) (bothH nums)) (2 * ln) (2 * ln)).length = 2 * ln) := hrk
          have hnl : ∀ i, i < 2 * ln → (bothH nums).getD i 0 < 2 * (ln + r) := fun i hi => by
            have hm := getD_mem (L := bothH nums) (i := i) (by rw [bothH_len, hnk]; exact hi)
            simp only [bothH, List.mem_flatMap, List.mem_cons, List.not_mem_nil, or_false] at hm
            obtain ⟨x, hx, hx2⟩ := hm
            have := HIN.out x hx
            simp only [bothH]
            omega
          have HNLT : Hid (∀ i, i < 2 * ln → (bothH nums).getD i 0 < 2 * (ln + r)) := hnl
          have HBL : Hid (2 * ln = (bothH nums).length) := by show _ = _; rw [bothH_len, hnk]
          have HRL : Hid (2 * ln = (rowsS S).length) := by show _ = _; rw [rowsS_len, ← HL.out]
          have HRX : Hid (Rows8 wr a9 (rowsS S)) := rows8_below HR9.out hbx
          have HIX : Hid (RowI wr a8 (castL (bothH nums))) := rowI_below HI1.out hbx
          clear hall hnk hrk hD hnl hbx hi hlt
          go_wp2_with fail
          refine Calls.mono (rvars_F ln r H (2 * ln) c8 (2 * ln) c9 a8 a9 (bothH nums) (rowsS S) D _ h1 h2 h3 k2 HBL.out HRL.out rfl (by omega) HNLT.out HALL.out HIX.out HRX.out (fun v hv => full_units HRK.out v hv) (fun i hi b _ => HD.out i hi b)) ?_
          rintro e w8 ⟨b8, cc8, cap8, rfl, hc8, hr8, hb8⟩
          have HR8 : Hid (Rows8 w8 b8 ((List.range (2 * ln)).map fun v => rowF H (D v))) := hr8
          have HB8 : Hid (Below w.heap.size w w8) := by
            have h1 : Below w.heap.size w wr := HBW.out.trans (HBX.out.mono HBW.out.size)
            exact h1.trans (hb8.mono h1.size)
          have HC8 : Hid (cc8 = 2 * ln) := hc8
          clear hr8 hb8 hc8
          go_wp2_with fail
          refine Calls.mono (rjoin_F ln n cc8 cap8 b8 _ _ h1 (by omega) h4 h5 (by simp [HC8.out]) (by have := HC8.out; omega) HR8.out) ?_
          rintro e w7 (⟨hno, _⟩ | ⟨_, g7, cap7, rfl, _, h7, hg7, hb7⟩)
          · refine absurd ⟨by simp, fun ys hy => ?_⟩ hno
            obtain ⟨v, _, rfl⟩ := List.mem_map.1 hy
            rw [← HH.out, rowF_len]
          · have H7 : Hid (Has8 w7 g7 ((((List.range (2 * ln)).map fun v => rowF H (D v)).flatten).take n) cap7) := h7
            have HB7 : Hid (Below w.heap.size w w7) := HB8.out.trans (hb7.mono HB8.out.size)
            have hg7' : w.heap.size ≤ g7 := Nat.le_trans HB8.out.size hg7
            clear h7 hb7 hg7
            go_wp2
            go_ret2
            exact .inr ⟨HALL.out, D, fun i hi b _ => HD.out i hi b, g7, cap7, rfl, H7.out, hg7', HB7.out⟩
end Go.Proofs.YtmlpijlcpeoeaaaDoor

/- What the document's own Decode answers where the numbers, the size or the count don't fit. -/
namespace Go.Proofs.YtmlpijlcpeoeaaaDoor
open Go.RowKit Gf
set_option linter.unusedVariables false
set_option maxRecDepth 20000
theorem rdecode_illegal (k r n : Int) (a : Option Addr) (la ca : Nat) (w : World) (hk0 : -9223372036854775808 ≤ k) (hk1 : k ≤ 9223372036854775807) (hr0 : -9223372036854775808 ≤ r) (hr1 : r ≤ 9223372036854775807) (h : ¬ LegalP k r) :
    Calls Tryd.prog 20 #[.int .i64 k, .int .i64 r, .int .i64 n, .slice a la ca] w fun e w' => e = .returned (.tuple #[.slice none 0 0, .int .i64 1]) ∧ w = w' := by
  have H : Hid _ := h
  clear h
  go_enter Tryd.func20, Tryd.ntmps20
  go_wp2_with fail
  refine Calls.mono (legal_no k r _ hk0 hk1 hr0 hr1 H.out) ?_
  rintro e w1 ⟨rfl, rfl⟩
  go_wp2_with fail
  go_ret2
  exact ⟨rfl, rfl⟩
theorem rdecode_size (k r : Nat) (n : Int) (a : Option Addr) (la ca : Nat) (w : World) (h1 : 1 ≤ k) (h2 : 2 ≤ r) (h3 : k + r ≤ 16) (h : halfE k n ≠ 0) :
    Calls Tryd.prog 20 #[.int .i64 k, .int .i64 r, .int .i64 n, .slice a la ca] w fun e w' => e = .returned (.tuple #[.slice none 0 0, .int .i64 (halfE k n)]) ∧ w = w' := by
  have HF : Hid _ := fun w => rhalf_F k n w
  rw [halfV_no h] at HF
  have h' : ((halfE k n : Int) != 0) = true := by simp only [bne_iff_ne, ne_eq]; omega
  generalize halfE k n = x at *
  clear h
  go_enter Tryd.func20, Tryd.ntmps20
  go_wp2_with fail
  refine Calls.mono (legal_yes k r _ h1 h2 h3) ?_
  rintro e w1 ⟨rfl, rfl⟩
  go_wp2_with fail
  refine Calls.mono (HF.out _) ?_
  rintro e w1 ⟨rfl, rfl⟩
  go_wp2_with fail
  go_ret2
  exact ⟨rfl, rfl⟩
theorem rdecode_count (k r n la ca : Nat) (a : Option Addr) (w : World) (h1 : 1 ≤ k) (h2 : 2 ≤ r) (h3 : k + r ≤ 16) (h4 : 1 ≤ n) (h5 : n ≤ 128 * k) (h : la ≠ k) :
    Calls Tryd.prog 20 #[.int .i64 k, .int .i64 r, .int .i64 n, .slice a la ca] w fun e w' => e = .returned (.tuple #[.slice none 0 0, .int .i64 4]) ∧ w = w' := by
  have HF : Hid _ := fun w => rhalf_F k n w
  rw [halfV_ok h1 (by omega) h4 h5, halfE_ok h1 (by omega) h4 h5] at HF
  generalize cntN (2 * k) n = H at HF
  have h' : ((la : Int) != (k : Int)) = true := by simp only [bne_iff_ne, ne_eq]; omega
  clear h
  go_enter Tryd.func20, Tryd.ntmps20
  go_wp2_with fail
  refine Calls.mono (legal_yes k r _ h1 h2 h3) ?_
  rintro e w1 ⟨rfl, rfl⟩
  go_wp2_with fail
  refine Calls.mono (HF.out _) ?_
  rintro e w1 ⟨rfl, rfl⟩
  go_wp2_with fail
  go_ret2
  exact ⟨rfl, rfl⟩
set_option maxHeartbeats 16000000 in
theorem rdecode_apart (k r n ln cn m : Nat) (a : Option Addr) (S : List (Int × List F × List F)) (w : World) (h1 : 1 ≤ k) (h2 : 2 ≤ r) (h3 : k + r ≤ 16) (h4 : 1 ≤ n) (h5 : n ≤ 128 * k)
    (hln : ln = k) (hl : ln = S.length) (hm : m < ln) (hin : ∀ j s, j < m → S[j]? = some s → 0 ≤ s.1 ∧ s.1 < k + r) (hne : ∀ i j s t, i < j → j < m → S[i]? = some s → S[j]? = some t → s.1 ≠ t.1)
    (hbad : ∀ s, S[m]? = some s → s.1 < 0 ∨ (k : Int) + r ≤ s.1 ∨ (0 ≤ s.1 ∧ s.1 < k + r ∧ ∃ i t, i < m ∧ S[i]? = some t ∧ t.1 = s.1 ∧ ∀ j u, j < i → S[j]? = some u → u.1 ≠ s.1)) (hi64 : ∀ s ∈ S, -9223372036854775808 ≤ s.1 ∧ s.1 ≤ 9223372036854775807) (hS : Sh8 w a S) :
    Calls Tryd.prog 20 #[.int .i64 k, .int .i64 r, .int .i64 n, .slice a ln cn] w fun e w' => e = .returned (.tuple #[.slice none 0 0, .int .i64 4]) ∧ Below w.heap.size w w' := by
  have HF : Hid _ := fun w => rhalf_F k n w
  rw [halfV_ok h1 (by omega) h4 h5, halfE_ok h1 (by omega) h4 h5] at HF
  generalize cntN (2 * k) n = H at HF
  have HL : Hid (ln = S.length) := hl
  have HIN : Hid (∀ j s, j < m → S[j]? = some s → 0 ≤ s.1 ∧ s.1 < k + r) := hin
  have HNE : Hid (∀ i j s t, i < j → j < m → S[i]? = some s → S[j]? = some t → s.1 ≠ t.1) := hne
  have HBAD : Hid (∀ s, S[m]? = some s → s.1 < 0 ∨ (k : Int) + r ≤ s.1 ∨ (0 ≤ s.1 ∧ s.1 < k + r ∧ ∃ i t, i < m ∧ S[i]? = some t ∧ t.1 = s.1 ∧ ∀ j u, j < i → S[j]? = some u → u.1 ≠ s.1)) := hbad
  have HI64 : Hid (∀ s ∈ S, -9223372036854775808 ≤ s.1 ∧ s.1 ≤ 9223372036854775807) := hi64
  have HS : Hid (Sh8 w a S) := hS
  subst hln
  clear hl hin hne hbad hS hi64
  go_enter Tryd.func20, Tryd.ntmps20
  go_wp2_with fail
  refine Calls.mono (legal_yes ln r _ h1 h2 h3) ?_
  rintro e w1 ⟨rfl, rfl⟩
  go_wp2_with fail
  refine Calls.mono (HF.out _) ?_
  rintro e w1 ⟨rfl, rfl⟩
  go_wp2
  have hA := holds_new (holds_new (holds_nil w) #[] 3) #[] 22
  rw [World.size_alloc] at hA
  have B4 : Hid (Below w.heap.size w ((w.alloc (.cells #[] 3)).alloc (.cells #[] 22))) := ((Below.refl _ _).alloc (Nat.le_refl _) _).alloc (by simp) _
  have z0 : w.heap.size + 2 ≤ ((w.alloc (.cells #[] 3)).alloc (.cells #[] 22)).heap.size := by simp
  have ho1 : ((w.alloc (.cells #[] 3)).alloc (.cells #[] 22)).ownsRow w.heap.size 3 1 (.slice (some ⟨w.heap.size, 0, none⟩) 0 0) 0 [] := ⟨rfl, .inr ⟨w.heap.size, 0, #[], rfl, Nat.le_refl _, holds_at hA 1 rfl, by simp, by simp [maxLen], rfl, rfl⟩⟩
  have ho2 : ((w.alloc (.cells #[] 3)).alloc (.cells #[] 22)).ownsRow w.heap.size 22 1 (.slice (some ⟨w.heap.size + 1, 0, none⟩) 0 0) 0 [] := ⟨rfl, .inr ⟨w.heap.size + 1, 0, #[], rfl, by omega, holds_at hA 0 rfl, by simp, by simp [maxLen], rfl, rfl⟩⟩
  clear hA
  try rw [World.size_alloc]
  generalize ((w.alloc (.cells #[] 3)).alloc (.cells #[] 22)) = W at *
  go_loopw [12, 13, 42] (fun p q i wr => ∃ j : Nat, ∃ us vs : List Value, j ≤ m ∧ i = .int .i64 j ∧ Below w.heap.size w wr ∧ wr.ownsRow w.heap.size 3 1 p (2 * j) us ∧ wr.ownsRow w.heap.size 22 1 q (2 * j) vs) (fun _ _ i _ => ln - (intOf i).toNat)
  case atStart => exact ⟨0, [], [], by omega, rfl, B4.out, ho1, ho2⟩
  case round =>
    obtain ⟨j, us, vs, hj, rfl, hbw, hp, hq⟩ := hrel
    have HBW : Hid (Below w.heap.size w wr) := hbw
    have HP : Hid (wr.ownsRow w.heap.size 3 1 u12 (2 * j) us) := hp
    have HQ : Hid (wr.ownsRow w.heap.size 22 1 u13 (2 * j) vs) := hq
    clear hbw hp hq ho1 ho2
    have hltn : j < ln := by omega
    by_cases hlt : j < m
    · have hjS : j < S.length := by rw [← HL.out]; exact hltn
      obtain ⟨⟨mj, xs, ys⟩, hs⟩ : ∃ s, S[j]? = some s := ⟨_, List.getElem?_eq_getElem hjS⟩
      have HSJ : Hid (S[j]? = some (mj, xs, ys)) := hs
      rcases HS.out with e0 | ⟨bS, oS, eS, hcS⟩
      · rw [e0] at hjS; simp at hjS
      subst eS
      obtain ⟨a1, l1, a2, l2, e1, e2, e3, r1, r2⟩ := hcS j mj xs ys hs
      have c1 := cell_later HBW.out e1
      have c2 := cell_later HBW.out e2
      have c3 := cell_later HBW.out e3
      obtain ⟨hr0, hr1⟩ := HIN.out j _ hlt hs
      obtain ⟨x, hmx⟩ : ∃ x : Nat, mj = (x : Int) := ⟨mj.toNat, by omega⟩
      have hxr : x < ln + r := by omega
      have R1 : Hid (Row8 w a1 xs) := r1
      have R2 : Hid (Row8 w a2 ys) := r2
      subst hmx
      have hx0 : ¬ ((x : Int) < 0) := by omega
      have hx1 : ¬ ((ln : Int) + (r : Int) ≤ (x : Int)) := by omega
      clear hs hcS e1 e2 e3 r1 r2 hr0 hr1
      go_wp2
      have c4 : Hid ((wr.alloc (.cells #[.int .i64 x, .slice a1 xs.length l1, .slice a2 ys.length l2] 38)).heap[wr.heap.size]? = some (.cells #[.int .i64 x, .slice a1 xs.length l1, .slice a2 ys.length l2] 38 (0, 0))) := heap_alloc_last _ _
      have B7 : Hid (Below w.heap.size w (wr.alloc (.cells #[.int .i64 x, .slice a1 xs.length l1, .slice a2 ys.length l2] 38))) := HBW.out.alloc HBW.out.size _
      have P7 : Hid ((wr.alloc (.cells #[.int .i64 x, .slice a1 xs.length l1, .slice a2 ys.length l2] 38)).ownsRow w.heap.size 3 1 u12 (2 * j) us) := World.ownsRow.alloc HP.out _
      have Q7 : Hid ((wr.alloc (.cells #[.int .i64 x, .slice a1 xs.length l1, .slice a2 ys.length l2] 38)).ownsRow w.heap.size 22 1 u13 (2 * j) vs) := World.ownsRow.alloc HQ.out _
      clear HP HQ HBW c1 c2 c3
      generalize (wr.alloc (.cells #[.int .i64 x, .slice a1 xs.length l1, .slice a2 ys.length l2] 38)) = W7 at *
      generalize wr.heap.size = N at *
      generalize wr = w9 at *
      go_loopw [16] (fun t wx => ∃ i : Nat, i ≤ j ∧ t = .int .i64 i ∧ Below W7.heap.size W7 wx) (fun t _ => j - (intOf t).toNat)
      case atStart => exact ⟨0, by omega, rfl, Below.refl _ _⟩
      case round =>
        obtain ⟨i, hi, rfl, hbx⟩ := hrel
        have HBX : Hid (Below W7.heap.size W7 wr) := hbx
        have d1 := cellAt (heap_later c4.out hbx) 0 _ rfl
        by_cases hlti : i < j
        · have hiS : i < S.length := by omega
          obtain ⟨⟨mi, xi, yi⟩, hsi⟩ : ∃ s, S[i]? = some s := ⟨_, List.getElem?_eq_getElem hiS⟩
          rcases HS.out with e0 | ⟨bS', oS', eS, hcS⟩
          · rw [e0] at hjS; simp at hjS
          cases eS
          obtain ⟨_, _, _, _, e1, _⟩ := hcS i mi xi yi hsi
          have hb8 : Below w.heap.size w wr := B7.out.trans (hbx.mono B7.out.size)
          have f1 := cell_later hb8 e1
          obtain ⟨y, hmy⟩ : ∃ y : Nat, mi = (y : Int) := ⟨mi.toNat, by have := (HIN.out i _ (by omega) hsi).1; omega⟩
          have hyx : y ≠ x := fun e => HNE.out i j _ _ hlti hlt hsi HSJ.out (by show mi = (x : Int); omega)
          subst hmy
          have hne : ((y : Int) == (x : Int)) = false := by simp only [beq_eq_false_iff_ne, ne_eq]; omega
          have kA : ∀ u, Below wr.heap.size wr u → u.cell? ⟨bS, oS + i * 3, none⟩ = some (.int .i64 (y : Int)) := fun u hu => cell_later hu f1
          have kB : ∀ u, Below wr.heap.size wr u → u.cell? ⟨N, 0, none⟩ = some (.int .i64 (x : Int)) := fun u hu => cell_later hu d1
          have hi0 : (0 : Int) ≤ (i : Int) := by omega
          have hi1 : (i : Int) < (ln : Int) := by omega
          have hi2 : i < ln := by omega
          clear hbx hsi hcS e1 hb8 hyx f1 d1
          go_upto_region 18 with fail
          have hR2 : Below wr.heap.size wr wr.drew := (Below.refl _ _).drew
          go_region_held3 (fun w' => Below wr.heap.size wr w') (first | assumption | (refine Below.drew ?_; assumption)) (fail)
          clear kA kB hR2
          go_wp2
          exact ⟨⟨i + 1, by omega, by go_num, HBX.out.drew⟩, by simp [intOf]; omega⟩
        · obtain rfl : j = i := by omega
          have hb8 : Below w.heap.size w wr := B7.out.trans (hbx.mono B7.out.size)
          have hP8 := own_below P7.out hbx
          have hQ8 := own_below Q7.out hbx
          have hN8 := heap_later c4.out hbx
          obtain ⟨p0, hp0⟩ : ∃ p0, p0 = 2 * x := ⟨_, rfl⟩
          obtain ⟨p1, hp1⟩ : ∃ p1, p1 = 2 * x + 1 := ⟨_, rfl⟩
          have t1 : (2 : Int) * (x : Int) = (p0 : Int) := by omega
          have t2 : (p0 : Int) + 1 = (p1 : Int) := by omega
          have hp9' : (p1 : Int) ≤ 100 := by omega
          clear hp0 hp1
          have q1 := cellAt hN8 1 _ rfl
          have q2 := cellAt hN8 2 _ rfl
          have HP8 : Hid (wr.ownsRow w.heap.size 3 1 u12 (2 * j) us) := hP8
          have HQ8 : Hid (wr.ownsRow w.heap.size 22 1 u13 (2 * j) vs) := hQ8
          have HN8 : Hid (wr.heap[N]? = some (.cells #[.int .i64 x, .slice a1 xs.length l1, .slice a2 ys.length l2] 38 (0, 0))) := hN8
          have HB8 : Hid (Below w.heap.size w wr) := hb8
          have hp9 := World.ownsRow.alloc hP8 (.cells #[.int .i64 (p0 : Int), .int .i64 (p1 : Int)] 3)
          obtain ⟨gP, capP, wP, hrunP, hpP, hgrP, horP, hltP⟩ := appendI2 (b := wr.heap.size) (c := 2) (x := (p0 : Int)) (y := (p1 : Int)) 54 hp9 (cellAt (heap_alloc_last wr _) 0 _ rfl) (cellAt (heap_alloc_last wr _) 1 _ rfl) (by omega) (by have := hb8.size; simp; omega)
          have hbP := below_own (B := w.heap.size) (hb8.alloc hb8.size (.cells #[.int .i64 (p0 : Int), .int .i64 (p1 : Int)] 3)) hp9 hgrP (by have := hb8.size; simp; omega)
          have hNP := own_other hp9 hgrP ((Below.heap_alloc _ _ _ (ltHeap hN8)).trans hN8) (by decide)
          have hQP := own_kind7 hp9 hgrP (World.ownsRow.alloc hQ8 (.cells #[.int .i64 (p0 : Int), .int .i64 (p1 : Int)] 3)) (by decide)
          have k1 := cellAt hNP 1 _ rfl
          have k2 := cellAt hNP 2 _ rfl
          have hq9 := World.ownsRow.alloc hQP (.cells #[.slice a1 xs.length l1, .slice a2 ys.length l2] 22)
          obtain ⟨gQ, capQ, wQ, hrunQ, hqQ, hgrQ, horQ, hltQ⟩ := appendS2 (b := wP.heap.size) (c := 2) (x := .slice a1 xs.length l1) (y := .slice a2 ys.length l2) 25 hq9 (cellAt (heap_alloc_last wP _) 0 _ rfl) (cellAt (heap_alloc_last wP _) 1 _ rfl) rfl rfl (by omega) (by have := hbP.size; simp; omega)
          have hbQ := below_own (B := w.heap.size) (hbP.alloc hbP.size (.cells #[.slice a1 xs.length l1, .slice a2 ys.length l2] 22)) hq9 hgrQ (by have := hbP.size; simp; omega)
          have hPQ := own_kind7 hq9 hgrQ (World.ownsRow.alloc hpP (.cells #[.slice a1 xs.length l1, .slice a2 ys.length l2] 22)) (by decide)
          have HRP : Hid _ := hrunP
          have HRQ : Hid _ := hrunQ
          have HBQ : Hid (Below w.heap.size w wQ) := hbQ
          have HPQ : Hid (wQ.ownsRow w.heap.size 3 1 (.slice (some ⟨gP, 0, none⟩) (2 * j + 2) capP) (2 * j + 2) (us ++ [.int .i64 (p0 : Int), .int .i64 (p1 : Int)])) := hPQ
          have HQQ : Hid (wQ.ownsRow w.heap.size 22 1 (.slice (some ⟨gQ, 0, none⟩) (2 * j + 2) capQ) (2 * j + 2) (vs ++ [.slice a1 xs.length l1, .slice a2 ys.length l2])) := hqQ
          clear hbx hb8 hP8 hQ8 hN8 hp9 hrunP hpP hgrP horP hltP hbP hNP hQP hq9 hrunQ hqQ hgrQ horQ hltQ hbQ hPQ
          go_upto_region 21 with (at_builtin; refine wpList_append_run rfl _ _ 54 rfl _ _ _ _ rfl rfl HRP.out ?_)
          go_wp2_with (at_builtin; refine wpList_append_run rfl _ _ 25 rfl _ _ _ _ rfl rfl HRQ.out ?_)
          exact ⟨⟨j + 1, _, _, by omega, by go_num, HBQ.out, HPQ.out, HQQ.out⟩, by simp [intOf]; omega⟩
    · obtain rfl : m = j := by omega
      have hjS : m < S.length := by rw [← HL.out]; exact hltn
      obtain ⟨⟨mj, xs, ys⟩, hs⟩ : ∃ s, S[m]? = some s := ⟨_, List.getElem?_eq_getElem hjS⟩
      have hi6 := HI64.out _ (List.mem_of_getElem? hs)
      rcases HS.out with e0 | ⟨bS, oS, eS, hcS⟩
      · rw [e0] at hjS; simp at hjS
      subst eS
      obtain ⟨a1, l1, a2, l2, e1, e2, e3, r1, r2⟩ := hcS m mj xs ys hs
      have c1 := cell_later HBW.out e1
      have c2 := cell_later HBW.out e2
      have c3 := cell_later HBW.out e3
      have hbd := HBAD.out _ hs
      simp only at hi6 hbd
      clear hs hcS e1 e2 e3 r1 r2
      rcases hbd with hx | hx | ⟨hx0, hx1, i0, t, hi0, hti, hte, hmin⟩
      · go_wp2
        go_ret2
        exact ⟨rfl, HBW.out.alloc HBW.out.size _⟩
      · have hx0 : ¬ mj < 0 := by omega
        go_wp2
        go_ret2
        exact ⟨rfl, HBW.out.alloc HBW.out.size _⟩
      · obtain ⟨x, hmx⟩ : ∃ x : Nat, mj = (x : Int) := ⟨mj.toNat, by omega⟩
        have hxr : x < ln + r := by omega
        have HTI : Hid (S[i0]? = some t) := hti
        have HTE : Hid (t.1 = mj) := hte
        have HMIN : Hid (∀ j u, j < i0 → S[j]? = some u → u.1 ≠ mj) := hmin
        clear hti hte hmin
        subst hmx
        have hx0 : ¬ ((x : Int) < 0) := by omega
        have hx1 : ¬ ((ln : Int) + (r : Int) ≤ (x : Int)) := by omega
        go_wp2
        have c4 : Hid ((wr.alloc (.cells #[.int .i64 x, .slice a1 xs.length l1, .slice a2 ys.length l2] 38)).heap[wr.heap.size]? = some (.cells #[.int .i64 x, .slice a1 xs.length l1, .slice a2 ys.length l2] 38 (0, 0))) := heap_alloc_last _ _
        have B7 : Hid (Below w.heap.size w (wr.alloc (.cells #[.int .i64 x, .slice a1 xs.length l1, .slice a2 ys.length l2] 38))) := HBW.out.alloc HBW.out.size _
        have P7 : Hid ((wr.alloc (.cells #[.int .i64 x, .slice a1 xs.length l1, .slice a2 ys.length l2] 38)).ownsRow w.heap.size 3 1 u12 (2 * m) us) := World.ownsRow.alloc HP.out _
        have Q7 : Hid ((wr.alloc (.cells #[.int .i64 x, .slice a1 xs.length l1, .slice a2 ys.length l2] 38)).ownsRow w.heap.size 22 1 u13 (2 * m) vs) := World.ownsRow.alloc HQ.out _
        clear HP HQ HBW c1 c2 c3
        generalize (wr.alloc (.cells #[.int .i64 x, .slice a1 xs.length l1, .slice a2 ys.length l2] 38)) = W7 at *
        generalize wr.heap.size = N at *
        generalize wr = w9 at *
        go_loopw [16] (fun t wx => ∃ i : Nat, i ≤ i0 ∧ t = .int .i64 i ∧ Below W7.heap.size W7 wx) (fun t _ => i0 - (intOf t).toNat)
        case atStart => exact ⟨0, by omega, rfl, Below.refl _ _⟩
        case round =>
          obtain ⟨i, hi, rfl, hbx⟩ := hrel
          have HBX : Hid (Below W7.heap.size W7 wr) := hbx
          have d1 := cellAt (heap_later c4.out hbx) 0 _ rfl
          by_cases hlti : i < i0
          · have hiS : i < S.length := by omega
            obtain ⟨⟨mi, xi, yi⟩, hsi⟩ : ∃ s, S[i]? = some s := ⟨_, List.getElem?_eq_getElem hiS⟩
            rcases HS.out with e0 | ⟨bS', oS', eS, hcS⟩
            · rw [e0] at hjS; simp at hjS
            cases eS
            obtain ⟨_, _, _, _, e1, _⟩ := hcS i mi xi yi hsi
            have hb8 : Below w.heap.size w wr := B7.out.trans (hbx.mono B7.out.size)
            have f1 := cell_later hb8 e1
            obtain ⟨y, hmy⟩ : ∃ y : Nat, mi = (y : Int) := ⟨mi.toNat, by have := (HIN.out i _ (by omega) hsi).1; omega⟩
            have hyx : y ≠ x := fun e => HMIN.out i _ hlti hsi (by show mi = (x : Int); omega)
            subst hmy
            have hne : ((y : Int) == (x : Int)) = false := by simp only [beq_eq_false_iff_ne, ne_eq]; omega
            have kA : ∀ u, Below wr.heap.size wr u → u.cell? ⟨bS, oS + i * 3, none⟩ = some (.int .i64 (y : Int)) := fun u hu => cell_later hu f1
            have kB : ∀ u, Below wr.heap.size wr u → u.cell? ⟨N, 0, none⟩ = some (.int .i64 (x : Int)) := fun u hu => cell_later hu d1
            have hi0 : (0 : Int) ≤ (i : Int) := by omega
            have hi1 : (i : Int) < (ln : Int) := by omega
            have hi2 : i < ln := by omega
            clear hbx hsi hcS e1 hb8 hyx f1 d1
            go_upto_region 18 with fail
            have hR2 : Below wr.heap.size wr wr.drew := (Below.refl _ _).drew
            go_region_held3 (fun w' => Below wr.heap.size wr w') (first | assumption | (refine Below.drew ?_; assumption)) (fail)
            clear kA kB hR2
            go_wp2
            exact ⟨⟨i + 1, by omega, by go_num, HBX.out.drew⟩, by simp [intOf]; omega⟩
          · obtain rfl : i0 = i := by omega
            rcases HS.out with e0 | ⟨bS', oS', eS, hcS⟩
            · rw [e0] at hjS; simp at hjS
            cases eS
            obtain ⟨mi, xi, yi⟩ := t
            obtain ⟨_, _, _, _, e1, _⟩ := hcS i0 mi xi yi HTI.out
            have hb8 : Below w.heap.size w wr := B7.out.trans (hbx.mono B7.out.size)
            have f1 := cell_later hb8 e1
            have hmi : mi = (x : Int) := HTE.out
            subst hmi
            have kA : ∀ u, Below wr.heap.size wr u → u.cell? ⟨bS, oS + i0 * 3, none⟩ = some (.int .i64 (x : Int)) := fun u hu => cell_later hu f1
            have kB : ∀ u, Below wr.heap.size wr u → u.cell? ⟨N, 0, none⟩ = some (.int .i64 (x : Int)) := fun u hu => cell_later hu d1
            have hi0' : (0 : Int) ≤ (i0 : Int) := by omega
            have hi1 : (i0 : Int) < (ln : Int) := by omega
            have hi2 : i0 < ln := by omega
            have HB8 : Hid (Below w.heap.size w wr) := hb8
            clear hbx hcS e1 hb8 f1 d1
            go_upto_region 18 with fail
            have hR2 : Below wr.heap.size wr wr.drew := (Below.refl _ _).drew
            go_region_held3 (fun w' => Below wr.heap.size wr w') (first | assumption | (refine Below.drew ?_; assumption)) (fail)
            clear kA kB hR2
            go_wp2
            go_ret2
            exact ⟨rfl, HB8.out.drew⟩
end Go.Proofs.YtmlpijlcpeoeaaaDoor

/- What the document's own Decode tells, said of the shards alone. -/
namespace Go.Proofs.YtmlpijlcpeoeaaaDoor
open Go.RowKit Gf
set_option linter.unusedVariables false
set_option maxRecDepth 20000
/-- the first shard that is out of range or meets an earlier one -/
theorem bad_first {k r : Nat} {S : List (Int × List F × List F)} (h : ¬ GoodT k r S) : ∃ m, m < S.length ∧ (∀ j s, j < m → S[j]? = some s → 0 ≤ s.1 ∧ s.1 < k + r) ∧ (∀ i j s t, i < j → j < m → S[i]? = some s → S[j]? = some t → s.1 ≠ t.1) ∧
    (∀ s, S[m]? = some s → s.1 < 0 ∨ (k : Int) + r ≤ s.1 ∨ (0 ≤ s.1 ∧ s.1 < k + r ∧ ∃ i t, i < m ∧ S[i]? = some t ∧ t.1 = s.1 ∧ ∀ j u, j < i → S[j]? = some u → u.1 ≠ s.1)) := by
  have key : ∀ m, m ≤ S.length → GoodT k r (S.take m) ∨ ∃ q, q < m ∧ GoodT k r (S.take q) ∧ ¬ GoodT k r (S.take (q + 1)) := by
    intro m
    induction m with
    | zero => intro _; exact .inl (by simpa using good_nil k r)
    | succ m ih =>
      intro hm
      rcases ih (by omega) with h1 | ⟨q, q1, q2, q3⟩
      · by_cases h2 : GoodT k r (S.take (m + 1))
        · exact .inl h2
        · exact .inr ⟨m, by omega, h1, h2⟩
      · exact .inr ⟨q, by omega, q2, q3⟩
  rcases key S.length (Nat.le_refl _) with h1 | ⟨m, hm, hg, hb⟩
  · rw [List.take_length] at h1
    exact absurd h1 h
  · have hin : ∀ j s, j < m → S[j]? = some s → 0 ≤ s.1 ∧ s.1 < k + r := fun j s hj hs => hg.1 s (List.mem_of_getElem? (i := j) (by rw [List.getElem?_take, if_pos hj]; exact hs))
    have hne : ∀ i j s t, i < j → j < m → S[i]? = some s → S[j]? = some t → s.1 ≠ t.1 := fun i j s t hij hj hs ht e => by
      have h9 := hg.2
      have e1 : ((S.take m).map fun s => s.1)[i]? = some s.1 := by rw [List.getElem?_map, List.getElem?_take, if_pos (by omega), hs]; rfl
      have e2 : ((S.take m).map fun s => s.1)[j]? = some t.1 := by rw [List.getElem?_map, List.getElem?_take, if_pos hj, ht]; rfl
      have := (List.getElem?_inj (List.getElem?_eq_some_iff.1 e1).1 h9).1 (e1.trans ((congrArg some e).trans e2.symm))
      omega
    refine ⟨m, hm, hin, hne, fun s hs => ?_⟩
    by_cases h0 : s.1 < 0
    · exact .inl h0
    · by_cases h1 : (k : Int) + r ≤ s.1
      · exact .inr (.inl h1)
      · refine .inr (.inr ⟨by omega, by omega, ?_⟩)
        have hmem : s.1.toNat ∈ numT (S.take m) := by
          refine Classical.byContradiction fun hn => hb ?_
          rw [List.take_add_one, hs]
          exact good_snoc hg (by omega) (by omega) hn
        obtain ⟨t, ht, e⟩ := List.mem_map.1 ((numT_mem hg (by omega)).1 hmem)
        obtain ⟨i, hi⟩ := List.mem_iff_getElem?.1 ht
        have him : i < m := by
          have := (List.getElem?_eq_some_iff.1 hi).1
          rw [List.length_take] at this; omega
        rw [List.getElem?_take, if_pos him] at hi
        exact ⟨i, t, him, hi, e, fun j u hj hu h9 => hne j i u t hj him hu hi (h9.trans e.symm)⟩
theorem rdecode_V (k r n : Int) (ln cn : Nat) (a : Option Addr) (S : List (Int × List F × List F)) (w : World) (x : Nat) (zs : List F) (hk0 : -9223372036854775808 ≤ k) (hk1 : k ≤ 9223372036854775807) (hr0 : -9223372036854775808 ≤ r) (hr1 : r ≤ 9223372036854775807)
    (hln : ln = S.length) (hi64 : ∀ s ∈ S, -9223372036854775808 ≤ s.1 ∧ s.1 ≤ 9223372036854775807) (hS : Sh8 w a S) (hD : DecAs k r n S x zs) :
    Calls Tryd.prog 20 #[.int .i64 k, .int .i64 r, .int .i64 n, .slice a ln cn] w fun e w' => ∃ bd cw, e = .returned (.tuple #[.slice bd zs.length cw, .int .i64 x]) ∧ Row8 w' bd zs ∧ Below w.heap.size w w' := by
  rcases hD with ⟨hL, rfl, rfl⟩ | ⟨hL, hh, rfl, rfl⟩ | ⟨p, q, m, rfl, rfl, rfl, h1, h2, h3, h4, h5, hc⟩
  · exact (rdecode_illegal k r n a ln cn w hk0 hk1 hr0 hr1 hL).mono fun e w' ⟨he, hb⟩ => ⟨none, 0, he, .inl rfl, hb ▸ Below.refl _ _⟩
  · obtain ⟨p, q, rfl, rfl, h1, h2, h3⟩ := legal_nat hL
    exact (rdecode_size p q n a ln cn w h1 h2 h3 hh).mono fun e w' ⟨he, hb⟩ => ⟨none, 0, he, .inl rfl, hb ▸ Below.refl _ _⟩
  · by_cases hlp : S.length = p
    · by_cases hg : GoodT p q S
      · obtain ⟨g1, g2, g3⟩ := good_nums hg
        refine (rdecode_good p q m ln cn a (numT S) S w h1 h2 h3 h4 h5 (by omega) hln (numT_len S) g1 g2 g3 hS).mono fun e w' h => ?_
        rcases h with ⟨d, he, hb⟩ | ⟨d, D, hD, g, cap, he, hh, _, hb⟩
        · rcases hc with ⟨c', _⟩ | ⟨_, _, rfl, rfl⟩ | ⟨_, d', _⟩
          · exact absurd ⟨hlp, hg⟩ c'
          · exact ⟨none, 0, he, .inl rfl, hb⟩
          · exact absurd d' d
        · rcases hc with ⟨c', _⟩ | ⟨_, d', _⟩ | ⟨_, _, rfl, D', hD', rfl⟩
          · exact absurd ⟨hlp, hg⟩ c'
          · exact absurd d d'
          · obtain ⟨_, _, k3, _⟩ := cnt_half h1 (show p ≤ 14 by omega) h4 h5
            have e1 : joinD p (cntN (2 * p) m) m D = joinD p (cntN (2 * p) m) m D' := joinD_congr (made_one hg hlp h3 hD hD')
            have hh2 : Has8 w' g (joinD p (cntN (2 * p) m) m D) cap := hh
            rw [e1] at hh2
            rw [joinD_len k3]
            exact ⟨_, cap, he, row8_has hh2, hb⟩
      · obtain ⟨m9, hm, hin, hne, hbad⟩ := bad_first hg
        have hx : x = 4 ∧ zs = [] := by
          rcases hc with ⟨_, e1, e2⟩ | ⟨c', _⟩ | ⟨c', _⟩
          · exact ⟨e1, e2⟩
          · exact absurd c'.2 hg
          · exact absurd c'.2 hg
        obtain ⟨rfl, rfl⟩ := hx
        exact (rdecode_apart p q m ln cn m9 a S w h1 h2 h3 h4 h5 (by omega) hln (by omega) hin hne hbad hi64 hS).mono fun e w' ⟨he, hb⟩ => ⟨none, 0, he, .inl rfl, hb⟩
    · have hx : x = 4 ∧ zs = [] := by
        rcases hc with ⟨_, e1, e2⟩ | ⟨c', _⟩ | ⟨c', _⟩
        · exact ⟨e1, e2⟩
        · exact absurd c'.1 hlp
        · exact absurd c'.1 hlp
      obtain ⟨rfl, rfl⟩ := hx
      exact (rdecode_count p q m ln cn a w h1 h2 h3 h4 h5 (by omega)).mono fun e w' ⟨he, hb⟩ => ⟨none, 0, he, .inl rfl, hb ▸ Below.refl _ _⟩
end Go.Proofs.YtmlpijlcpeoeaaaDoor

/- The walk of CodeDecodes: at all numbers and shards. -/
namespace Go.Proofs.YtmlpijlcpeoeaaaDoor
open Go.RowKit Gf
set_option linter.unusedVariables false
set_option maxRecDepth 20000
theorem shB_bounds {w : World} {a : Option Addr} {S : List (Int × List F × List F)} (h : ShB w a S) : ∀ s ∈ S, (-9223372036854775808 ≤ s.1 ∧ s.1 ≤ 9223372036854775807) ∧ s.2.1.length ≤ 140737488355328 ∧ s.2.2.length ≤ 140737488355328 := fun s hs => by
  rcases h with rfl | ⟨b, off, rfl, h⟩
  · cases hs
  · obtain ⟨j, hj⟩ := List.getElem?_of_mem hs
    obtain ⟨m, xs, ys⟩ := s
    obtain ⟨h1, a1, c1, a2, c2, _, _, _, _, _, h2, h3⟩ := h j m xs ys hj
    exact ⟨h1, by dsimp only; omega, by dsimp only; omega⟩
set_option maxHeartbeats 16000000 in
theorem decodes_all (k r n : Int) (l cap : Nat) (a : Option Addr) (S : List (Int × List F × List F)) (w : World) (es : List Addr) (hes : ErrsAt w gsNum es) (hk0 : -9223372036854775808 ≤ k) (hk1 : k ≤ 9223372036854775807) (hr0 : -9223372036854775808 ≤ r) (hr1 : r ≤ 9223372036854775807) (hn0 : -9223372036854775808 ≤ n) (hn1 : n ≤ 9223372036854775807)
    (hl : l = S.length) (hl9 : l ≤ 2513169434843) (hB : ShB w a S) :
    Calls Tryd.prog 4 #[.agg #[.int .i64 k, .int .i64 r, .int .i64 n, .slice a l cap]] w fun e w' => e = .returned (.bool true) ∧ Below w.heap.size w w' := by
  obtain ⟨q, zs, hD⟩ := decAs_ex k r n S
  have hq25 := decAs_le hD
  have hbd := shB_bounds hB
  have hS := shB_sh8 hB
  have HDV : Hid _ := fun (u : World) (hu : Below w.heap.size w u) (b : Option Addr) (c : Nat) (hT : Sh8 u b S) => decode_V k r n l c b S u (ofL es) q zs (errsC_num (errsAt_below hes hu)) hk0 hk1 hr0 hr1 hn0 hn1 hl (by omega) hT hD
  have HRV : Hid _ := fun (u : World) (hu : Below w.heap.size w u) => rdecode_V k r n l cap a S u q zs hk0 hk1 hr0 hr1 hl (fun s hs => (hbd s hs).1) (sh8_below hS hu) hD
  have HCV : Hid _ := fun (u : World) (hu : Below w.heap.size w u) => copied_F l cap a S u hl hl9 (sh8_below hS hu) (fun s hs => (hbd s hs).2)
  have HE : Hid (ErrsAt w gsNum es) := hes
  have HL : Hid (l = S.length) := hl
  have HS : Hid (Sh8 w a S) := hS
  have HB0 : Hid (Below w.heap.size w (w.alloc (.cells #[.int .i64 k, .int .i64 r, .int .i64 n, .slice a l cap] 42))) := (Below.refl _ _).alloc (Nat.le_refl _) _
  have c0 : Hid ((w.alloc (.cells #[.int .i64 k, .int .i64 r, .int .i64 n, .slice a l cap] 42)).heap[w.heap.size]? = some (.cells #[.int .i64 k, .int .i64 r, .int .i64 n, .slice a l cap] 42 (0, 0))) := heap_alloc_last _ _
  have k0 := cellAt c0.out 0 _ rfl
  have k1 := cellAt c0.out 1 _ rfl
  have k2 := cellAt c0.out 2 _ rfl
  have k3 := cellAt c0.out 3 _ rfl
  have lt0 := ltHeap c0.out
  clear hes hl hS hB hbd hD
  go_enter Tryd.func4, Tryd.ntmps4
  go_wp2
  go_region
  have HB0' : Hid _ := HB0.out.drew
  clear k0 k1 k2 k3 lt0 c0
  go_wp2_with fail
  refine Calls.mono (alive7_ok _ (ofL es) (errsF_num (errsAt_below HE.out HB0'.out))) ?_
  rintro e w1 ⟨rfl, hb⟩
  have HB1 : Hid (Below w.heap.size w w1) := HB0'.out.trans (hb.mono HB0'.out.size)
  clear hb
  go_wp2_with fail
  refine Calls.mono (HCV.out _ HB1.out) ?_
  rintro e w2 ⟨g, cp, rfl, hs2, hb⟩
  have HB2 : Hid (Below w.heap.size w w2) := HB1.out.trans (hb.mono HB1.out.size)
  have HS2 : Hid (Sh8 w2 (some ⟨g, 0, none⟩) S) := hs2
  clear hb hs2
  go_wp2_with fail
  refine Calls.mono (HDV.out _ HB2.out (some ⟨g, 0, none⟩) cp HS2.out) ?_
  rintro e w3 ⟨bd, rfl, hr, hb⟩
  have HB3 : Hid (Below w.heap.size w w3) := HB2.out.trans (hb.mono HB2.out.size)
  have HS3 : Hid (Sh8 w3 (some ⟨g, 0, none⟩) S) := sh8_below HS2.out hb
  have HR3 : Hid (Row8 w3 bd zs) := hr
  clear hb hr
  go_wp2_with fail
  refine Calls.mono (HRV.out _ HB3.out) ?_
  rintro e w4 ⟨bd2, cw, rfl, hr, hb⟩
  have HB4 : Hid (Below w.heap.size w w4) := HB3.out.trans (hb.mono HB3.out.size)
  have HS4 : Hid (Sh8 w4 (some ⟨g, 0, none⟩) S) := sh8_below HS3.out hb
  have HR4 : Hid (Row8 w4 bd zs) := row8_below HR3.out hb
  have HQ4 : Hid (Row8 w4 bd2 zs) := hr
  clear hb hr
  go_wp2_with fail
  refine Calls.mono (num_V q (errsAt_below HE.out HB4.out) hq25) ?_
  rintro e w5 ⟨rfl, hb⟩
  have HB5 : Hid (Below w.heap.size w w5) := HB4.out.trans (hb.mono HB4.out.size)
  have HS5 : Hid (Sh8 w5 (some ⟨g, 0, none⟩) S) := sh8_below HS4.out hb
  have kA := conv8 (la := zs.length) (ca := zs.length) rfl (row8_below HR4.out hb)
  have kB := conv8 (la := zs.length) (ca := cw) rfl (row8_below HQ4.out hb)
  have eA := strEq8 zs
  have hqq : ((q : Int) != (q : Int)) = false := by simp
  have hqq' : ((q : Int) == (q : Int)) = true := by simp
  clear hb HB0 HB0' HB1 HB2 HB3 HB4 HS2 HS3 HS4 HR3 HR4 HQ4 HDV HRV HCV
  generalize str8 zs = sA at *
  go_wp2
  clear kA kB eA
  go_loopw [54] (fun t wr => ∃ j : Nat, j ≤ l ∧ t = .int .i64 j ∧ Below w5.heap.size w5 wr) (fun t _ => l - (intOf t).toNat)
  case atStart => exact ⟨0, by omega, rfl, Below.refl _ _⟩
  case round =>
    obtain ⟨j, hj, rfl, hbx⟩ := hrel
    have HBX : Hid (Below w5.heap.size w5 wr) := hbx
    have HBW : Hid (Below w.heap.size w wr) := HB5.out.trans (hbx.mono HB5.out.size)
    clear hbx
    by_cases hlt : j < l
    · have hjS : j < S.length := by rw [← HL.out]; exact hlt
      obtain ⟨⟨m, xs, ys⟩, hs⟩ : ∃ s, S[j]? = some s := ⟨_, List.getElem?_eq_getElem hjS⟩
      rcases sh8_below HS.out HBW.out with e0 | ⟨bS, oS, eS, hcS⟩
      · rw [e0] at hjS; simp at hjS
      rcases sh8_below HS5.out HBX.out with e0 | ⟨bT, oT, eT, hcT⟩
      · rw [e0] at hjS; simp at hjS
      subst eS
      simp only [Option.some.injEq, Addr.mk.injEq, and_true] at eT
      obtain ⟨rfl, rfl⟩ := eT
      obtain ⟨a1, l1, a2, l2, x0, x1, x2, r1, r2⟩ := hcS j m xs ys hs
      obtain ⟨a3, l3, a4, l4, y0, y1, y2, r3, r4⟩ := hcT j m xs ys hs
      simp only [Nat.zero_add] at y0 y1 y2
      clear hcS hcT hs hjS
      have kA := conv8 (la := xs.length) (ca := l1) rfl (row8_below r1 (Below.refl _ _).drew)
      have kB := conv8 (la := ys.length) (ca := l2) rfl (row8_below r2 (Below.refl _ _).drew)
      have kC := conv8 (la := xs.length) (ca := l3) rfl (row8_below r3 (Below.refl _ _).drew)
      have kD := conv8 (la := ys.length) (ca := l4) rfl (row8_below r4 (Below.refl _ _).drew)
      have eA := strEq8 xs
      have eB := strEq8 ys
      clear r1 r2 r3 r4
      generalize str8 xs = sX at *
      generalize str8 ys = sY at *
      generalize xs.length = lX at *
      generalize ys.length = lY at *
      have hmm : ((m : Int) != m) = false := by simp
      go_upto_region 12 with fail
      go_region
      go_wp2
      exact ⟨⟨j + 1, by omega, by go_num, HBX.out.drew⟩, by simp [intOf]; omega⟩
    · obtain rfl : l = j := by omega
      go_wp2
      go_ret
      exact ⟨rfl, HBW.out⟩
end Go.Proofs.YtmlpijlcpeoeaaaDoor

/- The law CodeDecodes holds: decoding answers what the document asks, error for error and byte for byte, and leaves the given shards as they were, at all numbers and lists of shards; no condition but what the card ties. -/
namespace Go.Proofs.YtmlpijlcpeoeaaaDoor.codeDecodes
open Go.ChangeShapes Go.WideShapes Go.ChangeAt Go.RowKit
open Go.ChangeMaps (open_string shut_string)
open Gf
set_option linter.unusedVariables false
theorem errs {W : World} (h : laidMetH Tryd.prog Rows.codeDecodesRow.laid W) : ∃ es, ErrsAt W gsNum es :=
  errs_of_laid h (by kernel_rfl) (by kernel_rfl) (fun g hg => by
    have hall : (gsNum.all fun g => decide ((Tryd.prog.globals[g]?).map (·.type) = some 27)) = true := by kernel_rfl
    simpa using List.all_eq_true.1 hall g hg) (fun x hx => by
    simp only [Rows.codeDecodesRow, List.mem_cons, List.not_mem_nil, or_false] at hx
    rcases hx with rfl | rfl | rfl | rfl | rfl | rfl | rfl | rfl | rfl | rfl | rfl | rfl | rfl | rfl | rfl | rfl | rfl | rfl | rfl | rfl | rfl | rfl | rfl | rfl | rfl <;> exact ⟨_, rfl⟩)
set_option maxRecDepth 100000 in
theorem lifted (os : Os) (started : os.Started) (H : Type) (enc : TypeId × Value → H) :
    ReturnsInHanded {} Tryd.checked os 4 .any (fun w args => (Rows.codeDecodesSpec.pre enc Tryd.prog Tryd.f4 Rows.codeDecodesRow.domain false w args ∧ laidMetH Tryd.prog Rows.codeDecodesRow.laid w) ∧ sizedMet enc Tryd.prog Tryd.f4 (OpenSpec.ofChange Rows.codeDecodesSpec) false w args) (Rows.codeDecodesSpec.post enc Tryd.prog Tryd.f4 false true false false) := by
  refine returnsInHanded_of_change_and (C := Tryd.checked) (X := fun w _ => laidMetH Tryd.prog Rows.codeDecodesRow.laid w) (fun _ _ _ hh h => h.of_heap hh) own started (by kernel_rfl) Tryd.func4
    (ChangeSpec.witness_shaped (enc := enc) (C := Tryd.checked) (os := os) (X := fun w _ => laidMetH Tryd.prog Rows.codeDecodesRow.laid w) false (World.laidAll Tryd.prog os Rows.codeDecodesRow.laid) #[.agg #[.int .i64 0, .int .i64 0, .int .i64 0, .slice none 0 0]] 8 (World.laidAll_os _ _ _)
      (World.shaped_of_ZipB (by kernel_rfl) (by kernel_rfl)) (by kernel_rfl) (by kernel_rfl) (by kernel_rfl)
      (by rw [MakeChecks.laidMetH_plain _ _ _ (by kernel_rfl)]; exact laidMet_laidAll _ (by kernel_rfl) (by kernel_rfl))) ?_
  intro W base args ds gs before hval0 hW hcnd hsz0 hL _
  have hval : ∀ (j : Nat) t v, Tryd.f4.params[j]? = some t → args[j]? = some v → Value.okWide Tryd.prog W .any base t v := hval0
  have hsz : (DataW.weightsEach Tryd.prog (Tryd.f4.params.toList ++ Rows.codeDecodesSpec.plain.varTypes Tryd.prog) (ds ++ gs)).all (· ≤ reachBytes) = true := hsz0
  have hW' := hW
  obtain ⟨p, q, hA0, hV, rfl, hfz, hnd⟩ := hW
  have hA : DataW.TrodAll enc Tryd.prog W 0 (fun _ => true) true Tryd.f4.params.toList args.toList ds p := hA0
  rw [Tryd.params4] at hA hval hsz
  obtain ⟨v0, vs0, d0, ds0, p0, q0, hargs, rfl, rfl, h0, r0⟩ := trodAll_cons hA
  obtain ⟨rfl, rfl, rfl⟩ := trodAll_nil r0
  obtain rfl : args = #[v0] := by cases args; simp_all
  obtain ⟨rfl, rfl⟩ := trodVars_none hV
  obtain ⟨es, hes⟩ := errs hL
  have k0 := h0
  have lt0 : ∀ x ∈ p0, x.block < W.heap.size := by obtain ⟨m, hm⟩ := k0; exact DataW.trod_lt m _ _ _ hm
  obtain ⟨kv, rv, nv, av, lv, cv, xv, rfl, wkv, wrv, wnv, lxv, rxv, klv, blv, nav⟩ := openGiven (j := 0) (hval 0 42 v0 rfl rfl) h0 hsz rfl rfl
  clear hA0 hval0
  refine (decodes_all kv rv nv lv cv av xv W es hes wkv.1 wkv.2 wrv.1 wrv.2 wnv.1 wnv.2 lxv (Nat.le_trans klv blv) rxv).mono fun e W' ⟨he, bel⟩ => ?_
  subst he
  exact ⟨_, rfl, _, _, _, [], _, [], hW', trodAll_mk1 (shut_bool Tryd.underlying4 _), (trodAll_cons_mk (Below.trod laidOut (by kernel_rfl) (of_decide_eq_true (by kernel_rfl)) k0 bel lt0) trodAll_mk0), rfl, bel.frame _, fun h => by cases h⟩

theorem over : Rows.codeDecodesRow.holds Tryd.pinned (OpenSpec.ofChange Rows.codeDecodesSpec) :=
  OpenClaim.holds_of_wide 4 Tryd.f4 rfl rfl rfl rfl rfl rfl rfl ⟨rfl, rfl, rfl, rfl, rfl⟩ rfl rfl rfl rfl rfl (by kernel_rfl) Tryd.func4 (by kernel_rfl)
    (of_decide_eq_true (by kernel_rfl)) (by unfold Func.isWrapper; first | (rw [if_pos (by decide +kernel)]; kernel_rfl) | (rw [if_neg (by decide +kernel)]; exact ⟨rfl, rfl⟩))
    (fun os started H enc _ => lifted os started H enc)

theorem proved : Rows.CodeDecodesCardSaid :=
  Claim7.holds_tied_plain_at .later [] [.sentinel, .sentinel, .sentinel, .sentinel, .sentinel, .sentinel, .sentinel, .sentinel, .sentinel, .sentinel, .sentinel, .sentinel, .sentinel, .sentinel, .sentinel, .sentinel, .sentinel, .sentinel, .sentinel, .sentinel, .sentinel, .sentinel, .sentinel, .sentinel, .sentinel] true (true, "a9798cfc6535d9d22302b931f8e93845d3d74155823dd8adc4abfcefcaebbe76") true over (fun _ h => by cases h) (by kernel_rfl) (fun _ h => by cases h) codeDecodes_row_tie rfl ⟨rfl, rfl⟩ (by kernel_rfl) rfl
    (fun f fn hf hfn => by
      obtain rfl : f = 4 := Option.some.inj ((show Tryd.prog.funcNamed "tessera/tesseralaw07.CodeDecodes" = some 4 by kernel_rfl).symm.trans hf) |>.symm
      obtain rfl : fn = Tryd.f4 := (Option.some.inj (Tryd.func4.symm.trans hfn)).symm
      exact ⟨by kernel_rfl, fun j t ht => by
        rw [Tryd.params4] at ht
        have hm : t ∈ [42] := by simpa using Array.mem_of_getElem? ht
        have hall : ([42].all fun u => !Tryd.prog.wantsStandIn u) = true := by kernel_rfl
        exact (show Tryd.prog.wantsStandIn t = false by simpa using List.all_eq_true.1 hall t hm)⟩)
    (by kernel_rfl)
#print axioms proved
end Go.Proofs.YtmlpijlcpeoeaaaDoor.codeDecodes
