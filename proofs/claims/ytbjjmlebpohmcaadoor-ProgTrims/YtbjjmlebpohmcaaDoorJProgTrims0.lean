/- The law ProgTrims holds: Trim changes no meaning, trims no further and makes nothing longer, of all programs; no condition but what the card ties. -/
import Derived.Test.YtbjjmlebpohmcaaDoorGfDot
import Derived.ProofKit
import Derived.OpenShut
import Derived.SizedLaws
import Derived.Lib.SmallJoins
import Derived.Test.YtbjjmlebpohmcaaDoorMatO
import Derived.Test.YtbjjmlebpohmcaaDoorOwn
import Derived.Deep.Matrix
import Derived.Test.YtbjjmlebpohmcaaDoorStepD
import Derived.Deep.Strs
import Derived.Test.YtbjjmlebpohmcaaDoorErrs
import Derived.Test.YtbjjmlebpohmcaaDoorStepI
import Derived.Test.YtbjjmlebpohmcaaDoorMatA
import Derived.Test.YtbjjmlebpohmcaaDoorNumKept
import Derived.ArgAppend
import Derived.Test.YtbjjmlebpohmcaaDoorHolds
import Derived.Lib.LazyBuf
import Derived.Test.YtbjjmlebpohmcaaDoorMatP
import Derived.Test.YtbjjmlebpohmcaaDoorMatV
import Derived.Test.YtbjjmlebpohmcaaDoorGfRefW
import Derived.Test.YtbjjmlebpohmcaaDoorRegHeld
import Derived.Laws.OwnMore
import Derived.Test.YtbjjmlebpohmcaaDoorStepC
import Derived.BigRegion
import Derived.Test.YtbjjmlebpohmcaaDoorGfApp
import Derived.RangeFuncNested
import Derived.RangeFuncBound
import Derived.RangeFuncCalls
import Derived.RangeFuncLeaves
import Derived.Shelf.Abstract
import Derived.Shelf.RegionOpen
import Derived.WalkKit
import Derived.OwnWalkIn
import Derived.TacticsInMore
import Derived.LoopNIn
import Derived.LoopIn
import Derived.Test.YtbjjmlebpohmcaaDoorStepM
import Derived.Deep.DeepCutAuto
import Derived.Test.YtbjjmlebpohmcaaDoorGfStr
import Derived.Test.YtbjjmlebpohmcaaDoorStepB
import Derived.Test.YtbjjmlebpohmcaaDoorMatS
import Derived.Test.YtbjjmlebpohmcaaDoorRows
import Derived.Test.YtbjjmlebpohmcaaDoorCards
import Derived.Test.YtbjjmlebpohmcaaDoorTie
import Derived.ShutString
import Derived.ChangeOld
import Derived.Below
import Derived.Lay
import Derived.SevenTiedAt
import Derived.Stop.Joined
/- How a list of bytes that came in is read: facts for the frames of the laws; nothing of the program is proved here. -/
namespace Go.Proofs.YtbjjmlebpohmcaaDoor
open Go.ChangeShapes Go.WideShapes Go.ChangeAt Go.RowKit Gf
set_option maxRecDepth 20000
theorem own : ownKnob Tryd.prog.godebug = none := by kernel_rfl
theorem laidOut : laidOutB Tryd.prog = true := by kernel_rfl
theorem bytes8 : Tryd.prog.bytesOf 5 = 1 := by kernel_rfl
theorem getD_get {α : Type} (l : List α) (j : Nat) (d : α) (h : j < l.length) : l.getD j d = l[j] := by simp [List.getD, h]
theorem open8_cells {H : Type} {enc : TypeId × Value → H} {W : World} {cs : List Value} {x : DataW H × List MemPlace} {fuel : Nat}
    (h : DataW.trod enc Tryd.prog W 0 (fun _ => true) true fuel 31 cs = some x) :
    ∃ a len cap xs, cs = [.slice a len cap] ∧ len = xs.length ∧ len ≤ cap ∧ Row8 W a xs ∧ (x.1 = .nil ∧ a = none ∧ cap = 0 ∨ ∃ es sp, x.1 = .slice es sp ∧ es.length + sp.length = cap) ∧ (a = none → cap = 0) := by
  rcases open_ints Tryd.underlying31 Tryd.underlying5 (by kernel_rfl) h with ⟨hcs, hx⟩ | ⟨ad, l, c, zs, hcs, _, hl, hm, hz, hx, hcell, hwz⟩
  · exact ⟨none, 0, 0, [], hcs, rfl, Nat.le_refl _, .inl rfl, .inl ⟨by rw [hx], rfl, rfl⟩, fun _ => rfl⟩
  · have hz' : zs.length = c := by simpa using hz
    refine ⟨some ad, l, c, (zs.take l).map toF, hcs, by simp; omega, hl, ?_, .inr ⟨_, _, by rw [hx], by simp [lits]; omega⟩, fun e => by cases e⟩
    by_cases h0 : l = 0
    · left; simp [h0]
    · right
      have hc := hcell 0 (by omega)
      obtain ⟨b, off, spot⟩ := ad
      have hspot : spot = none := by simpa [Addr.add] using World.cell?_spot hc
      subst hspot
      refine ⟨b, off, rfl, fun j hj => ?_⟩
      have hj' : j < l := by simp at hj; omega
      have hcj := hcell j (by omega)
      have hw := hwz (zs.getD j 0) (by
        rw [getD_get _ _ _ (by omega)]; exact List.getElem_mem _)
      have hb := bounds_u8 hw
      have e : ((at8 ((zs.take l).map toF) j).toNat : Int) = zs.getD j 0 := by
        unfold at8
        rw [getD_get _ _ _ (by simp; omega)]
        simp only [List.getElem_map, List.getElem_take]
        rw [getD_get _ _ _ (by omega)] at hb ⊢
        exact val_toF hb.1 hb.2
      rw [e, ← hcj]
      by_cases hj0 : j = 0
      · subst hj0; rfl
      · simp [Addr.add, hj0]
theorem open8 {H : Type} {enc : TypeId × Value → H} {W : World} {v : Value} {d : DataW H} {p : List MemPlace} {base : Nat}
    (hv : Value.okWide Tryd.prog W .any base 31 v) (h : DataW.Trod enc Tryd.prog W 0 (fun _ => true) true 31 v d p) :
    ∃ a len cap xs, v = .slice a len cap ∧ len = xs.length ∧ len ≤ cap ∧ Row8 W a xs ∧ (d = .nil ∧ a = none ∧ cap = 0 ∨ ∃ es sp, d = .slice es sp ∧ es.length + sp.length = cap) ∧ (a = none → cap = 0) := by
  obtain ⟨fuel, hf⟩ := h
  obtain ⟨a, len, cap, xs, hcs, h1, h2, h3, h4, h5⟩ := open8_cells hf
  obtain ⟨a', len', cap', rfl⟩ := okWide_slice Tryd.underlying31 hv
  simp [Value.cells] at hcs
  obtain ⟨rfl, rfl, rfl⟩ := hcs
  exact ⟨_, _, _, xs, rfl, h1, h2, h3, h4, h5⟩
end Go.Proofs.YtbjjmlebpohmcaaDoor

/- How a matrix, and two numbers, come in: facts for the frames of the laws; nothing of the program is proved here. -/
namespace Go.Proofs.YtbjjmlebpohmcaaDoor
open Go.ChangeShapes Go.WideShapes Go.ChangeAt Go.RowKit Gf Go.Joins
set_option linter.unusedVariables false
set_option maxRecDepth 20000
theorem cellsMat : Tryd.prog.cellsOf 33 = 3 := by kernel_rfl
theorem cellsInt : Tryd.prog.cellsOf 3 = 1 := by kernel_rfl
/-- a list's datum, and its room -/
def Room2 {H : Type} (d : DataW H) (cap : Nat) : Prop := d = .nil ∧ cap = 0 ∨ ∃ es sp, d = .slice es sp ∧ es.length + sp.length = cap
theorem room2_le {H : Type} {d : DataW H} {cap : Nat} (h : Room2 d cap) (hw : ∀ n ∈ DataW.weights Tryd.prog 31 d, n ≤ reachBytes) : cap ≤ 140737488351232 := by
  rcases h with ⟨_, rfl⟩ | ⟨es, sp, rfl, rfl⟩
  · omega
  · have := hw ((es.length + sp.length) * Tryd.prog.bytesOf 5) (by simp [DataW.weights, Tryd.underlying31])
    rw [bytes8] at this
    simp only [reachBytes] at this
    omega
theorem openMat {H : Type} {enc : TypeId × Value → H} {W : World} {v : Value} {d : DataW H} {p : List MemPlace} {base : Nat} {ts : List TypeId} {ds : List (DataW H)} {j : Nat}
    (hv : Value.okWide Tryd.prog W .any base 33 v) (h : DataW.Trod enc Tryd.prog W 0 (fun _ => true) true 33 v d p)
    (hsz : (DataW.weightsEach Tryd.prog ts ds).all (· ≤ reachBytes) = true) (ht : ts[j]? = some 33) (hd : ds[j]? = some d) :
    ∃ (r c : Int) (a : Option Addr) (l cap : Nat) (xs : List F), v = .agg #[.int .i64 r, .int .i64 c, .slice a l cap] ∧ l = xs.length ∧ Row8 W a xs ∧ l ≤ cap ∧ cap ≤ 140737488351232 ∧ (a = none → cap = 0) ∧
      -9223372036854775808 ≤ r ∧ r ≤ 9223372036854775807 ∧ -9223372036854775808 ≤ c ∧ c ≤ 9223372036854775807 := by
  obtain ⟨v0, v1, v2, y0, y1, y2, n, rfl, rfl, _, e0, e1, e2⟩ := open_agg3 Tryd.underlying33 (by kernel_rfl) cellsMat hv h
  obtain ⟨r, s0, _, w0⟩ := DataW.trod_int Tryd.underlying3 e0
  obtain ⟨c, s1, _, w1⟩ := DataW.trod_int Tryd.underlying3 e1
  obtain ⟨a, la, ca, xs, s2, e, ka, ra, da, na⟩ := open8_cells e2
  simp only [List.cons.injEq, and_true] at s0 s1 s2
  subst s0 s1 s2
  have hw : ∀ n ∈ DataW.weights Tryd.prog 33 (.agg [y0.1, y1.1, y2.1]), n ≤ reachBytes := fun n hn => by
    simpa using List.all_eq_true.1 hsz _ (DataW.weights_mem_each ht hd n hn)
  simp only [DataW.weights, Tryd.underlying33] at hw
  have r2 : Room2 y2.1 ca := da.imp (fun h => ⟨h.1, h.2.2⟩) id
  refine ⟨r, c, a, la, ca, xs, rfl, e, ra, ka, room2_le r2 ?_, na, (bounds_i64 w0).1, (bounds_i64 w0).2, (bounds_i64 w1).1, (bounds_i64 w1).2⟩
  exact fun n hn => hw n (by simp [DataW.weightsEach, hn])
end Go.Proofs.YtbjjmlebpohmcaaDoor

/- How a list of lists of bytes, and a list of numbers, come in: facts for the frames of the laws; nothing of the program is proved here. -/
namespace Go.Proofs.YtbjjmlebpohmcaaDoor
open Go.ChangeShapes Go.WideShapes Go.ChangeAt Go.RowKit Gf Go.Joins
set_option linter.unusedVariables false
set_option maxRecDepth 20000
theorem addr_off {w : World} {ad : Addr} {v : Value} (h : w.cell? (ad.add 0) = some v) : ∃ b off, ad = ⟨b, off, none⟩ := by
  obtain ⟨b, off, spot⟩ := ad
  have hspot : spot = none := by simpa [Addr.add] using World.cell?_spot h
  subst hspot
  exact ⟨b, off, rfl⟩
theorem add_off (b off j : Nat) : (⟨b, off, none⟩ : Addr).add j = ⟨b, off + j, none⟩ := by unfold Addr.add; split <;> simp_all
theorem cellsSl : Tryd.prog.cellsOf 31 = 1 := by kernel_rfl
theorem cellsU8 : Tryd.prog.cellsOf 5 = 1 := by kernel_rfl
theorem openRows {H : Type} {enc : TypeId × Value → H} {W : World} {v : Value} {d : DataW H} {p : List MemPlace} {base : Nat}
    (hv : Value.okWide Tryd.prog W .any base 58 v) (h : DataW.Trod enc Tryd.prog W 0 (fun _ => true) true 58 v d p) :
    ∃ a l cap L, v = .slice a l cap ∧ l = List.length L ∧ Rows8 W a L ∧
      ∀ b off, a = some ⟨b, off, none⟩ → ∀ j n a' cap', W.cell? ⟨b, off + j, none⟩ = some (.slice a' n cap') → j < L.length → a' = none → cap' = 0 := by
  obtain ⟨fuel, hf⟩ := h
  obtain ⟨a0, l0, c0, rfl⟩ := okWide_slice Tryd.underlying58 hv
  rcases Deep.open_int_rows Tryd.underlying58 Tryd.underlying31 Tryd.underlying5 cellsSl cellsU8 hf with ⟨hcs, hx⟩ | ⟨ad, len, cap, A, L, C, Z, hcs, _, hl, hm, hx, hr⟩
  · simp [Value.cells] at hcs
    obtain ⟨rfl, rfl, rfl⟩ := hcs
    exact ⟨none, 0, 0, [], rfl, rfl, .inl rfl, fun b off e => by cases e⟩
  · simp [Value.cells] at hcs
    obtain ⟨rfl, rfl, rfl⟩ := hcs
    refine ⟨some ad, l0, c0, (List.range l0).map fun r => ((Z r).take (L r)).map toF, rfl, by simp, ?_, ?_⟩
    · by_cases h0 : l0 = 0
      · left; simp [h0]
      · right
        obtain ⟨b, off, rfl⟩ := addr_off (hr 0 (by omega)).1
        refine ⟨b, off, rfl, fun j xs hj => ?_⟩
        have hjl : j < l0 := by have := (List.getElem?_eq_some_iff.1 hj).1; simpa using this
        rw [List.getElem?_map, List.getElem?_range hjl] at hj
        obtain rfl := Option.some.inj hj
        obtain ⟨h1, h2, h3, h4, h5, h6, h7⟩ := hr j (by omega)
        rw [add_off] at h1
        have hlen : (((Z j).take (L j)).map toF).length = L j := by rw [List.length_map, List.length_take]; omega
        refine ⟨A j, C j, by rw [hlen]; exact h1, ?_⟩
        by_cases hL0 : L j = 0
        · left; simp [hL0]
        · right
          cases hA : A j with
          | none => have := h6 hA; omega
          | some ad' =>
            obtain ⟨_, h8⟩ := h7 ad' hA
            obtain ⟨b', off', rfl⟩ := addr_off (h8 0 (by omega))
            refine ⟨b', off', rfl, fun i hi => ?_⟩
            rw [hlen] at hi
            have hc := h8 i (by omega)
            rw [add_off] at hc
            rw [hc]
            have hb := bounds_u8 (h5 ((Z j).getD i 0) (by rw [getD_get _ _ _ (by omega)]; exact List.getElem_mem _))
            have e : ((at8 (((Z j).take (L j)).map toF) i).toNat : Int) = (Z j).getD i 0 := by
              unfold at8
              rw [getD_get _ _ _ (by rw [hlen]; exact hi)]
              simp only [List.getElem_map, List.getElem_take]
              rw [getD_get _ _ _ (by omega)] at hb ⊢
              exact val_toF hb.1 hb.2
            rw [e]
    · intro b off e j n a' cap' hc hj ha
      simp only [List.length_map, List.length_range] at hj
      obtain ⟨h1, h2, h3, h4, h5, h6, h7⟩ := hr j (by omega)
      obtain rfl := Option.some.inj e
      rw [add_off, hc] at h1
      simp only [Option.some.injEq, Value.slice.injEq] at h1
      obtain ⟨e1, _, e3⟩ := h1
      rw [e3]; exact h6 (by rw [← e1]; exact ha)
theorem bytesInt : Tryd.prog.bytesOf 3 = 8 := by kernel_rfl
theorem openInts {H : Type} {enc : TypeId × Value → H} {W : World} {v : Value} {d : DataW H} {p : List MemPlace} {base : Nat} {ts : List TypeId} {ds : List (DataW H)} {j : Nat}
    (hv : Value.okWide Tryd.prog W .any base 22 v) (h : DataW.Trod enc Tryd.prog W 0 (fun _ => true) true 22 v d p)
    (hsz : (DataW.weightsEach Tryd.prog ts ds).all (· ≤ reachBytes) = true) (ht : ts[j]? = some 22) (hd : ds[j]? = some d) :
    ∃ a l cap ns, v = .slice a l cap ∧ l = List.length ns ∧ RowI W a ns ∧ l ≤ cap ∧ cap ≤ 17592186043904 ∧ (a = none → cap = 0) ∧ ∀ n ∈ ns, -9223372036854775808 ≤ n ∧ n ≤ 9223372036854775807 := by
  obtain ⟨fuel, hf⟩ := h
  obtain ⟨a0, l0, c0, rfl⟩ := okWide_slice Tryd.underlying22 hv
  rcases open_ints Tryd.underlying22 Tryd.underlying3 cellsInt hf with ⟨hcs, hx⟩ | ⟨ad, l, c, zs, hcs, _, hl, hm, hz, hx, hcell, hwz⟩
  · simp [Value.cells] at hcs
    obtain ⟨rfl, rfl, rfl⟩ := hcs
    exact ⟨none, 0, 0, [], rfl, rfl, .inl rfl, Nat.le_refl _, by omega, fun _ => rfl, fun n hn => by cases hn⟩
  · simp [Value.cells] at hcs
    obtain ⟨rfl, rfl, rfl⟩ := hcs
    have hz' : zs.length = c0 := by simpa using hz
    have hcap : c0 ≤ 17592186043904 := by
      have hw : ∀ n ∈ DataW.weights Tryd.prog 22 d, n ≤ reachBytes := fun n hn => by simpa using List.all_eq_true.1 hsz _ (DataW.weights_mem_each ht hd n hn)
      simp only [Prod.mk.injEq] at hx
      rw [hx.1] at hw
      have := hw (((lits .i64 (zs.take l0) : List (DataW H)).length + (lits .i64 (zs.drop l0) : List (DataW H)).length) * Tryd.prog.bytesOf 3) (by simp [DataW.weights, Tryd.underlying22])
      rw [bytesInt] at this
      simp only [reachBytes, lits, List.length_map, List.length_take, List.length_drop] at this
      omega
    refine ⟨some ad, l0, c0, zs.take l0, rfl, by rw [List.length_take]; omega, ?_, hl, hcap, (fun e => by cases e), fun n hn => bounds_i64 (hwz n (List.mem_of_mem_take hn))⟩
    by_cases h0 : l0 = 0
    · left; simp [h0]
    · right
      obtain ⟨b, off, rfl⟩ := addr_off (hcell 0 (by omega))
      refine ⟨b, off, rfl, fun j m hj => ?_⟩
      have hjl : j < l0 := by have := (List.getElem?_eq_some_iff.1 hj).1; rw [List.length_take] at this; omega
      have hc := hcell j (by omega)
      rw [add_off] at hc
      rw [hc]
      rw [List.getElem?_take_of_lt hjl] at hj
      rw [List.getD_eq_getElem?_getD, hj]; rfl
end Go.Proofs.YtbjjmlebpohmcaaDoor

/- How parameters, a number and two lists of numbers come in; facts for the frames of the laws; nothing of the program is proved here. -/
namespace Go.Proofs.YtbjjmlebpohmcaaDoor
open Go.ChangeShapes Go.WideShapes Go.ChangeAt Go.RowKit Gf Go.Joins
set_option linter.unusedVariables false
set_option maxRecDepth 20000
theorem array5 {α : Type} {cs : Array α} (h : cs.size = 5) : ∃ c0 c1 c2 c3 c4, cs = #[c0, c1, c2, c3, c4] := by
  obtain ⟨l⟩ := cs
  match l, h with
  | [c0, c1, c2, c3, c4], _ => exact ⟨c0, c1, c2, c3, c4, rfl⟩
theorem open_agg5 {H : Type} {enc : TypeId × Value → H} {P : Program} {w : World} {base : Nat} {spare : Nat → Bool} {held : Bool} {r : Reach} {b0 : Nat} {t : TypeId} {f0 f1 f2 f3 f4 : Field} {v : Value} {d : DataW H} {p : List MemPlace} (hs : P.underlying t = some (.struct #[f0, f1, f2, f3, f4])) (hone : Go.Deep.oneCellFields P #[f0, f1, f2, f3, f4] = true) (hC : P.cellsOf t = 5)
    (hv : Value.okWide P w r b0 t v) (h : DataW.Trod enc P w base spare held t v d p) :
    ∃ (v0 v1 v2 v3 v4 : Value) (y0 y1 y2 y3 y4 : DataW H × List MemPlace) (n : Nat), v = .agg #[v0, v1, v2, v3, v4] ∧ d = .agg [y0.1, y1.1, y2.1, y3.1, y4.1] ∧
      DataW.trod enc P w base spare held n f0.type [v0] = some y0 ∧ DataW.trod enc P w base spare held n f1.type [v1] = some y1 ∧ DataW.trod enc P w base spare held n f2.type [v2] = some y2 ∧ DataW.trod enc P w base spare held n f3.type [v3] = some y3 ∧ DataW.trod enc P w base spare held n f4.type [v4] = some y4 := by
  obtain ⟨cs, rfl, hsz⟩ := okWide_struct hs hv
  obtain ⟨c0, c1, c2, c3, c4, rfl⟩ := array5 (hsz.trans hC)
  obtain ⟨fuel, hf⟩ := h
  obtain ⟨xs, n, _, hx, hl, hlen, hel⟩ := DataW.trod_struct hs hf
  match xs, hlen with
  | [y0, y1, y2, y3, y4], _ =>
    obtain ⟨o0, k0⟩ := Go.Deep.hone_of hone 0 f0 rfl
    obtain ⟨o1, k1⟩ := Go.Deep.hone_of hone 1 f1 rfl
    obtain ⟨o2, k2⟩ := Go.Deep.hone_of hone 2 f2 rfl
    obtain ⟨o3, k3⟩ := Go.Deep.hone_of hone 3 f3 rfl
    obtain ⟨o4, k4⟩ := Go.Deep.hone_of hone 4 f4 rfl
    have h0 := hel 0 f0 rfl
    have h1 := hel 1 f1 rfl
    have h2 := hel 2 f2 rfl
    have h3 := hel 3 f3 rfl
    have h4 := hel 4 f4 rfl
    simp only [Prod.mk.injEq] at hx
    exact ⟨c0, c1, c2, c3, c4, y0, y1, y2, y3, y4, n, rfl, by rw [hx.1]; rfl, by simpa [Value.cells, o0, k0] using h0, by simpa [Value.cells, o1, k1] using h1, by simpa [Value.cells, o2, k2] using h2, by simpa [Value.cells, o3, k3] using h3, by simpa [Value.cells, o4, k4] using h4⟩
/-- a list of numbers, as one cell -/
theorem openInts_cell {H : Type} {enc : TypeId × Value → H} {W : World} {v : Value} {y : DataW H × List MemPlace} {n : Nat}
    (h : DataW.trod enc Tryd.prog W 0 (fun _ => true) true n 22 [v] = some y) (hw : ∀ n ∈ DataW.weights Tryd.prog 22 y.1, n ≤ reachBytes) :
    ∃ a l cap ns, v = .slice a l cap ∧ l = List.length ns ∧ RowI W a ns ∧ l ≤ cap ∧ cap ≤ 17592186043904 ∧ (a = none → cap = 0) ∧ ∀ n ∈ ns, -9223372036854775808 ≤ n ∧ n ≤ 9223372036854775807 := by
  rcases open_ints Tryd.underlying22 Tryd.underlying3 cellsInt h with ⟨hcs, hx⟩ | ⟨ad, l, c, zs, hcs, _, hl, hm, hz, hx, hcell, hwz⟩
  · simp at hcs
    subst hcs
    exact ⟨none, 0, 0, [], rfl, rfl, .inl rfl, Nat.le_refl _, by omega, fun _ => rfl, fun n hn => by cases hn⟩
  · simp at hcs
    subst hcs
    have hz' : zs.length = c := by simpa using hz
    have hcap : c ≤ 17592186043904 := by
      rw [hx] at hw
      have := hw (((lits .i64 (zs.take l) : List (DataW H)).length + (lits .i64 (zs.drop l) : List (DataW H)).length) * Tryd.prog.bytesOf 3) (by simp [DataW.weights, Tryd.underlying22])
      rw [bytesInt] at this
      simp only [reachBytes, lits, List.length_map, List.length_take, List.length_drop] at this
      omega
    refine ⟨some ad, l, c, zs.take l, rfl, by rw [List.length_take]; omega, ?_, hl, hcap, (fun e => by cases e), fun n hn => bounds_i64 (hwz n (List.mem_of_mem_take hn))⟩
    by_cases h0 : l = 0
    · left; simp [h0]
    · right
      obtain ⟨b, off, rfl⟩ := addr_off (hcell 0 (by omega))
      refine ⟨b, off, rfl, fun j m hj => ?_⟩
      have hjl : j < l := by have := (List.getElem?_eq_some_iff.1 hj).1; rw [List.length_take] at this; omega
      have hc := hcell j (by omega)
      rw [add_off] at hc
      rw [hc]
      rw [List.getElem?_take_of_lt hjl] at hj
      rw [List.getD_eq_getElem?_getD, hj]; rfl
end Go.Proofs.YtbjjmlebpohmcaaDoor

/- How a list of lists of bytes comes in, with the bounds of its rooms: facts for the frames of the laws; nothing of the program is proved here. -/
namespace Go.Proofs.YtbjjmlebpohmcaaDoor
open Go.ChangeShapes Go.WideShapes Go.ChangeAt Go.RowKit Gf Go.Joins
set_option linter.unusedVariables false
set_option maxRecDepth 20000
/-- a list of rows in memory, the rooms bounded -/
def RowsB (w : World) (a : Option Addr) (L : List (List F)) : Prop :=
  L = [] ∨ ∃ b off, a = some ⟨b, off, none⟩ ∧ ∀ j xs, L[j]? = some xs → ∃ a' cap', w.cell? ⟨b, off + j, none⟩ = some (.slice a' xs.length cap') ∧ Row8 w a' xs ∧ xs.length ≤ cap' ∧ cap' ≤ 140737488351232 ∧ (a' = none → cap' = 0)
theorem rowsB_rows {w : World} {a : Option Addr} {L : List (List F)} (h : RowsB w a L) : Rows8 w a L :=
  h.imp id fun ⟨b, off, e, h⟩ => ⟨b, off, e, fun j xs hj => by
    obtain ⟨a', cap', h1, h2, _⟩ := h j xs hj
    exact ⟨a', cap', h1, h2⟩⟩
theorem bytesSl : Tryd.prog.bytesOf 31 = 24 := by kernel_rfl
theorem weightsAll_in {H : Type} {P : Program} {e : TypeId} : ∀ {l : List (DataW H)} {d : DataW H}, d ∈ l → ∀ n ∈ d.weights P e, n ∈ DataW.weightsAll P e l
  | [], d, hd, _, _ => by cases hd
  | x :: l, d, hd, n, hn => by
    simp only [DataW.weightsAll, List.mem_append]
    rcases List.mem_cons.1 hd with rfl | h
    · exact .inl hn
    · exact .inr (weightsAll_in h n hn)
theorem openRowsB {H : Type} {enc : TypeId × Value → H} {W : World} {v : Value} {d : DataW H} {p : List MemPlace} {base : Nat} {ts : List TypeId} {ds : List (DataW H)} {j : Nat}
    (hv : Value.okWide Tryd.prog W .any base 58 v) (h : DataW.Trod enc Tryd.prog W 0 (fun _ => true) true 58 v d p)
    (hsz : (DataW.weightsEach Tryd.prog ts ds).all (· ≤ reachBytes) = true) (ht : ts[j]? = some 58) (hd : ds[j]? = some d) :
    ∃ a l cap L, v = .slice a l cap ∧ l = List.length L ∧ RowsB W a L ∧ l ≤ 5864062014634 := by
  obtain ⟨fuel, hf⟩ := h
  obtain ⟨a0, l0, c0, rfl⟩ := okWide_slice Tryd.underlying58 hv
  have hw : ∀ n ∈ DataW.weights Tryd.prog 58 d, n ≤ reachBytes := fun n hn => by simpa using List.all_eq_true.1 hsz _ (DataW.weights_mem_each ht hd n hn)
  rcases Deep.open_int_rows Tryd.underlying58 Tryd.underlying31 Tryd.underlying5 cellsSl cellsU8 hf with ⟨hcs, hx⟩ | ⟨ad, len, cap, A, L, C, Z, hcs, _, hl, hm, hx, hr⟩
  · simp [Value.cells] at hcs
    obtain ⟨rfl, rfl, rfl⟩ := hcs
    exact ⟨none, 0, 0, [], rfl, rfl, .inl rfl, by omega⟩
  · simp [Value.cells] at hcs
    obtain ⟨rfl, rfl, rfl⟩ := hcs
    simp only [Prod.mk.injEq] at hx
    rw [hx.1] at hw
    simp only [DataW.weights, Tryd.underlying58] at hw
    have hl9 : l0 ≤ 5864062014634 := by
      have := hw _ (List.mem_cons_self ..)
      rw [bytesSl] at this
      simp only [reachBytes, List.length_map, List.length_range] at this
      omega
    have hC : ∀ r, r < l0 → A r ≠ none → C r ≤ 140737488351232 := fun r hrl hne => by
      obtain ⟨_, _, _, h4, _⟩ := hr r (by omega)
      cases hA : A r with
      | none => exact absurd hA hne
      | some a9 =>
        have hmem : (Deep.intRow (H := H) .u8 (A r) (L r) (Z r)) ∈ (List.range l0).map fun r => Deep.intRow (H := H) .u8 (A r) (L r) (Z r) := List.mem_map.2 ⟨r, List.mem_range.2 hrl, rfl⟩
        have h9 := hw (((lits .u8 ((Z r).take (L r)) : List (DataW H)).length + (lits .u8 ((Z r).drop (L r)) : List (DataW H)).length) * Tryd.prog.bytesOf 5)
          (List.mem_cons_of_mem _ (List.mem_append_left _ (weightsAll_in hmem _ (by simp [Deep.intRow, hA, DataW.weights, Tryd.underlying31]))))
        rw [bytes8] at h9
        simp only [reachBytes, lits, List.length_map, List.length_take, List.length_drop] at h9
        omega
    refine ⟨some ad, l0, c0, (List.range l0).map fun r => ((Z r).take (L r)).map toF, rfl, by simp, ?_, hl9⟩
    by_cases h0 : l0 = 0
    · left; simp [h0]
    · right
      obtain ⟨b, off, rfl⟩ := addr_off (hr 0 (by omega)).1
      refine ⟨b, off, rfl, fun j xs hj => ?_⟩
      have hjl : j < l0 := by have := (List.getElem?_eq_some_iff.1 hj).1; simpa using this
      rw [List.getElem?_map, List.getElem?_range hjl] at hj
      obtain rfl := Option.some.inj hj
      obtain ⟨h1, h2, h3, h4, h5, h6, h7⟩ := hr j (by omega)
      rw [add_off] at h1
      have hlen : (((Z j).take (L j)).map toF).length = L j := by rw [List.length_map, List.length_take]; omega
      refine ⟨A j, C j, by rw [hlen]; exact h1, ?_, by rw [hlen]; exact h2, ?_, h6⟩
      · by_cases hL0 : L j = 0
        · left; simp [hL0]
        · right
          cases hA : A j with
          | none => have := h6 hA; omega
          | some ad' =>
            obtain ⟨_, h8⟩ := h7 ad' hA
            obtain ⟨b', off', rfl⟩ := addr_off (h8 0 (by omega))
            refine ⟨b', off', rfl, fun i hi => ?_⟩
            rw [hlen] at hi
            have hc := h8 i (by omega)
            rw [add_off] at hc
            rw [hc]
            have hb := bounds_u8 (h5 ((Z j).getD i 0) (by rw [getD_get _ _ _ (by omega)]; exact List.getElem_mem _))
            have e : ((at8 (((Z j).take (L j)).map toF) i).toNat : Int) = (Z j).getD i 0 := by
              unfold at8
              rw [getD_get _ _ _ (by rw [hlen]; exact hi)]
              simp only [List.getElem_map, List.getElem_take]
              rw [getD_get _ _ _ (by omega)] at hb ⊢
              exact val_toF hb.1 hb.2
            rw [e]
      · by_cases hA : A j = none
        · have := h6 hA; omega
        · exact hC j hjl hA
end Go.Proofs.YtbjjmlebpohmcaaDoor

/- How a program, and a step, come in; facts for the frames of the laws; nothing of the program is proved here. -/
namespace Go.Proofs.YtbjjmlebpohmcaaDoor
open Go.ChangeShapes Go.WideShapes Go.ChangeAt Go.RowKit Gf Go.Joins
set_option linter.unusedVariables false
set_option maxRecDepth 20000
theorem cellsSt : Tryd.prog.cellsOf 48 = 4 := by kernel_rfl
theorem bytesSt : Tryd.prog.bytesOf 48 = 32 := by kernel_rfl
theorem cellsPr : Tryd.prog.cellsOf 25 = 4 := by kernel_rfl
theorem add_add9 {b off j q : Nat} : ((⟨b, off, none⟩ : Addr).add j).add q = ⟨b, off + j + q, none⟩ := by rw [add_off, add_off]
/-- a step's numbers are in their bounds -/
def StB (s : Stp) : Prop := (-9223372036854775808 ≤ s.op ∧ s.op ≤ 9223372036854775807) ∧ (-9223372036854775808 ≤ s.dst ∧ s.dst ≤ 9223372036854775807) ∧ (-9223372036854775808 ≤ s.src ∧ s.src ≤ 9223372036854775807)
theorem openStep {H : Type} {enc : TypeId × Value → H} {W : World} {cs : List Value} {y : DataW H × List MemPlace} {n : Nat}
    (h : DataW.trod enc Tryd.prog W 0 (fun _ => true) true n 48 cs = some y) :
    ∃ s : Stp, cs = stpL s ∧ StB s := by
  obtain ⟨y0, y1, y2, y3, n', hy, hl, e0, e1, e2, e3⟩ := trod_struct4 Tryd.underlying48 h
  rw [cellsSt] at hl
  match cs, hl with
  | [v0, v1, v2, v3], _ =>
    have k0 : Tryd.prog.cellsOf 3 = 1 := cellsInt
    have k1 : Tryd.prog.cellsOf 5 = 1 := by kernel_rfl
    simp only [k0, k1, List.drop_zero, List.drop_succ_cons, List.take_succ_cons, List.take_zero] at e0 e1 e2 e3
    obtain ⟨a, s0, _, w0⟩ := DataW.trod_int Tryd.underlying3 e0
    obtain ⟨b, s1, _, w1⟩ := DataW.trod_int Tryd.underlying3 e1
    obtain ⟨c, s2, _, w2⟩ := DataW.trod_int Tryd.underlying3 e2
    obtain ⟨d, s3, _, w3⟩ := DataW.trod_int Tryd.underlying5 e3
    obtain ⟨f, rfl⟩ := exists_F (bounds_u8 w3).1 (bounds_u8 w3).2
    simp only [List.cons.injEq, and_true] at s0 s1 s2 s3
    subst s0 s1 s2 s3
    exact ⟨⟨a, b, c, f⟩, rfl, bounds_i64 w0, bounds_i64 w1, bounds_i64 w2⟩
theorem openSteps_cell {H : Type} {enc : TypeId × Value → H} {W : World} {v : Value} {y : DataW H × List MemPlace} {n : Nat}
    (h : DataW.trod enc Tryd.prog W 0 (fun _ => true) true n 23 [v] = some y) (hw : ∀ n ∈ DataW.weights Tryd.prog 23 y.1, n ≤ reachBytes) :
    ∃ a l cap ss, v = .slice a l cap ∧ l = List.length ss ∧ StpW W a ss ∧ l ≤ cap ∧ cap ≤ 4398046510976 ∧ (a = none → cap = 0) ∧ ∀ s ∈ ss, StB s := by
  rcases DataW.trod_slice Tryd.underlying23 h with ⟨hcs, hx⟩ | ⟨ad, len, cap, elems, rest, n', _, hcs, hx, _, hlc, hcm, hel, hcell, hrest, _⟩
  · simp only [List.cons.injEq, and_true] at hcs
    exact ⟨none, 0, 0, [], hcs, rfl, .inl rfl, Nat.le_refl _, by omega, fun _ => rfl, fun s h => by cases h⟩
  · simp only [List.cons.injEq, and_true] at hcs
    subst hcs
    obtain ⟨hrl, _⟩ := hrest rfl
    rw [hx] at hw
    simp only [DataW.weights, Tryd.underlying23] at hw
    have hcap : cap ≤ 4398046510976 := by
      have := hw _ (List.mem_cons_self ..)
      rw [bytesSt] at this
      simp only [reachBytes, List.length_map] at this
      omega
    have hone : ∀ i, i < len → ∃ s : Stp, W.cells? 0 (ad.add (i * 4)) 4 = some (stpL s) ∧ StB s := fun i hi => by
      have h1 := hcell i hi
      rw [cellsSt, List.getElem?_eq_getElem (by omega)] at h1
      obtain ⟨cs, h2, h3⟩ := Option.bind_eq_some_iff.1 h1
      obtain ⟨s, e, r⟩ := openStep h3
      subst e
      exact ⟨s, h2, r⟩
    have hch : ∀ i : Nat, ∃ s : Stp, i < len → W.cells? 0 (ad.add (i * 4)) 4 = some (stpL s) ∧ StB s := fun i => by
      by_cases hi : i < len
      · obtain ⟨s, q⟩ := hone i hi
        exact ⟨s, fun _ => q⟩
      · exact ⟨⟨0, 0, 0, 0⟩, fun h => absurd h hi⟩
    obtain ⟨f, hf⟩ := Classical.axiomOfChoice hch
    refine ⟨some ad, len, cap, (List.range len).map f, rfl, by simp, ?_, hlc, hcap, (fun e => by cases e), fun s hs => by obtain ⟨i, hi, rfl⟩ := List.mem_map.1 hs; exact (hf i (List.mem_range.1 hi)).2⟩
    by_cases h0 : len = 0
    · left; simp [h0]
    · right
      have hc0 := (hf 0 (by omega)).1
      have hc1 := (World.cells?_some hc0).2.2 0 (by omega)
      rw [Nat.zero_mul] at hc1
      obtain ⟨b, off, rfl⟩ : ∃ b off, ad = ⟨b, off, none⟩ := addr_off (v := .int .i64 (f 0).op) (by
        have : (ad.add 0).add 0 = ad.add 0 := by unfold Addr.add; simp
        rw [← this]; exact hc1)
      refine ⟨b, off, rfl, fun j s hj => ?_⟩
      have hjl : j < len := by have := (List.getElem?_eq_some_iff.1 hj).1; simpa using this
      rw [List.getElem?_map, List.getElem?_range hjl] at hj
      have hfj : f j = s := Option.some.inj hj
      have hc := (hf j hjl).1
      rw [hfj] at hc
      have hq := (World.cells?_some hc).2.2
      have q0 := hq 0 (by omega)
      have q1 := hq 1 (by omega)
      have q2 := hq 2 (by omega)
      have q3 := hq 3 (by omega)
      rw [add_add9] at q0 q1 q2 q3
      exact ⟨q0, q1, q2, q3⟩
theorem openProg {H : Type} {enc : TypeId × Value → H} {W : World} {v : Value} {d : DataW H} {p : List MemPlace} {base : Nat} {ts : List TypeId} {ds : List (DataW H)} {j : Nat}
    (hv : Value.okWide Tryd.prog W .any base 25 v) (h : DataW.Trod enc Tryd.prog W 0 (fun _ => true) true 25 v d p)
    (hsz : (DataW.weightsEach Tryd.prog ts ds).all (· ≤ reachBytes) = true) (ht : ts[j]? = some 25) (hd : ds[j]? = some d) :
    ∃ (ia oa sa : Option Addr) (il ic ol oc sl sc : Nat) (rg : Int) (ins outs : List Int) (ss : List Stp), v = .agg #[.slice ia il ic, .slice oa ol oc, .int .i64 rg, .slice sa sl sc] ∧
      (-9223372036854775808 ≤ rg ∧ rg ≤ 9223372036854775807) ∧ PrgW W ia oa sa il ic ol oc sl sc ins outs ss ∧ ic ≤ 17592186043904 ∧ oc ≤ 17592186043904 ∧ sc ≤ 4398046510976 := by
  obtain ⟨v0, v1, v2, v3, y0, y1, y2, y3, n', rfl, rfl, _, e0, e1, e2, e3⟩ := open_agg4 Tryd.underlying25 (by kernel_rfl) cellsPr hv h
  obtain ⟨rg, s2, _, w2⟩ := DataW.trod_int Tryd.underlying3 e2
  have hw : ∀ n ∈ DataW.weights Tryd.prog 25 (.agg [y0.1, y1.1, y2.1, y3.1]), n ≤ reachBytes := fun n hn => by
    simpa using List.all_eq_true.1 hsz _ (DataW.weights_mem_each ht hd n hn)
  simp only [DataW.weights, Tryd.underlying25] at hw
  obtain ⟨ia, il, ic, ins, s0, q1, q2, q3, q4, q5, _⟩ := openInts_cell e0 (fun n hn => hw n (by simp [DataW.weightsEach, hn]))
  obtain ⟨oa, ol, oc, outs, s1, o1, o2, o3, o4, o5, _⟩ := openInts_cell e1 (fun n hn => hw n (by simp [DataW.weightsEach, hn]))
  obtain ⟨sa, sl, sc, ss, s3, t1, t2, t3, t4, t5, _⟩ := openSteps_cell e3 (fun n hn => hw n (by simp [DataW.weightsEach, hn]))
  simp only [List.cons.injEq, and_true] at s2
  subst s0 s1 s2 s3
  exact ⟨ia, oa, sa, il, ic, ol, oc, sl, sc, rg, ins, outs, ss, rfl, bounds_i64 w2, ⟨q1, o1, t1, by omega, by omega, by omega, q3, o3, t3, q5, o5, t5, q2, o2, t2⟩, q4, o4, t4⟩
end Go.Proofs.YtbjjmlebpohmcaaDoor

/- The errors' variables, by the rows' condition, where tables stand ahead of them; nothing of the program is proved here. -/
namespace Go.Proofs.YtbjjmlebpohmcaaDoor
open Go.RowKit Gf
set_option linter.unusedVariables false
set_option maxRecDepth 20000
theorem laidMet_drop {P : Program} {w : World} : ∀ (n : Nat) (laid : List (String × DataW Unit)), laidMet P laid w → laidMet P (laid.drop n) w
  | 0, _, h => h
  | n + 1, [], h => h
  | n + 1, _ :: r, h => laidMet_drop n r h.tail
theorem errs_of_laid_drop {W : World} {laid : List (String × DataW Unit)} {gs : List Nat} (n : Nat) (h : laidMetH Tryd.prog laid W) (hp : (laid.all fun x => x.2.handleName?.isNone) = true)
    (hn : (laid.drop n).map (fun x => Tryd.prog.globalNamed x.1) = gs.map some) (ht : ∀ g ∈ gs, (Tryd.prog.globals[g]?).map (·.type) = some 29) (hd : ∀ x ∈ laid.drop n, ∃ text, x.2 = errD text) : ∃ es, ErrsAt W gs es := by
  rw [MakeChecks.laidMetH_plain _ _ _ hp] at h
  have hp2 : ((laid.drop n).all fun x => x.2.handleName?.isNone) = true := List.all_eq_true.2 fun x hx => List.all_eq_true.1 hp x (List.mem_of_mem_drop hx)
  have h2 : laidMetH Tryd.prog (laid.drop n) W := by
    rw [MakeChecks.laidMetH_plain _ _ _ hp2]
    exact laidMet_drop n laid h
  exact errs_of_laid h2 hp2 hn ht hd
end Go.Proofs.YtbjjmlebpohmcaaDoor

/- What the rows' conditions say of the table of powers and of the errors, for the statements of stage 9; nothing of the program is proved here. -/
namespace Go.Proofs.YtbjjmlebpohmcaaDoor
open Go.RowKit Gf
set_option linter.unusedVariables false
set_option maxRecDepth 20000
theorem tab_of_laid {W : World} {laid rest : List (String × DataW Unit)} (n : Nat) (h : laidMetH Tryd.prog laid W) (hp : (laid.all fun x => x.2.handleName?.isNone) = true)
    (hd : laid.drop n = ("internal/strconv.uint64pow10", Lib.tabData .u64 Lib.pow10Tab) :: rest) : TabW W := by
  rw [MakeChecks.laidMetH_plain _ _ _ hp] at h
  have h2 := laidMet_drop n laid h
  rw [hd] at h2
  exact Lib.tabIs_of_head (g := 3) (t := 125) (e := 115) (n := 20) (by kernel_rfl) (by kernel_rfl) Tryd.underlying125 Tryd.underlying115 (by kernel_rfl) (by kernel_rfl) h2
def gsProg : List Nat := [1, 0]
def ofProg (es : List Addr) : Addr := es.getD 1 ⟨0, 0, none⟩
theorem envP_of {w : World} {es : List Addr} (h : ErrsAt w gsProg es) (ht : TabW w) : EnvP w (ofProg es) := by
  have hl : es.length = 2 := h.1.symm
  match es, hl with
  | [a, b], _ => exact ⟨(h.2.2 1 _ b rfl rfl).1, ht⟩
end Go.Proofs.YtbjjmlebpohmcaaDoor

/- What At of package mat answers, of all matrices and places; nothing that was there turns. -/
namespace Go.Proofs.YtbjjmlebpohmcaaDoor
open Go.RowKit Gf
set_option linter.unusedVariables false
set_option maxRecDepth 20000
end Go.Proofs.YtbjjmlebpohmcaaDoor

/- What the statements' own look at two lists' memory answers: true where they lie apart; the second list is written over. -/
namespace Go.Proofs.YtbjjmlebpohmcaaDoor
open Go.RowKit Gf
set_option linter.unusedVariables false
set_option maxRecDepth 20000
/-- a byte with 85 added -/
def fl (x : F) : F := ga x 85
/-- the first k bytes turned -/
def flTo (xs : List F) (k : Nat) : List F := (xs.take k).map fl ++ xs.drop k
theorem flTo_len (xs : List F) (k : Nat) : (flTo xs k).length = xs.length := by simp [flTo]; omega
theorem flTo_zero (xs : List F) : flTo xs 0 = xs := by simp [flTo]
theorem flTo_all (xs : List F) : flTo xs xs.length = xs.map fl := by simp [flTo]
theorem flTo_at (xs : List F) (k : Nat) : at8 (flTo xs k) k = at8 xs k := by
  simp only [at8, flTo, List.getD_eq_getElem?_getD]
  by_cases h : k < xs.length
  · rw [List.getElem?_append_right (by simp; omega), List.length_map, List.length_take, List.getElem?_drop]
    congr 2; omega
  · rw [List.getElem?_eq_none (by simp; omega), List.getElem?_eq_none (by omega)]
theorem flTo_succ (xs : List F) (k : Nat) (h : k < xs.length) : (flTo xs k).set k (fl (at8 xs k)) = flTo xs (k + 1) := by
  apply list_ext8
  · simp [flTo_len]
  · intro j
    simp only [at8, flTo, List.getD_eq_getElem?_getD, List.getElem?_set, List.length_append, List.length_map, List.length_take, List.length_drop]
    by_cases hj : k = j
    · subst hj
      rw [if_pos rfl, if_pos (by omega), List.getElem?_append_left (by simp; omega)]
      simp [h]
    · rw [if_neg hj]
      by_cases hlt : j < k
      · rw [List.getElem?_append_left (by simp; omega), List.getElem?_append_left (by simp; omega)]
        simp [hlt, show j < k + 1 from by omega]
      · rw [List.getElem?_append_right (by simp; omega), List.getElem?_append_right (by simp; omega)]
        simp only [List.length_map, List.length_take, List.getElem?_drop]
        congr 2; omega
theorem fl_val (x : F) : bits .xor .u8 (x.toNat : Int) 85 = ((fl x).toNat : Int) := xor_val x 85
theorem append8_grows {w : World} {g n cap : Nat} {xs ys : List F} {ad : Addr} {m c : Nat} (ty : TypeId) (hx : Row8 w (some ⟨g, 0, none⟩) xs) (hn : n = xs.length) (hm : m = ys.length) (hcap : cap < n + m) (hb : n + m ≤ 140737488355328)
    (hy : ∀ j, j < ys.length → w.cell? (ad.add j) = some (.int .u8 ((at8 ys j).toNat : Int))) :
    ∃ g' cap' w', (Builtin.append_ #[31, 31] ty #[.slice (some ⟨g, 0, none⟩) n cap, .slice (some ad) m c]).run Tryd.prog w = .ok (.slice (some ⟨g', 0, none⟩) (n + m) cap') w' ∧
      Has8 w' g' (xs ++ ys) cap' ∧ w.grownBy w' none ∧ w.heap.size ≤ g' := by
  subst hn hm
  obtain ⟨i, hi, h1, h2, h3⟩ := info8
  obtain ⟨v', w', hrun, ho, hgr⟩ := run_append_arg_grows (P := Tryd.prog) w 31 ty 5 i _ 1 1 Tryd.underlying31 hi h3 h1 h2 rfl (by decide)
    ⟨g, 0, none⟩ xs.length cap (xs.map vf) (by simp) (fun j v hv => by
      simp only [List.getElem?_map, Option.map_eq_some_iff] at hv
      obtain ⟨x, hx1, rfl⟩ := hv
      have hj : j < xs.length := (List.getElem?_eq_some_iff.1 hx1).1
      have e : at8 xs j = x := by simp [at8, hx1]
      rcases hx with e' | ⟨b, off, e', hx⟩
      · rw [e'] at hj; simp at hj
      · cases e'
        have hadd : (⟨g, 0, none⟩ : Addr).add j = ⟨g, 0 + j, none⟩ := by unfold Addr.add; split <;> simp_all
        rw [hadd, hx j hj, e]; rfl)
    ad ys.length c (ys.map vf) (by simp) (fun j v hv => by
      simp only [List.getElem?_map, Option.map_eq_some_iff] at hv
      obtain ⟨x, hx1, rfl⟩ := hv
      have hj : j < ys.length := (List.getElem?_eq_some_iff.1 hx1).1
      have e : at8 ys j = x := by simp [at8, hx1]
      rw [hy j hj, e]; rfl) hcap (by simp only [maxLen]; omega) (by omega)
  rcases ho.2 with ⟨hv, h0⟩ | ⟨g', cap', cur', hv, hge, hg', hl', hm', hs', ht'⟩
  · omega
  · subst hv
    refine ⟨g', cap', w', hrun, ⟨cur', hg', by omega, by simpa using hl', hm', ?_⟩, hgr, hge⟩
    rw [List.length_append, List.map_append, ← ht', Nat.mul_one]
theorem has8_set {w : World} {g cap j : Nat} {xs : List F} (h : Has8 w g xs cap) (hj : j < xs.length) (x : F) : Has8 (w.setCell ⟨g, j, none⟩ (.int .u8 (x.toNat : Int))) g (xs.set j x) cap := by
  obtain ⟨cur, hg, hs, hl, hm, ht⟩ := h
  refine ⟨_, heap_setCell_same _ _ _ _ _ _ hg, by simpa using hs, by simpa using hl, hm, ?_⟩
  rw [List.length_set, Array.toList_setIfInBounds, List.take_set, ht, List.map_set]
  rfl
theorem has8_cell {w : World} {g cap j : Nat} {xs : List F} (h : Has8 w g xs cap) (hj : j < xs.length) : w.cell? ⟨g, j, none⟩ = some (.int .u8 ((at8 xs j).toNat : Int)) ∧ w.frozen? ⟨g, j, none⟩ = false := by
  have hr := row8_has h
  obtain ⟨cur, hg, _⟩ := h
  refine ⟨?_, frozen_of_row _ _ _ _ _ hg⟩
  rcases hr with e | ⟨b, off, e, hr⟩
  · rw [e] at hj; simp at hj
  · cases e
    simpa using hr j hj
theorem grownBy_refl (w : World) (r : Option Nat) : w.grownBy w r := ⟨rfl, rfl, rfl, Nat.le_refl _, fun _ _ _ => rfl⟩
theorem grownBy_trans {a b c : World} {r s : Option Nat} (h : a.grownBy b r) (k : b.grownBy c s) (hs : ∀ j, j < a.heap.size → some j ≠ r → some j ≠ s) : a.grownBy c r :=
  ⟨k.os.trans h.os, k.tape.trans h.tape, k.output.trans h.output, Nat.le_trans h.size k.size, fun j hj hr => (k.block j (Nat.lt_of_lt_of_le hj h.size) (hs j hj hr)).trans (h.block j hj hr)⟩
def sevens : List F := [7, 7, 7, 7, 7, 7, 7, 7]
end Go.Proofs.YtbjjmlebpohmcaaDoor

/- What Clone of package bytes, and Row of package mat, answer; nothing that was there turns. -/
namespace Go.Proofs.YtbjjmlebpohmcaaDoor
open Go.RowKit Gf
set_option linter.unusedVariables false
set_option maxRecDepth 20000
/-- bytes laid behind an empty list of one's own -/
theorem append8_new {w : World} {g m c : Nat} {a : Option Addr} {ys : List F} (ty : TypeId) (hg : w.heap[g]? = some (.cells #[] 5 (0, 0))) (hm : m = ys.length) (hb : m ≤ 140737488355328) (hy : Row8 w a ys) (hnil : a = none → c = 0) :
    ∃ g' cap' w', (Builtin.append_ #[31, 31] ty #[.slice (some ⟨g, 0, none⟩) 0 0, .slice a m c]).run Tryd.prog w = .ok (.slice (some ⟨g', 0, none⟩) m cap') w' ∧ Has8 w' g' ys cap' ∧ w.grownBy w' none ∧ (g' = g ∨ w.heap.size ≤ g') := by
  rcases hy with rfl | ⟨b, off, rfl, hy⟩
  · obtain rfl : m = 0 := hm
    refine ⟨g, 0, w, ?_, ⟨#[], hg, rfl, Nat.le_refl _, by decide, rfl⟩, grownBy_refl _ _, .inl rfl⟩
    have := run_append8_room (w := w) (g := g) (n := 0) (cap := 0) (xs := []) (old := []) (ys := []) (a := a) (m := 0) (c := c) ty (by simpa [vfs] using hg) rfl (Nat.le_refl _) rfl (Nat.le_refl _) (.inl rfl) hnil
    rw [this]
    congr 1
    exact setRow_self w g _ _ _ (by simpa [vfs] using hg)
  · by_cases h0 : m = 0
    · subst h0
      obtain rfl : ys = [] := List.eq_nil_of_length_eq_zero hm.symm
      refine ⟨g, 0, w, ?_, ⟨#[], hg, rfl, Nat.le_refl _, by decide, rfl⟩, grownBy_refl _ _, .inl rfl⟩
      have := run_append8_room (w := w) (g := g) (n := 0) (cap := 0) (xs := []) (old := []) (ys := []) (a := some ⟨b, off, none⟩) (m := 0) (c := c) ty (by simpa [vfs] using hg) rfl (Nat.le_refl _) rfl (Nat.le_refl _) (.inl rfl) (fun h => by cases h)
      rw [this]
      congr 1
      exact setRow_self w g _ _ _ (by simpa [vfs] using hg)
    · obtain ⟨g', cap', w', h1, h2, h3, h4⟩ := append8_grows (w := w) (g := g) (n := 0) (cap := 0) (xs := []) (ys := ys) (ad := ⟨b, off, none⟩) (m := m) (c := c) ty (.inl rfl) rfl hm (by omega) (by omega)
        (fun j hj => by
          have hadd : (⟨b, off, none⟩ : Addr).add j = ⟨b, off + j, none⟩ := by unfold Addr.add; split <;> simp_all
          rw [hadd, hy j hj])
      rw [Nat.zero_add] at h1
      exact ⟨g', cap', w', h1, h2, h3, .inr h4⟩
theorem slice_nil (w : World) (a : Option Addr) (n c : Nat) : (binOp .eql 31 (.slice a n c) (.slice none 0 0)).run Tryd.prog w = .ok (.bool a.isNone) w := run_eql_slice_nil w _ _ a n c Tryd.underlying31
end Go.Proofs.YtbjjmlebpohmcaaDoor

/- What Row of package mat answers, of all matrices and numbers; nothing that was there turns. -/
namespace Go.Proofs.YtbjjmlebpohmcaaDoor
open Go.RowKit Gf
set_option linter.unusedVariables false
set_option maxRecDepth 20000
theorem rowOf_G (r c i l cap : Nat) (a : Option Addr) (xs : List F) (w0 w : World) (hr : r ≤ 64) (hc : c ≤ 64) (hi : i < r) (hl : l = r * c) (hx : xs.length = r * c) (hcap : l ≤ cap) (hX : Row8 w0 a xs) (hnil : a = none → cap = 0) :
    Calls Tryd.prog 41 #[.agg #[.int .i64 r, .int .i64 c, .slice a l cap], .int .i64 i] w fun e w' => ∃ a' cap', e = .returned (.slice a' c cap') ∧ Row8 w0 a' (rowAt c xs i) ∧ c ≤ cap' ∧ (a' = none → cap' = 0) ∧ (a ≠ none → a' ≠ none) ∧ Below w.heap.size w w' := by
  cases a with
  | none =>
    have hx0 : xs = [] := by
      rcases hX with h | ⟨b, off, h, _⟩
      · exact h
      · cases h
    have h0 : r * c = 0 := by rw [← hx, hx0]; rfl
    have hc0 : c = 0 := by
      rcases Nat.mul_eq_zero.1 h0 with h | h
      · omega
      · exact h
    subst hc0
    obtain rfl : l = 0 := by omega
    exact (rowOf_none r i cap none w hr hi).mono fun e w' ⟨he, hb⟩ => ⟨none, cap, he, .inl (by simp [rowAt]), Nat.zero_le _, hnil, fun h => absurd rfl h, hb⟩
  | some ad =>
    rcases hX with e | ⟨b, off, e, h⟩
    · have h0 : r * c = 0 := by rw [← hx, e]; rfl
      have hc0 : c = 0 := by
        rcases Nat.mul_eq_zero.1 h0 with h | h
        · omega
        · exact h
      subst hc0
      obtain rfl : l = 0 := by omega
      exact (rowOf_none r i cap (some ad) w hr hi).mono fun e w' ⟨he, hb⟩ => ⟨some ad, cap, he, .inl (by simp [rowAt]), Nat.zero_le _, hnil, fun h => h, hb⟩
    · cases e
      refine (rowOf_some r c i b off l cap w hr hc hi hl hcap).mono fun e w' ⟨he, hb⟩ => ⟨_, _, he, row8_rowAt hx hi (by omega) h, ?_, (fun h => by cases h), (fun _ h => by cases h), hb⟩
      have := Nat.mul_le_mul_right c (show i + 1 ≤ r from hi)
      rw [Nat.succ_mul] at this; omega
end Go.Proofs.YtbjjmlebpohmcaaDoor

/- What Take of package mat answers, of all matrices in form and lists of numbers; nothing that was there turns. -/
namespace Go.Proofs.YtbjjmlebpohmcaaDoor
open Go.RowKit Gf
set_option linter.unusedVariables false
set_option maxRecDepth 20000
/-- the first lists of a list of lists -/
def slW (vs : List Value) (r : Nat) : Array Value := (vs ++ List.replicate (r - vs.length) (Value.slice none 0 0)).toArray
theorem slW_nil (r : Nat) : slV 0 [] r = slW [] r := by
  apply Array.ext_getElem?
  intro i
  by_cases h : i < r <;> simp [slV, slW, h]
theorem slW_at {vs : List Value} {r i : Nat} {v : Value} (h : vs[i]? = some v) : (slW vs r)[i]? = some v := by
  have hi := (List.getElem?_eq_some_iff.1 h).1
  simp only [slW, List.getElem?_toArray]
  rw [List.getElem?_append_left hi, h]
theorem slW_next {vs : List Value} {r : Nat} (h : vs.length < r) : (slW vs r)[vs.length]? = some (.slice none 0 0) := by
  simp only [slW, List.getElem?_toArray]
  rw [List.getElem?_append_right (Nat.le_refl _), Nat.sub_self, List.getElem?_replicate, if_pos (by omega)]
theorem slW_set {vs : List Value} {r : Nat} (v : Value) (h : vs.length < r) : (slW vs r).setIfInBounds vs.length v = slW (vs ++ [v]) r := by
  apply Array.ext_getElem?
  intro i
  rw [Array.getElem?_setIfInBounds]
  simp only [slW, List.getElem?_toArray, List.size_toArray, List.length_append, List.length_replicate]
  by_cases hi : vs.length = i
  · subst hi
    rw [if_pos rfl, if_pos (by omega), List.getElem?_append_left (by simp), List.getElem?_append_right (Nat.le_refl _), Nat.sub_self]; rfl
  · rw [if_neg hi]
    by_cases h2 : i < vs.length
    · rw [List.getElem?_append_left h2, List.getElem?_append_left (by simp; omega), List.getElem?_append_left h2]
    · rw [List.getElem?_append_right (by omega), List.getElem?_append_right (by simp; omega)]
      simp only [List.length_append, List.length_cons, List.length_nil, List.getElem?_replicate]
      by_cases h3 : i < r
      · rw [if_pos (by omega), if_pos (by omega)]
      · rw [if_neg (by omega), if_neg (by omega)]
/-- these values are lists of bytes, of c bytes each -/
def Lists8 (w : World) (c : Nat) (vs : List Value) (L : List (List F)) : Prop :=
  vs.length = L.length ∧ ∀ (j : Nat) (v : Value) (xs : List F), vs[j]? = some v → L[j]? = some xs → ∃ (a : Option Addr) (cap : Nat), v = .slice a c cap ∧ xs.length = c ∧ Row8 w a xs
theorem lists8_nil (w : World) (c : Nat) : Lists8 w c [] [] := ⟨rfl, fun j v xs h => by simp at h⟩
theorem lists8_snoc {w : World} {c cap : Nat} {vs : List Value} {L : List (List F)} {a : Option Addr} {xs : List F} (h : Lists8 w c vs L) (hx : xs.length = c) (hr : Row8 w a xs) : Lists8 w c (vs ++ [.slice a c cap]) (L ++ [xs]) := by
  refine ⟨by simp [h.1], fun j v ys hv hy => ?_⟩
  by_cases hj : j < vs.length
  · rw [List.getElem?_append_left hj] at hv
    rw [List.getElem?_append_left (by rw [← h.1]; exact hj)] at hy
    exact h.2 j v ys hv hy
  · have e := (List.getElem?_eq_some_iff.1 hv).1
    simp at e
    obtain rfl : j = vs.length := by omega
    rw [List.getElem?_append_right (Nat.le_refl _), Nat.sub_self] at hv
    rw [h.1, List.getElem?_append_right (Nat.le_refl _), Nat.sub_self] at hy
    obtain rfl := Option.some.inj hv
    obtain rfl := Option.some.inj hy
    exact ⟨a, cap, rfl, hx, hr⟩
theorem lists8_rows {w w' : World} {c M : Nat} {vs : List Value} {L : List (List F)} (h : Lists8 w c vs L) (hb : Below w.heap.size w w') (hc : ∀ j v, vs[j]? = some v → w'.cell? ⟨M, j, none⟩ = some v) : Rows8 w' (some ⟨M, 0, none⟩) L := by
  refine .inr ⟨M, 0, rfl, fun j xs hj => ?_⟩
  have hlt : j < vs.length := by rw [h.1]; exact (List.getElem?_eq_some_iff.1 hj).1
  have hv := List.getElem?_eq_getElem hlt
  obtain ⟨a, cap, e, hx, hr⟩ := h.2 j _ xs hv hj
  refine ⟨a, cap, ?_, row8_below hr hb⟩
  rw [Nat.zero_add, hc j _ hv, e, hx]
theorem lists8_len {w : World} {c : Nat} {vs : List Value} {L : List (List F)} (h : Lists8 w c vs L) : ∀ xs ∈ L, xs.length = c := fun xs hx => by
  obtain ⟨j, hj, e⟩ := List.getElem_of_mem hx
  have hlt : j < vs.length := by rw [h.1]; exact hj
  obtain ⟨a, cap, _, hl, _⟩ := h.2 j _ xs (List.getElem?_eq_getElem hlt) (by rw [List.getElem?_eq_getElem hj, e])
  exact hl
/-- the rows with these numbers -/
def takeM (c : Nat) (xs : List F) (ns : List Int) : List (List F) := ns.map fun n => rowAt c xs n.toNat
end Go.Proofs.YtbjjmlebpohmcaaDoor

/- What Zero of package tesseraref02, and square of the statements, answer; nothing that was there turns. -/
namespace Go.Proofs.YtbjjmlebpohmcaaDoor
open Go.RowKit Gf
set_option linter.unusedVariables false
set_option maxRecDepth 20000
/-- n bytes: those that are there, noughts behind -/
def padTo (n : Nat) (xs : List F) : List F := xs.take n ++ zeros (n - xs.length)
theorem padTo_len (n : Nat) (xs : List F) : (padTo n xs).length = n := by
  rw [padTo, List.length_append, zeros_len, List.length_take]; omega
theorem run_copyPad (g n : Nat) (a : Option Addr) (la ca : Nat) (xs : List F) (w : World) (ty : TypeId) (hla : la = xs.length)
    (hg : w.heap[g]? = some (.cells (vfs (zeros n)) 5 (0, 0))) (hx : Row8 w a xs) :
    (Builtin.copy_ #[31, 31] ty #[.slice (some ⟨g, 0, none⟩) n n, .slice a la ca]).run Tryd.prog w = .ok (goInt ((min xs.length n : Nat) : Int)) (w.setRow g (vfs (padTo n xs))) := by
  have hs : (Tryd.prog.info? 5).map (·.size) = some 1 := by kernel_rfl
  subst hla
  rcases hx with rfl | ⟨b, off, rfl, hx⟩
  · rw [List.length_nil, run_copy_none w _ _ _ _ _ _ _ _ _ _ Tryd.underlying31 hs (by simp)]
    have e : padTo n [] = zeros n := by simp [padTo]
    rw [e, setRow_self w g _ _ _ hg, Nat.zero_min]; rfl
  · have hlen : ((xs.take n).map vf).length = Nat.min xs.length n := by rw [List.length_map, List.length_take]; show min _ _ = min _ _; omega
    have he : (List.take 0 (vfs (zeros n)).toList ++ (xs.take n).map vf ++ List.drop (0 + ((xs.take n).map vf).length) (vfs (zeros n)).toList).toArray = vfs (padTo n xs) := by
      rw [hlen]
      simp only [List.take_zero, List.nil_append, Nat.zero_add, padTo, vfs, List.map_append, List.toList_toArray, zeros, List.map_replicate, List.drop_replicate]
      congr 3
      show n - min _ _ = _
      omega
    rw [run_copy_row (P := Tryd.prog) w 31 31 ty 5 g 0 n n ⟨b, off, none⟩ xs.length ca (vfs (zeros n)) 5 ((xs.take n).map vf) Tryd.underlying31 hs hg hlen
      (fun j v hv => by
        simp only [List.getElem?_map, Option.map_eq_some_iff] at hv
        obtain ⟨x, hx1, rfl⟩ := hv
        have hj' := (List.getElem?_eq_some_iff.1 hx1).1
        rw [List.length_take] at hj'
        have hj : j < xs.length := by omega
        rw [List.getElem?_take_of_lt (by omega)] at hx1
        have e : at8 xs j = x := by simp [at8, hx1]
        have hadd : (⟨b, off, none⟩ : Addr).add j = ⟨b, off + j, none⟩ := by unfold Addr.add; split <;> simp_all
        rw [hadd, hx j hj, e]; rfl)
      (by rw [hlen, vfs_size, zeros_len]; show 0 + min _ _ ≤ _; omega)
      (fun v hv => by
        simp only [List.mem_map] at hv
        obtain ⟨x, _, rfl⟩ := hv
        rfl)]
    rw [he, hlen]
end Go.Proofs.YtbjjmlebpohmcaaDoor

/- What Transpose of package mat answers, of every matrix in form. -/
namespace Go.Proofs.YtbjjmlebpohmcaaDoor
open Go.RowKit Gf
set_option linter.unusedVariables false
set_option maxRecDepth 20000
/-- transposed as far as row i, place j -/
def trP (r c : Nat) (xs : List F) (i j : Nat) : List F := grid r (fun b a => if a < i ∨ a = i ∧ b < j then at8 xs (a * c + b) else 0) c
theorem trP_len (r c : Nat) (xs : List F) (i j : Nat) : (trP r c xs i j).length = c * r := grid_len _ _ _
theorem trP_zero (r c : Nat) (xs : List F) : zeros (c * r) = trP r c xs 0 0 := by
  rw [zeros_grid]; exact grid_congr fun b a _ _ => by rw [if_neg (by omega)]
theorem trP_done (r c : Nat) (xs : List F) : trP r c xs r 0 = trM r c xs := grid_congr fun b a _ h => by rw [if_pos (by omega)]
theorem trP_row (r c : Nat) (xs : List F) (i : Nat) : trP r c xs i c = trP r c xs (i + 1) 0 := grid_congr fun b a h _ => by
  by_cases e : a < i + 1
  · rw [if_pos (by omega), if_pos (by omega)]
  · rw [if_neg (by omega), if_neg (by omega)]
theorem trP_step {r c : Nat} {xs : List F} {i j : Nat} (hi : i < r) (hj : j < c) : (trP r c xs i j).set (j * r + i) (at8 xs (i * c + j)) = trP r c xs i (j + 1) := by
  rw [trP, grid_set hj hi]
  refine grid_congr fun b a hb ha => ?_
  by_cases e : b = j ∧ a = i
  · rw [if_pos e, if_pos (by omega), e.1, e.2]
  · rw [if_neg e]
    by_cases e2 : a < i ∨ a = i ∧ b < j
    · rw [if_pos e2, if_pos (by omega)]
    · rw [if_neg e2, if_neg (by omega)]
end Go.Proofs.YtbjjmlebpohmcaaDoor

/- The chapter's worked answers of package mat hold: the function 'alive' of the statements returns true; and what One answers. -/
namespace Go.Proofs.YtbjjmlebpohmcaaDoor
open Go.RowKit Gf
set_option linter.unusedVariables false
set_option maxRecDepth 20000
theorem lit8 (w : World) (x y : F) : (w.alloc (.cells #[.int .u8 (x.toNat : Int), .int .u8 (y.toNat : Int)] 5)).heap[w.heap.size]? = some (.cells (vfs [x, y]) 5 (0, 0)) := heap_alloc_last w _
/-- the identity, made as far as row k -/
def oneP (n k : Nat) : List F := grid n (fun i j => if i = j ∧ i < k then 1 else 0) n
theorem oneP_len (n k : Nat) : (oneP n k).length = n * n := grid_len _ _ _
theorem oneP_zero (n : Nat) : zeros (n * n) = oneP n 0 := by rw [zeros_grid]; exact grid_congr fun i j _ _ => by rw [if_neg (by omega)]
theorem oneP_done (n : Nat) : oneP n n = oneM n := grid_congr fun i j hi _ => by
  by_cases h : i = j
  · rw [if_pos ⟨h, hi⟩, if_pos h]
  · rw [if_neg (fun e => h e.1), if_neg h]
theorem oneP_step {n k : Nat} (hk : k < n) : (oneP n k).set (k * n + k) 1 = oneP n (k + 1) := by
  rw [oneP, grid_set hk hk]
  refine grid_congr fun a b ha hb => ?_
  by_cases h : a = k ∧ b = k
  · rw [if_pos h, if_pos (by omega)]
  · rw [if_neg h]
    by_cases h2 : a = b ∧ a < k
    · rw [if_pos h2, if_pos (by omega)]
    · rw [if_neg h2, if_neg (by omega)]
end Go.Proofs.YtbjjmlebpohmcaaDoor

/- What the document's own One, Transpose and Product of package mat's chapter answer, of all matrices in form; nothing that was there turns. -/
namespace Go.Proofs.YtbjjmlebpohmcaaDoor
open Go.RowKit Gf
set_option linter.unusedVariables false
set_option maxRecDepth 20000
/-- a grid, made row by row, as far as place j of row i -/
def gridP (c : Nat) (f : Nat → Nat → F) (r i j : Nat) : List F := grid c (fun a b => if a < i ∨ a = i ∧ b < j then f a b else 0) r
theorem gridP_len (c : Nat) (f : Nat → Nat → F) (r i j : Nat) : (gridP c f r i j).length = r * c := grid_len _ _ _
theorem gridP_zero (c : Nat) (f : Nat → Nat → F) (r : Nat) : zeros (r * c) = gridP c f r 0 0 := by rw [zeros_grid]; exact grid_congr fun i j _ _ => by rw [if_neg (by omega)]
theorem gridP_done (c : Nat) (f : Nat → Nat → F) (r : Nat) : gridP c f r r 0 = grid c f r := grid_congr fun a b h _ => by rw [if_pos (by omega)]
theorem gridP_row (c : Nat) (f : Nat → Nat → F) (r i : Nat) : gridP c f r i c = gridP c f r (i + 1) 0 := grid_congr fun a b _ h => by
  by_cases e : a < i + 1
  · rw [if_pos (by omega), if_pos (by omega)]
  · rw [if_neg (by omega), if_neg (by omega)]
theorem gridP_step {c r i j : Nat} {f : Nat → Nat → F} (hi : i < r) (hj : j < c) : (gridP c f r i j).set (i * c + j) (f i j) = gridP c f r i (j + 1) := by
  rw [gridP, grid_set hi hj]
  refine grid_congr fun a b ha hb => ?_
  by_cases e : a = i ∧ b = j
  · rw [if_pos e, if_pos (by omega), e.1, e.2]
  · rw [if_neg e]
    by_cases e2 : a < i ∨ a = i ∧ b < j
    · rw [if_pos e2, if_pos (by omega)]
    · rw [if_neg e2, if_neg (by omega)]
theorem grownBy_drewN {w w' : World} {r : Option Nat} (h : w.grownBy w' r) : ∀ n, w.grownBy (w'.drewN n) r
  | 0 => h
  | n + 1 => grownBy_drew (grownBy_drewN h n)
theorem row8_get {w : World} {a : Option Addr} {xs : List F} {j : Nat} (h : Row8 w a xs) (hj : j < xs.length) : ∃ b off, a = some ⟨b, off, none⟩ ∧ b < w.heap.size ∧ ∀ i, i < xs.length → w.cell? ⟨b, off + i, none⟩ = some (.int .u8 ((at8 xs i).toNat : Int)) := by
  rcases h with e | ⟨b, off, rfl, h⟩
  · rw [e] at hj; simp at hj
  · have := World.block_lt_of_cell? w _ (h j hj)
    exact ⟨b, off, rfl, by simpa using this, h⟩
end Go.Proofs.YtbjjmlebpohmcaaDoor

/- What the document's own Of and Row of package mat's chapter answer; nothing that was there turns. -/
namespace Go.Proofs.YtbjjmlebpohmcaaDoor
open Go.RowKit Gf
set_option linter.unusedVariables false
set_option maxRecDepth 20000
/-- bytes laid behind a list of one's own, whatever they are -/
theorem appendB {w : World} {B n m c : Nat} {v : Value} {zs ys : List F} {a : Option Addr} (ty : TypeId) (ho : w.ownsRow B 5 1 v n (zs.map vf)) (hm : m = ys.length) (hb : n + m ≤ 1000000) (hy : Row8 w a ys) (hnil : a = none → c = 0) (hB : B ≤ w.heap.size) :
    ∃ v' w', (Builtin.append_ #[31, 31] ty #[v, .slice a m c]).run Tryd.prog w = .ok v' w' ∧ w'.ownsRow B 5 1 v' (n + m) ((zs ++ ys).map vf) ∧ w.grownBy w' v.ownBlock := by
  obtain ⟨i, hi, h1, h2, h3⟩ := info8
  rcases hy with rfl | ⟨b, off, rfl, hy⟩
  · obtain rfl : m = 0 := hm
    cases a with
    | none =>
      obtain rfl := hnil rfl
      refine ⟨v, w, ?_, by simpa using ho, grownBy_refl _ _⟩
      rcases ho.2 with ⟨rfl, rfl⟩ | ⟨g, cap, cur, rfl, _, hg, hle, _⟩
      · simp [Builtin.append_, run_underlying Tryd.underlying31, sizeOf, typeInfo, hi, Builtin.lenOf, Builtin.firstCells]
      · simp [Builtin.append_, run_underlying Tryd.underlying31, sizeOf, typeInfo, hi, Builtin.lenOf, Builtin.firstCells, loadCells, hle, storeCells]
    | some ad =>
      obtain ⟨v', w', h4, h5, h6, _⟩ := run_append_own_at (P := Tryd.prog) w B 31 ty 5 i _ 1 1 Tryd.underlying31 hi h3 h1 h2 rfl (by decide) v n _ ho ad 0 c [] rfl (fun j u h => by simp at h) (fun u h => by cases h) (by simp only [maxLen]; omega) (by omega) hB
      exact ⟨v', w', h4, by simpa using h5, h6⟩
  · obtain ⟨v', w', h4, h5, h6, _⟩ := run_append_own_at (P := Tryd.prog) w B 31 ty 5 i _ 1 1 Tryd.underlying31 hi h3 h1 h2 rfl (by decide) v n _ ho ⟨b, off, none⟩ m c (ys.map vf) (by rw [List.length_map]; omega)
      (fun j u hv => by
        simp only [List.getElem?_map, Option.map_eq_some_iff] at hv
        obtain ⟨x, hx1, rfl⟩ := hv
        have hj : j < ys.length := (List.getElem?_eq_some_iff.1 hx1).1
        have e : at8 ys j = x := by simp [at8, hx1]
        have hadd : (⟨b, off, none⟩ : Addr).add j = ⟨b, off + j, none⟩ := by unfold Addr.add; split <;> simp_all
        rw [hadd, hy j hj, e]; rfl) (fun u hv => by
        simp only [List.mem_map] at hv
        obtain ⟨x, _, rfl⟩ := hv
        rfl) (by simp only [maxLen]; omega) (by omega) hB
    exact ⟨v', w', h4, by rw [List.map_append]; exact h5, h6⟩
theorem ownB_slice {w : World} {B n : Nat} {v : Value} {zs : List F} (ho : w.ownsRow B 5 1 v n (zs.map vf)) : ∃ a cap, v = .slice a n cap ∧ Row8 w a zs ∧ n = zs.length ∧ (a = none → cap = 0) := by
  have hl := ho.1
  rw [List.length_map] at hl
  rcases ho.2 with ⟨rfl, e⟩ | ⟨g, cap, cur, rfl, h2⟩
  · exact ⟨none, 0, by rw [e], .inl (List.eq_nil_of_length_eq_zero (by omega)), by omega, fun _ => rfl⟩
  · refine ⟨_, _, rfl, .inr ⟨g, 0, rfl, fun j hj => ?_⟩, by omega, fun h => by cases h⟩
    rw [Nat.zero_add, ho.cellAt j (by omega), List.getElem?_map, List.getElem?_eq_getElem hj]
    simp [at8, hj, vf]
theorem own_mono {w : World} {B B' size n : Nat} {v : Value} {e : TypeId} {xs : List Value} (h : w.ownsRow B e size v n xs) (hb : B' ≤ B) : w.ownsRow B' e size v n xs :=
  ⟨h.1, h.2.imp id fun ⟨g, cap, cur, h1, h2, h3⟩ => ⟨g, cap, cur, h1, Nat.le_trans hb h2, h3⟩⟩
theorem rows_cap_later {w w' : World} {a : Option Addr} {L : List (List F)} (hX : Rows8 w a L) (hb : Below w.heap.size w w')
    (hcp : ∀ b off, a = some ⟨b, off, none⟩ → ∀ j n a' cap', w.cell? ⟨b, off + j, none⟩ = some (.slice a' n cap') → j < L.length → a' = none → cap' = 0) :
    ∀ b off, a = some ⟨b, off, none⟩ → ∀ j n a' cap', w'.cell? ⟨b, off + j, none⟩ = some (.slice a' n cap') → j < L.length → a' = none → cap' = 0 := by
  intro b off e j n a' cap' hc hj ha
  rcases hX with e0 | ⟨b2, off2, e2, hrows⟩
  · rw [e0] at hj; simp at hj
  · rw [e] at e2
    cases e2
    obtain ⟨a1, cap1, h1, _⟩ := hrows j _ (List.getElem?_eq_getElem hj)
    have h2 := cell_later hb h1
    rw [hc] at h2
    simp only [Option.some.injEq, Value.slice.injEq] at h2
    obtain ⟨q1, q2, q3⟩ := h2
    rw [q3]
    exact hcp b off e j _ a1 cap1 h1 hj (by rw [← q1]; exact ha)
end Go.Proofs.YtbjjmlebpohmcaaDoor

/- Facts for the statement MatPlaces: refusals of Take, two lists apart, the document's own Row, an append in a drawn region. -/
namespace Go.Proofs.YtbjjmlebpohmcaaDoor
open Go.RowKit Gf
set_option linter.unusedVariables false
set_option maxRecDepth 20000
theorem wanted_append_run {P : Program} {w : World} {o : Oper} {a : Act} {K : Act → World → Prop} {Q : Exit → Act → World → Prop} {ys : Nat → Option Bool} {L : Prop} (hgd : o.guard = none) (s x : Operand) (t : TypeId)
    (ho : o.op = .call { callee := .builtin .append, args := #[s, x], argTypes := #[t, t] }) (v u r : Value) (w' : World) (hs : a.eval s = v) (hx : a.eval x = u)
    (hr : (Builtin.append_ #[t, t] o.type #[v, u]).run P w = .ok r w') (h : K (a.put o.dst r) w') : if Region.wanted o ys = true then Oper.wp P o a w K Q else L := by
  rw [if_pos (by simp [Region.wanted, hgd])]
  unfold Oper.wp execOp
  simp only [ho, resolve, invoke, builtin, Sem.run_bind, Sem.run_pure, Result.andThen_ok, List.map_toArray, List.map_cons, List.map_nil, hs, hx, hr]
  exact h
theorem kind_ne {w : World} {a b : Nat} {cs ds : Array Value} {t u : TypeId} {f1 f2 : Nat × Nat} (h1 : w.heap[a]? = some (.cells cs t f1)) (h2 : w.heap[b]? = some (.cells ds u f2)) (h : t ≠ u) : a ≠ b := fun e => by
  subst e; rw [h1] at h2; cases h2; exact h rfl
theorem grown_some {w w' : World} (g : Nat) (h : w.grownBy w' none) : w.grownBy w' (some g) := ⟨h.os, h.tape, h.output, h.size, fun k hk _ => h.block k hk (by simp)⟩
theorem grown_keep {w w' : World} {r : Option Nat} {k : Nat} {o : Obj} (h : w.grownBy w' r) (hk : w.heap[k]? = some o) (hne : some k ≠ r) : w'.heap[k]? = some o := (h.block k (Array.getElem?_eq_some_iff.1 hk).1 hne).trans hk

theorem has8_take {w : World} {g cap : Nat} {xs : List F} (h : Has8 w g xs cap) (m : Nat) : Has8 w g (xs.take m) cap := by
  obtain ⟨cur, hg, hs, hl, hm, ht⟩ := h
  refine ⟨cur, hg, hs, by rw [List.length_take]; omega, hm, ?_⟩
  rw [List.map_take, ← ht, List.take_take, List.length_take]
theorem row8_grown {w w' : World} {r : Option Nat} {g : Nat} {xs : List F} (h : Row8 w (some ⟨g, 0, none⟩) xs) (hb : w.grownBy w' r) (hg : g < w.heap.size) (hne : some g ≠ r) : Row8 w' (some ⟨g, 0, none⟩) xs := by
  rcases h with e | ⟨b, off, e, h⟩
  · exact .inl e
  · cases e
    refine .inr ⟨g, 0, rfl, fun j hj => ?_⟩
    rw [← h j hj]
    simp only [World.cell?, hb.block g hg hne]
theorem append8_both {w : World} {g n cap : Nat} {xs ys : List F} {ad : Addr} {m c : Nat} (ty : TypeId) (h : Has8 w g xs cap) (hn : n = xs.length) (hm : m = ys.length) (hb : n + m ≤ 140737488355328)
    (hy : ∀ j, j < ys.length → w.cell? (ad.add j) = some (.int .u8 ((at8 ys j).toNat : Int))) :
    ∃ g' cap' w', (Builtin.append_ #[31, 31] ty #[.slice (some ⟨g, 0, none⟩) n cap, .slice (some ad) m c]).run Tryd.prog w = .ok (.slice (some ⟨g', 0, none⟩) (n + m) cap') w' ∧
      Has8 w' g' (xs ++ ys) cap' ∧ w.grownBy w' (some g) ∧ (g' = g ∨ w.heap.size ≤ g' ∧ w.grownBy w' none) := by
  by_cases hroom : n + m ≤ cap
  · subst hn hm
    obtain ⟨i, hi, h1, h2, h3⟩ := info8
    obtain ⟨cur, hg, hs, hl, hmx, ht⟩ := h
    have hown : w.ownsRow 0 5 1 (.slice (some ⟨g, 0, none⟩) xs.length cap) xs.length (xs.map vf) :=
      ⟨by simp, .inr ⟨g, cap, cur, rfl, Nat.zero_le _, hg, hl, hmx, by omega, by rw [Nat.mul_one]; exact ht⟩⟩
    obtain ⟨w', hrun, ho, hgr⟩ := run_append_fits (P := Tryd.prog) w 0 31 ty 5 i 1 Tryd.underlying31 hi h1 g xs.length cap _ hown ad ys.length c (ys.map vf) (by simp) (fun j v hv => by
        simp only [List.getElem?_map, Option.map_eq_some_iff] at hv
        obtain ⟨x, hx1, rfl⟩ := hv
        have hj : j < ys.length := (List.getElem?_eq_some_iff.1 hx1).1
        have e : at8 ys j = x := by simp [at8, hx1]
        rw [hy j hj, e]; rfl) (fun v hv => by
        simp only [List.mem_map] at hv
        obtain ⟨x, _, rfl⟩ := hv
        rfl) hroom
    rcases ho.2 with ⟨hv, _⟩ | ⟨g', cap', cur', hv, _, hg', hl', hm', hs', ht'⟩
    · cases hv
    · cases hv
      exact ⟨g, cap, w', hrun, ⟨cur', hg', by omega, by simpa using hl', hm', by rw [List.length_append, List.map_append, ← ht', Nat.mul_one]⟩, hgr, .inl rfl⟩
  · obtain ⟨g', cap', w', h1, h2, h3, h4⟩ := append8_grows (cap := cap) (m := m) (c := c) ty (row8_has h) hn hm (by omega) hb hy
    exact ⟨g', cap', w', h1, h2, ⟨h3.os, h3.tape, h3.output, h3.size, fun k hk _ => h3.block k hk (by simp)⟩, .inr ⟨h4, h3⟩⟩
/-- the second list nil -/
theorem append8_nil (w : World) {ys : List F} {ad : Addr} {m c : Nat} (ty : TypeId) (hm : m = ys.length) (h0 : 0 < m) (hb : m ≤ 140737488355328)
    (hy : ∀ j, j < ys.length → w.cell? (ad.add j) = some (.int .u8 ((at8 ys j).toNat : Int))) :
    ∃ g' cap' w', (Builtin.append_ #[31, 31] ty #[.slice none 0 0, .slice (some ad) m c]).run Tryd.prog w = .ok (.slice (some ⟨g', 0, none⟩) m cap') w' ∧
      Has8 w' g' ys cap' ∧ w.grownBy w' none ∧ w.heap.size ≤ g' := by
  subst hm
  obtain ⟨i, hi, h1, h2, h3⟩ := info8
  obtain ⟨v', w', hrun, ho, hgr, hnil, hat⟩ := run_append_own_at (P := Tryd.prog) w w.heap.size 31 ty 5 i _ 1 1 Tryd.underlying31 hi h3 h1 h2 rfl (by decide)
    (.slice none 0 0) 0 [] ⟨rfl, .inl ⟨rfl, rfl⟩⟩ ad ys.length c (ys.map vf) (by simp) (fun j v hv => by
      simp only [List.getElem?_map, Option.map_eq_some_iff] at hv
      obtain ⟨x, hx1, rfl⟩ := hv
      have hj : j < ys.length := (List.getElem?_eq_some_iff.1 hx1).1
      have e : at8 ys j = x := by simp [at8, hx1]
      rw [hy j hj, e]; rfl) (fun v hv => by
      simp only [List.mem_map] at hv
      obtain ⟨x, _, rfl⟩ := hv
      rfl) (by simp only [maxLen]; omega) (by omega) (Nat.le_refl _)
  rcases ho.2 with ⟨hv, hn⟩ | ⟨g', cap', cur', hv, hg, hg', hl', hm', hs', ht'⟩
  · have := (hnil.1 hv).2
    omega
  · subst hv
    refine ⟨g', cap', w', by rw [hrun, Nat.zero_add], ⟨cur', hg', by omega, by simpa using hl', hm', ?_⟩, hgr, hg⟩
    rw [← List.nil_append (ys.map vf), ← ht', Nat.mul_one, Nat.zero_add]
end Go.Proofs.YtbjjmlebpohmcaaDoor

/- What the program's gathering of what is asked for does at one step. -/
namespace Go.Proofs.YtbjjmlebpohmcaaDoor
open Go.RowKit Gf
set_option linter.unusedVariables false
set_option maxRecDepth 20000
set_option linter.unusedSimpArgs false
theorem cell_setCell_other9 (w : World) (p q : Addr) (v : Value) (h : q.block ≠ p.block) : (w.setCell p v).cell? q = w.cell? q := by
  simp only [World.cell?]
  rw [heap_setCell_other _ _ _ _ h]
def askN (A : Int → Bool) : List Bool := (List.range 64).map fun (r : Nat) => A (r : Int)
theorem askN_get {A : Int → Bool} {q : Nat} (h : q < 64) : (askN A)[q]? = some (A q) := by simp [askN, h]
theorem askN_set {A : Int → Bool} {q : Nat} (v : Bool) (h : q < 64) : (askN A).set q v = askN (fun r => if r = q then v else A r) := by
  apply List.ext_getElem?
  intro i
  rw [List.getElem?_set]
  by_cases hi : i < 64
  · rw [askN_get hi]
    by_cases e : q = i
    · subst e; rw [if_pos rfl]; simp [askN, h]
    · have e2 : ¬ (i : Int) = (q : Int) := by omega
      rw [if_neg e, askN_get hi, if_neg e2]
  · have h1 : (askN A).length = 64 := by simp [askN]
    rw [List.getElem?_eq_none (by simp [askN]; omega), List.getElem?_eq_none (by simp [askN]; omega)]
    split
    · rw [if_neg (by rw [h1]; omega)]
    · rfl
set_option maxRecDepth 100000 in
set_option maxHeartbeats 8000000 in
theorem idle_F (ab : Nat) (A : Int → Bool) (op dst src : Int) (c : F) (w : World) (hop : 1 ≤ op ∧ op ≤ 5) (hd : op ≠ 5 → 0 ≤ dst ∧ dst < 64) (hs : op = 4 ∨ op = 5 → 0 ≤ src ∧ src < 64) (hab : w.heap[ab]? = some (.cells (visB (askN A)) 86 (0, 0))) :
    Calls Tryd.prog 43 #[.pointer (some ⟨ab, 0, none⟩), .agg #[.int .i64 op, .int .i64 dst, .int .i64 src, .int .u8 (c.toNat : Int)]] w fun e w' => e = .returned (.bool (!bsyS ⟨op, dst, src, c⟩ A)) ∧
      w'.heap[ab]? = some (.cells (visB (askN (if bsyS ⟨op, dst, src, c⟩ A = true then aftS ⟨op, dst, src, c⟩ A else A))) 86 (0, 0)) ∧ w.grownBy w' (some ab) := by
  obtain ⟨s9, f9, so, an, as9, ou, n9, m9, hO, hmm⟩ := op_some hop
  have HO0 : Hid (okN op = true) := decide_eq_true hop
  have HO1 : Hid _ := hO.cells
  have HAN : Hid _ := hO.an
  have HAS : Hid _ := hO.as9
  have HOU : Hid _ := hO.ou
  have HAB : Hid (w.heap[ab]? = some (.cells (visB (askN A)) 86 (0, 0))) := hab
  obtain ⟨b, hb⟩ : ∃ b, b = bsyS ⟨op, dst, src, c⟩ A := ⟨_, rfl⟩
  have HBS : Hid (b = bsyS ⟨op, dst, src, c⟩ A) := hb
  rw [← hb]
  obtain ⟨A2, hA2⟩ : ∃ A2, A2 = if b = true then aftS ⟨op, dst, src, c⟩ A else A := ⟨_, rfl⟩
  have HA2 : Hid (A2 = if b = true then aftS ⟨op, dst, src, c⟩ A else A) := hA2
  rw [← hA2]
  have HHD : Hid (op ≠ 5 → 0 ≤ dst ∧ dst < 64) := hd
  have HHS : Hid (op = 4 ∨ op = 5 → 0 ≤ src ∧ src < 64) := hs
  have HOPP : Hid (1 ≤ op ∧ op ≤ 5) := hop
  clear hO hmm hop hd hs hab hb hA2
  obtain ⟨cv, hcv⟩ : ∃ cv : Int, cv = (c.toNat : Int) := ⟨_, rfl⟩
  rw [← hcv]
  clear hcv
  have HS1 : Hid _ := heap_alloc_last w (.cells #[.int .i64 op, .int .i64 dst, .int .i64 src, .int .u8 cv] 48)
  have HB1 : Hid (Below w.heap.size w (w.alloc (.cells #[.int .i64 op, .int .i64 dst, .int .i64 src, .int .u8 cv] 48))) := (Below.refl _ w).alloc (Nat.le_refl _) _
  go_enter Tryd.func43, Tryd.ntmps43
  go_wp2_with fail
  refine Calls.mono (find_F op _) ?_
  rw [HO0.out, HO1.out]
  rintro e w2 ⟨rfl, hb2⟩
  have hB2 : Below w.heap.size w w2 := HB1.out.trans (hb2.mono HB1.out.size)
  have hs2 := heap_later HS1.out hb2
  obtain ⟨X, hX⟩ : ∃ X, X = w2.alloc (.cells #[.string s9, .bool f9, .bool so, .bool an, .bool as9, .bool ou, .func (.func n9) #[] #[], .func (.func m9) #[] #[]] 65) := ⟨_, rfl⟩
  have hbX : Below w2.heap.size w2 X := by rw [hX]; exact (Below.refl _ _).alloc (Nat.le_refl _) _
  have HBX : Hid (Below w.heap.size w X) := hB2.trans (hbX.mono hB2.size)
  have HOB : Hid (X.heap[w2.heap.size]? = some (.cells #[.string s9, .bool f9, .bool so, .bool an, .bool as9, .bool ou, .func (.func n9) #[] #[], .func (.func m9) #[] #[]] 65 (0, 0))) := by show _ = _; rw [hX]; exact heap_alloc_last _ _
  have HSB : Hid _ := heap_later hs2 hbX
  have HAX : Hid _ := heap_later HAB.out HBX.out
  have HXE : Hid _ := hX
  have hne1 : w2.heap.size ≠ ab := by have := ltHeap HAB.out; have := hB2.size; omega
  have hne2 : w.heap.size ≠ ab := by have := ltHeap HAB.out; omega
  have k0 := cellAt (heap_later hs2 hbX) 0 _ rfl
  have k1 := cellAt (heap_later hs2 hbX) 1 _ rfl
  have k2 := cellAt (heap_later hs2 hbX) 2 _ rfl
  have q3 := cellAt HOB.out 3 _ rfl
  have q4 := cellAt HOB.out 4 _ rfl
  have q5 := cellAt HOB.out 5 _ rfl
  have FZ : ∀ q, X.frozen? ⟨ab, q, none⟩ = false := fun q => frozen_of_row _ _ _ _ _ HAX.out
  have HG : Hid (w.grownBy X (some ab)) := grown_below (World.grownBy.refl _ _) HBX.out
  clear hb2 hB2 hbX hX
  have q0 := cellAt hs2 0 _ rfl
  clear hs2
  go_wp2
  rw [← HXE.out]
  clear HXE q0
  have HSRC : Hid (op = 4 ∨ op = 5 → ∃ q : Nat, src = (q : Int) ∧ q < 64) := fun h => by
    obtain ⟨q, hq⟩ := Int.eq_ofNat_of_zero_le (HHS.out h).1
    exact ⟨q, hq, by have := (HHS.out h).2; omega⟩
  have HDST : Hid (op ≠ 5 → ∃ q : Nat, dst = (q : Int) ∧ q < 64) := fun h => by
    obtain ⟨q, hq⟩ := Int.eq_ofNat_of_zero_le (HHD.out h).1
    exact ⟨q, hq, by have := (HHD.out h).2; omega⟩
  by_cases h5 : op = 5
  · have e1 : ou = true := by rw [HOU.out]; exact decide_eq_true h5
    have e2 : an = false := by rw [HAN.out]; exact decide_eq_false (by omega)
    have e3 : as9 = true := by rw [HAS.out]; exact decide_eq_true (.inr h5)
    obtain ⟨q, rfl, q64⟩ := HSRC.out (.inr h5)
    have HBT : Hid (b = true) := by show _ = _; rw [HBS.out, bsyS, h5]; rfl
    have HA3 : Hid (A2 = fun r => if r = (q : Int) then true else A r) := by show _ = _; rw [HA2.out, if_pos HBT.out, aftS, if_pos h5]
    subst e1 e2 e3
    clear h5
    go_region
    obtain ⟨X1, hX1⟩ : ∃ X1, X1 = X.drew := ⟨_, rfl⟩
    rw [← hX1]
    have HAX1 : Hid (X1.heap[ab]? = some (.cells (visB (askN A)) 86 (0, 0))) := by show _ = _; rw [hX1]; exact HAX.out
    have HG1 : Hid (w.grownBy X1 (some ab)) := by show World.grownBy _ _ _; rw [hX1]; exact grownBy_drew HG.out
    have k1 : X1.cell? ⟨w.heap.size, 1, none⟩ = some (.int .i64 dst) := by rw [hX1]; exact k1
    have k2 : X1.cell? ⟨w.heap.size, 2, none⟩ = some (.int .i64 (q : Int)) := by rw [hX1]; exact k2
    have q3 : X1.cell? ⟨w2.heap.size, 3, none⟩ = some (.bool false) := by rw [hX1]; exact q3
    have q4 : X1.cell? ⟨w2.heap.size, 4, none⟩ = some (.bool true) := by rw [hX1]; exact q4
    have FZ1 : ∀ q, X1.frozen? ⟨ab, q, none⟩ = false := fun q => frozen_of_row _ _ _ _ _ HAX1.out
    clear hX1
    have hold := cellAt HAX1.out q _ (visB_get (askN_get q64))
    have HW : Hid ((X1.drew.setCell ⟨ab, q, none⟩ (.bool true)).heap[ab]? = some (.cells (visB (askN A2)) 86 (0, 0))) := by
      show _ = _
      rw [HA3.out, ← askN_set true q64, ← visB_set]
      exact heap_setCell_same _ _ _ _ _ _ HAX1.out
    have HGW : Hid (w.grownBy (X1.drew.setCell ⟨ab, q, none⟩ (.bool true)) (some ab)) := grownBy_setCell (grownBy_drew HG1.out) _
    go_wp2
    go_region
    go_wp2
    go_ret
    exact ⟨by rw [HBT.out]; rfl, HW.out, HGW.out⟩
  have e1 : ou = false := by rw [HOU.out]; exact decide_eq_false h5
  subst e1
  obtain ⟨d, rfl, d64⟩ := HDST.out h5
  have hold := cellAt HAX.out d _ (visB_get (askN_get d64))
  have HBE : Hid (b = A (d : Int)) := by show _ = _; rw [HBS.out, bsyS, show (op == 5) = false by simpa using h5, Bool.false_or]
  have HN5 : Hid (op ≠ 5) := h5
  clear h5
  obtain ⟨v, hv⟩ : ∃ v, v = A (d : Int) := ⟨_, rfl⟩
  rw [← hv] at HBE hold
  have HV : Hid (v = A (d : Int)) := hv
  clear hv
  cases v
  · have HA3 : Hid (A2 = A) := by show _ = _; rw [HA2.out, HBE.out]; rfl
    go_region
    go_wp2
    go_ret
    exact ⟨by rw [HBE.out]; rfl, by rw [HA3.out]; exact HAX.out, grownBy_drew HG.out⟩
  by_cases h12 : op = 1 ∨ op = 2
  · have e2 : an = true := by rw [HAN.out]; exact decide_eq_true h12
    have e3 : as9 = false := by rw [HAS.out]; exact decide_eq_false (by omega)
    have HA3 : Hid (A2 = fun r => if r = (d : Int) then false else A r) := by show _ = _; rw [HA2.out, HBE.out, if_pos rfl, aftS, if_neg HN5.out, if_pos h12]
    subst e2 e3
    clear h12
    go_region
    clear hold
    obtain ⟨X1, hX1⟩ : ∃ X1, X1 = X.drew := ⟨_, rfl⟩
    rw [← hX1]
    have HAX1 : Hid (X1.heap[ab]? = some (.cells (visB (askN A)) 86 (0, 0))) := by show _ = _; rw [hX1]; exact HAX.out
    have HG1 : Hid (w.grownBy X1 (some ab)) := by show World.grownBy _ _ _; rw [hX1]; exact grownBy_drew HG.out
    have k1 : X1.cell? ⟨w.heap.size, 1, none⟩ = some (.int .i64 (d : Int)) := by rw [hX1]; exact k1
    have k2 : X1.cell? ⟨w.heap.size, 2, none⟩ = some (.int .i64 src) := by rw [hX1]; exact k2
    have q3 : X1.cell? ⟨w2.heap.size, 3, none⟩ = some (.bool true) := by rw [hX1]; exact q3
    have q4 : X1.cell? ⟨w2.heap.size, 4, none⟩ = some (.bool false) := by rw [hX1]; exact q4
    have FZ1 : ∀ q, X1.frozen? ⟨ab, q, none⟩ = false := fun q => frozen_of_row _ _ _ _ _ HAX1.out
    clear hX1
    have hold := cellAt HAX1.out d _ (visB_get (askN_get d64))
    have HW : Hid ((X1.drew.setCell ⟨ab, d, none⟩ (.bool false)).heap[ab]? = some (.cells (visB (askN A2)) 86 (0, 0))) := by
      show _ = _
      rw [HA3.out, ← askN_set false d64, ← visB_set]
      exact heap_setCell_same _ _ _ _ _ _ HAX1.out
    have HGW : Hid (w.grownBy (X1.drew.setCell ⟨ab, d, none⟩ (.bool false)) (some ab)) := grownBy_setCell (grownBy_drew HG1.out) _
    have Q4 : (X1.drew.setCell ⟨ab, d, none⟩ (.bool false)).cell? ⟨w2.heap.size, 4, none⟩ = some (.bool false) := (cell_setCell_other9 _ _ _ _ (by simpa using hne1)).trans q4
    go_wp2
    go_region
    go_wp2
    go_ret
    exact ⟨by rw [HBE.out]; rfl, HW.out, HGW.out⟩
  have e2 : an = false := by rw [HAN.out]; exact decide_eq_false h12
  have HN12 : Hid (¬ (op = 1 ∨ op = 2)) := h12
  subst e2
  clear h12
  by_cases h4 : op = 4
  · have e3 : as9 = true := by rw [HAS.out]; exact decide_eq_true (.inl h4)
    obtain ⟨q, rfl, q64⟩ := HSRC.out (.inl h4)
    have HA3 : Hid (A2 = fun r => if r = (q : Int) then true else A r) := by show _ = _; rw [HA2.out, HBE.out, if_pos rfl, aftS, if_neg HN5.out, if_neg HN12.out, if_pos h4]
    subst e3
    clear h4
    go_region
    clear hold
    obtain ⟨X1, hX1⟩ : ∃ X1, X1 = X.drew := ⟨_, rfl⟩
    rw [← hX1]
    have HAX1 : Hid (X1.heap[ab]? = some (.cells (visB (askN A)) 86 (0, 0))) := by show _ = _; rw [hX1]; exact HAX.out
    have HG1 : Hid (w.grownBy X1 (some ab)) := by show World.grownBy _ _ _; rw [hX1]; exact grownBy_drew HG.out
    have k1 : X1.cell? ⟨w.heap.size, 1, none⟩ = some (.int .i64 (d : Int)) := by rw [hX1]; exact k1
    have k2 : X1.cell? ⟨w.heap.size, 2, none⟩ = some (.int .i64 (q : Int)) := by rw [hX1]; exact k2
    have q3 : X1.cell? ⟨w2.heap.size, 3, none⟩ = some (.bool false) := by rw [hX1]; exact q3
    have q4 : X1.cell? ⟨w2.heap.size, 4, none⟩ = some (.bool true) := by rw [hX1]; exact q4
    have FZ1 : ∀ q, X1.frozen? ⟨ab, q, none⟩ = false := fun q => frozen_of_row _ _ _ _ _ HAX1.out
    clear hX1
    have hold := cellAt HAX1.out q _ (visB_get (askN_get q64))
    have HW : Hid ((X1.drew.setCell ⟨ab, q, none⟩ (.bool true)).heap[ab]? = some (.cells (visB (askN A2)) 86 (0, 0))) := by
      show _ = _
      rw [HA3.out, ← askN_set true q64, ← visB_set]
      exact heap_setCell_same _ _ _ _ _ _ HAX1.out
    have HGW : Hid (w.grownBy (X1.drew.setCell ⟨ab, q, none⟩ (.bool true)) (some ab)) := grownBy_setCell (grownBy_drew HG1.out) _
    go_wp2
    go_region
    go_wp2
    go_ret
    exact ⟨by rw [HBE.out]; rfl, HW.out, HGW.out⟩
  · have e3 : as9 = false := by rw [HAS.out]; exact decide_eq_false (fun h => h.elim h4 HN5.out)
    have HA3 : Hid (A2 = A) := by show _ = _; rw [HA2.out, HBE.out, if_pos rfl, aftS, if_neg HN5.out, if_neg HN12.out, if_neg h4]
    subst e3
    clear h4
    go_region
    clear hold
    obtain ⟨X1, hX1⟩ : ∃ X1, X1 = X.drew := ⟨_, rfl⟩
    rw [← hX1]
    have HAX1 : Hid (X1.heap[ab]? = some (.cells (visB (askN A)) 86 (0, 0))) := by show _ = _; rw [hX1]; exact HAX.out
    have HG1 : Hid (w.grownBy X1 (some ab)) := by show World.grownBy _ _ _; rw [hX1]; exact grownBy_drew HG.out
    have k1 : X1.cell? ⟨w.heap.size, 1, none⟩ = some (.int .i64 (d : Int)) := by rw [hX1]; exact k1
    have k2 : X1.cell? ⟨w.heap.size, 2, none⟩ = some (.int .i64 src) := by rw [hX1]; exact k2
    have q3 : X1.cell? ⟨w2.heap.size, 3, none⟩ = some (.bool false) := by rw [hX1]; exact q3
    have q4 : X1.cell? ⟨w2.heap.size, 4, none⟩ = some (.bool false) := by rw [hX1]; exact q4
    have FZ1 : ∀ q, X1.frozen? ⟨ab, q, none⟩ = false := fun q => frozen_of_row _ _ _ _ _ HAX1.out
    clear hX1
    go_wp2
    go_ret
    exact ⟨by rw [HBE.out]; rfl, by rw [HA3.out]; exact HAX1.out, HG1.out⟩
end Go.Proofs.YtbjjmlebpohmcaaDoor

/- Steps turned round in place, lists of numbers copied. -/
namespace Go.Proofs.YtbjjmlebpohmcaaDoor
open Go.RowKit Gf
set_option linter.unusedVariables false
set_option maxRecDepth 20000
set_option linter.unusedSimpArgs false
theorem stpsL_set : ∀ (ys : List Stp) (i : Nat) (s : Stp), ((((stpsL ys).set (i * 4) (.int .i64 s.op)).set (i * 4 + 1) (.int .i64 s.dst)).set (i * 4 + 2) (.int .i64 s.src)).set (i * 4 + 3) (.int .u8 (s.c.toNat : Int)) = if i < ys.length then stpsL (ys.set i s) else stpsL ys
  | [], i, s => by simp [stpsL]
  | y :: ys, 0, s => by simp [stpsL, stpL, vf]
  | y :: ys, i + 1, s => by
    have ih := stpsL_set ys i s
    have e : stpsL (y :: ys) = stpL y ++ stpsL ys := rfl
    have h4 : (stpL y).length = 4 := rfl
    rw [e, List.set_append_right _ _ (by rw [h4]; omega), List.set_append_right _ _ (by rw [h4]; omega), List.set_append_right _ _ (by rw [h4]; omega), List.set_append_right _ _ (by rw [h4]; omega), h4,
      show (i + 1) * 4 - 4 = i * 4 by omega, show (i + 1) * 4 + 1 - 4 = i * 4 + 1 by omega, show (i + 1) * 4 + 2 - 4 = i * 4 + 2 by omega, show (i + 1) * 4 + 3 - 4 = i * 4 + 3 by omega, ih]
    by_cases h : i < ys.length
    · rw [if_pos h, if_pos (by rw [List.length_cons]; omega), List.set_cons_succ]; try rfl
    · rw [if_neg h, if_neg (by rw [List.length_cons]; omega)]; try rfl
def put4 (w : World) (g i : Nat) (s : Stp) : World := (((w.setCell ⟨g, i * 4, none⟩ (.int .i64 s.op)).setCell ⟨g, i * 4 + 1, none⟩ (.int .i64 s.dst)).setCell ⟨g, i * 4 + 2, none⟩ (.int .i64 s.src)).setCell ⟨g, i * 4 + 3, none⟩ (.int .u8 (s.c.toNat : Int))
theorem ownT_put {w : World} {B n g cap i : Nat} {ys : List Stp} (s : Stp) (ho : w.ownsRow B 48 4 (.slice (some ⟨g, 0, none⟩) n cap) n (stpsL ys)) (hi : i < n) : (put4 w g i s).ownsRow B 48 4 (.slice (some ⟨g, 0, none⟩) n cap) n (stpsL (ys.set i s)) := by
  have hl := ho.1
  rw [stpsL_len] at hl
  have hin : i < ys.length := by omega
  refine ⟨by rw [stpsL_len, List.length_set]; omega, ?_⟩
  rcases ho.2 with ⟨e, _⟩ | ⟨g', cap', cur, e, hB, hg, hle, h5, h6, h7⟩
  · cases e
  · cases e
    have h1 : (w.setCell ⟨g, i * 4, none⟩ (.int .i64 s.op)).heap[g]? = some (.cells (cur.setIfInBounds (i * 4) (.int .i64 s.op)) 48 (0, 0)) := heap_setCell_same _ _ _ _ _ _ hg
    have h2 : ((w.setCell ⟨g, i * 4, none⟩ (.int .i64 s.op)).setCell ⟨g, i * 4 + 1, none⟩ (.int .i64 s.dst)).heap[g]? = some (.cells _ 48 (0, 0)) := heap_setCell_same _ _ _ _ _ _ h1
    have h3 : (((w.setCell ⟨g, i * 4, none⟩ (.int .i64 s.op)).setCell ⟨g, i * 4 + 1, none⟩ (.int .i64 s.dst)).setCell ⟨g, i * 4 + 2, none⟩ (.int .i64 s.src)).heap[g]? = some (.cells _ 48 (0, 0)) := heap_setCell_same _ _ _ _ _ _ h2
    have h4 : (put4 w g i s).heap[g]? = some (.cells _ 48 (0, 0)) := heap_setCell_same _ _ _ _ _ _ h3
    refine .inr ⟨g, cap, _, rfl, hB, h4, hle, h5, by simp [h6], ?_⟩
    simp only [Array.toList_setIfInBounds, List.take_set, h7]
    rw [stpsL_set, if_pos hin]
theorem grown_put4 {w W : World} {g : Nat} (h : W.grownBy w (some g)) (i : Nat) (s : Stp) : W.grownBy (put4 w g i s) (some g) := grownBy_setCell (grownBy_setCell (grownBy_setCell (grownBy_setCell h _) _) _) _
/-- the list with k steps at either end turned round -/
def revK (z : Stp) (xs : List Stp) (k : Nat) : List Stp := (List.range xs.length).map fun i => if i < k ∨ xs.length ≤ i + k then xs.getD (xs.length - 1 - i) z else xs.getD i z
theorem revK_len (z : Stp) (xs : List Stp) (k : Nat) : (revK z xs k).length = xs.length := by simp [revK]
theorem revK_get {z : Stp} {xs : List Stp} {k i : Nat} (h : i < xs.length) : (revK z xs k)[i]? = some (if i < k ∨ xs.length ≤ i + k then xs.getD (xs.length - 1 - i) z else xs.getD i z) := by simp [revK, h]
theorem revK_zero (z : Stp) (xs : List Stp) : revK z xs 0 = xs := by
  apply List.ext_getElem?
  intro i
  by_cases h : i < xs.length
  · rw [revK_get h, if_neg (by omega)]; simp [List.getD, h]
  · rw [List.getElem?_eq_none (by rw [revK_len]; omega), List.getElem?_eq_none (by omega)]
theorem revK_step {z : Stp} {xs : List Stp} {k j : Nat} (hk : k < j) (hj : j + 1 + k = xs.length) : ((revK z xs k).set k (xs.getD j z)).set j (xs.getD k z) = revK z xs (k + 1) := by
  apply List.ext_getElem?
  intro i
  rw [List.getElem?_set, List.length_set, revK_len, List.getElem?_set, revK_len]
  by_cases h : i < xs.length
  · rw [revK_get h, revK_get h]
    by_cases e1 : j = i
    · subst e1
      rw [if_pos rfl, if_pos h, if_pos (by omega), show xs.length - 1 - j = k by omega]
    · rw [if_neg e1]
      by_cases e2 : k = i
      · subst e2
        rw [if_pos rfl, if_pos h, if_pos (by omega), show xs.length - 1 - k = j by omega]
      · rw [if_neg e2]
        by_cases e3 : i < k ∨ xs.length ≤ i + k
        · rw [if_pos e3, if_pos (by omega)]
        · rw [if_neg e3, if_neg (by omega)]
  · rw [List.getElem?_eq_none (by rw [revK_len]; omega), List.getElem?_eq_none (by rw [revK_len]; omega)]
    repeat' split
    all_goals first | rfl | omega
theorem revK_done {z : Stp} {xs : List Stp} {k : Nat} (h : xs.length ≤ 2 * k + 1) : revK z xs k = xs.reverse := by
  apply List.ext_getElem?
  intro i
  by_cases hi : i < xs.length
  · rw [revK_get hi, List.getElem?_reverse hi]
    by_cases e : i < k ∨ xs.length ≤ i + k
    · rw [if_pos e]; simp [List.getD, show xs.length - 1 - i < xs.length by omega]
    · rw [if_neg e, show xs.length - 1 - i = i by omega]; simp [List.getD, hi]
  · rw [List.getElem?_eq_none (by rw [revK_len]; omega), List.getElem?_eq_none (by rw [List.length_reverse]; omega)]
theorem ownT_cells {w : World} {B n g cap : Nat} {ys : List Stp} (ho : w.ownsRow B 48 4 (.slice (some ⟨g, 0, none⟩) n cap) n (stpsL ys)) {i : Nat} {s : Stp} (hs : ys[i]? = some s) : w.cell? ⟨g, i * 4, none⟩ = some (.int .i64 s.op) ∧ w.cell? ⟨g, i * 4 + 1, none⟩ = some (.int .i64 s.dst) ∧ w.cell? ⟨g, i * 4 + 2, none⟩ = some (.int .i64 s.src) ∧ w.cell? ⟨g, i * 4 + 3, none⟩ = some (.int .u8 (s.c.toNat : Int)) ∧ (∀ q, w.frozen? ⟨g, q, none⟩ = false) := by
  have hl := ho.1
  rw [stpsL_len] at hl
  have hi : i < ys.length := (List.getElem?_eq_some_iff.1 hs).1
  rcases ho.2 with ⟨e, _⟩ | ⟨g', cap', cur, e, hB, hg, hle, h5, h6, h7⟩
  · cases e
  · cases e
    have H : ∀ q, q < 4 → cur[i * 4 + q]? = (stpL s)[q]? := fun q hq => by
      rw [← Array.getElem?_toList, ← List.getElem?_take_of_lt (show i * 4 + q < n * 4 by omega), h7, stpsL_at ys i q hq, hs]; rfl
    exact ⟨cellAt hg _ _ (H 0 (by omega)), cellAt hg _ _ (H 1 (by omega)), cellAt hg _ _ (H 2 (by omega)), cellAt hg _ _ (H 3 (by omega)), fun q => frozen_of_row _ _ _ _ _ hg⟩
set_option maxRecDepth 100000 in
set_option maxHeartbeats 8000000 in
theorem reverse_F (B n : Nat) (v : Value) (xs : List Stp) (w : World) (ho : w.ownsRow B 48 4 v n (stpsL xs)) (hn9 : n ≤ 4096) :
    Calls Tryd.prog 44 #[v] w fun e w' => e = .returned (.tuple #[]) ∧ w'.ownsRow B 48 4 v n (stpsL xs.reverse) ∧ w.grownBy w' v.ownBlock := by
  have hl := ho.1
  rw [stpsL_len] at hl
  have HL : Hid (n = xs.length) := by show _ = _; omega
  rcases ho.2 with ⟨rfl, hn0⟩ | ⟨g, cap, cur, rfl, _⟩
  · subst hn0
    have hx : xs = [] := List.eq_nil_of_length_eq_zero HL.out.symm
    have HO : Hid (w.ownsRow B 48 4 (.slice none 0 0) 0 (stpsL xs.reverse)) := by rw [hx] at ho ⊢; exact ho
    clear ho hl hx
    go_enter Tryd.func44, Tryd.ntmps44
    go_wp2
    go_loopw [2, 3] (fun i j wr => i = .int .i64 0 ∧ j = .int .i64 (-1) ∧ wr = w) (fun _ _ _ => 0)
    case atStart => exact ⟨rfl, rfl, rfl⟩
    case round =>
      obtain ⟨rfl, rfl, rfl⟩ := hrel
      go_wp2
      exact ⟨rfl, .tuple #[], by simp [results, Tryd.results44, go_sem], rfl, HO.out, World.grownBy.refl _ _⟩
  · have HO : Hid (w.ownsRow B 48 4 (.slice (some ⟨g, 0, none⟩) n cap) n (stpsL xs)) := ho
    have hcap : n ≤ cap := by
      rcases ho.2 with ⟨e, _⟩ | ⟨g', cap', cur, e, hB, hg, hle, _⟩
      · cases e
      · cases e; exact hle
    clear ho hl
    go_enter Tryd.func44, Tryd.ntmps44
    go_wp2
    go_loopw [2, 3] (fun i j wr => ∃ (k : Nat) (x : Int), x = (n : Int) - 1 - k ∧ (2 * k ≤ n) ∧ i = .int .i64 k ∧ j = .int .i64 x ∧ w.grownBy wr (some g) ∧ wr.ownsRow B 48 4 (.slice (some ⟨g, 0, none⟩) n cap) n (stpsL (revK ⟨0, 0, 0, 0⟩ xs k))) (fun i _ _ => n - (intOf i).toNat)
    case atStart => exact ⟨0, (n : Int) - 1, by omega, by omega, rfl, by first | rfl | go_num, World.grownBy.refl _ _, by rw [revK_zero]; exact HO.out⟩
    case round =>
      obtain ⟨k, x, hx, hk2, rfl, rfl, hgr, hor⟩ := hrel
      have HGR : Hid (w.grownBy wr (some g)) := hgr
      have HOR : Hid (wr.ownsRow B 48 4 (.slice (some ⟨g, 0, none⟩) n cap) n (stpsL (revK ⟨0, 0, 0, 0⟩ xs k))) := hor
      clear hgr hor
      by_cases hlt : (k : Int) < x
      · obtain ⟨j, rfl⟩ := Int.eq_ofNat_of_zero_le (show 0 ≤ x by omega)
        have HKJ : Hid (k < j) := by show _ < _; omega
        have HJN : Hid (j + 1 + k = xs.length) := by show _ = _; rw [← HL.out]; omega
        have hjn : j < n := by omega
        have hkn : k < n := by omega
        obtain ⟨⟨o1, d1, s1, c1⟩, h1⟩ : ∃ s, xs.getD k ⟨0, 0, 0, 0⟩ = s := ⟨_, rfl⟩
        obtain ⟨⟨o2, d2, s2, c2⟩, h2⟩ : ∃ s, xs.getD j ⟨0, 0, 0, 0⟩ = s := ⟨_, rfl⟩
        have g1 : (revK ⟨0, 0, 0, 0⟩ xs k)[k]? = some ⟨o1, d1, s1, c1⟩ := by rw [revK_get (by rw [← HL.out]; omega), if_neg (by rw [← HL.out]; omega), h1]
        have g2 : (revK ⟨0, 0, 0, 0⟩ xs k)[j]? = some ⟨o2, d2, s2, c2⟩ := by rw [revK_get (by rw [← HL.out]; omega), if_neg (by rw [← HL.out]; omega), h2]
        obtain ⟨a0, a1, a2, a3, az⟩ := ownT_cells HOR.out g1
        obtain ⟨b0, b1, b2, b3, _⟩ := ownT_cells HOR.out g2
        have hnx := ownT_put ⟨o1, d1, s1, c1⟩ (ownT_put ⟨o2, d2, s2, c2⟩ HOR.out hkn) hjn
        rw [← h1, ← h2, revK_step HKJ.out HJN.out, h1, h2] at hnx
        have hgx : w.grownBy (put4 (put4 wr g k ⟨o2, d2, s2, c2⟩) g j ⟨o1, d1, s1, c1⟩) (some g) := grown_put4 (grown_put4 HGR.out _ _) _ _
        obtain ⟨Z, hZ⟩ : ∃ Z, Z = put4 (put4 wr g k ⟨o2, d2, s2, c2⟩) g j ⟨o1, d1, s1, c1⟩ := ⟨_, rfl⟩
        rw [← hZ] at hnx hgx
        have HZ : Hid (Z = ((((((((((wr).setCell ⟨g, k * 4, none⟩ (.int .i64 o2)).setCell ⟨g, k * 4 + 1, none⟩ (.int .i64 d2)).setCell ⟨g, k * 4 + 2, none⟩ (.int .i64 s2)).setCell ⟨g, k * 4 + 3, none⟩ (.int .u8 (c2.toNat : Int)))).setCell ⟨g, j * 4, none⟩ (.int .i64 o1)).setCell ⟨g, j * 4 + 1, none⟩ (.int .i64 d1)).setCell ⟨g, j * 4 + 2, none⟩ (.int .i64 s1)).setCell ⟨g, j * 4 + 3, none⟩ (.int .u8 (c1.toNat : Int)))) := hZ
        have HNX : Hid (Z.drew.ownsRow B 48 4 (.slice (some ⟨g, 0, none⟩) n cap) n (stpsL (revK ⟨0, 0, 0, 0⟩ xs (k + 1)))) := hnx
        have HGX : Hid (w.grownBy Z.drew (some g)) := grownBy_drew hgx
        clear hZ hnx hgx
        have HX : Hid ((j : Int) = (n : Int) - 1 - k) := hx
        clear g1 g2 h1 h2 hx
        go_wp2
        go_region
        rw [← HZ.out]
        go_wp2
        exact ⟨⟨k + 1, (j : Int) - 1, by have := HX.out; omega, by have := HX.out; have := HKJ.out; omega, by go_num, by first | rfl | go_num, HGX.out, HNX.out⟩, by simp [intOf]; omega⟩
      · have hdone : Hid (revK ⟨0, 0, 0, 0⟩ xs k = xs.reverse) := revK_done (by rw [← HL.out]; omega)
        go_wp2
        exact ⟨rfl, .tuple #[], by simp [results, Tryd.results44, go_sem], rfl, by rw [← hdone.out]; exact HOR.out, HGR.out⟩
end Go.Proofs.YtbjjmlebpohmcaaDoor

/- A range over a list from its end: the library's Backward, one round of such a loop. -/
namespace Go.Proofs.YtbjjmlebpohmcaaDoor
open Go.RowKit Go.Shelf Gf
set_option linter.unusedVariables false
set_option maxRecDepth 20000
set_option linter.unusedSimpArgs false
attribute [local go_sem] Oper.semAt_some
theorem put_other9 {W : World} {l k : Nat} {o o' : Obj} (h : W.heap[k]? = some o) (hne : k ≠ l) : (W.putObj l o').heap[k]? = some o := (World.putObj_heap_other hne).trans h
theorem own_put9 {W : World} {B l n size : Nat} {v : Value} {e : TypeId} {xs : List Value} {o' : Obj} (h : W.ownsRow B e size v n xs) (hl : l < B) : (W.putObj l o').ownsRow B e size v n xs :=
  ⟨h.1, h.2.imp id fun ⟨g, cap, cur, h1, h2, h3, h4⟩ => ⟨g, cap, cur, h1, h2, put_other9 h3 (by omega), h4⟩⟩
theorem below_put9 {N l : Nat} {w W : World} {o : Obj} (h : Below N w W) (hl : N ≤ l) (hlt : l < W.heap.size) : Below N w (W.putObj l o) :=
  h.grown (grownBy_putObj' W l o) (by omega) (fun k e => by cases e; exact hl)
theorem wpListIn_append_run9 {F : Fence} {nF : Nat} {P : Program} {w : World} {ops : Array Oper} {rest : List Oper} {o : Oper} {a : Act} {Q : Exit → Act → World → Prop} (hgd : o.guard = none) (s x : Operand) (t : TypeId)
    (ho : o.op = .call { callee := .builtin .append, args := #[s, x], argTypes := #[t, t] }) (v u r : Value) (w' : World) (hs : a.eval s = v) (hx : a.eval x = u)
    (hr : (Builtin.append_ #[t, t] o.type #[v, u]).run P w = .ok r w') (h : wpListIn F nF P ops Q rest (a.put o.dst r) w') : wpListIn F nF P ops Q (o :: rest) a w := by
  refine wpListIn_plain hgd fun K hK => ?_
  unfold Oper.wpIn
  refine ⟨?_, ?_⟩
  · simp [Oper.about, ho, resolve, Target.leads, Sem.run_pure]
  · rw [Oper.semAt_plain F _ _ (by rw [ho]; intro c hc'; cases hc')]
    simp only [execOp, ho, resolve, invoke, builtin, Sem.run_bind, Sem.run_pure, Result.andThen_ok, List.map_toArray, List.map_cons, List.map_nil, hs, hx, hr]
    exact hK _ _ h
theorem one_same9 {W : World} {k : Nat} {v v' : Value} {t : TypeId} (h : W.heap[k]? = some (.cells #[v] t (0, 0))) : (W.setCell ⟨k, 0, none⟩ v').heap[k]? = some (.cells #[v'] t (0, 0)) := by
  rw [heap_setCell_same _ _ _ _ _ _ h]; rfl
theorem one_other9 {W : World} {j k : Nat} {v : Value} {o : Obj} (h : W.heap[j]? = some o) (hne : j ≠ k) : (W.setCell ⟨k, 0, none⟩ v).heap[j]? = some o := (heap_setCell_other _ _ _ _ hne).trans h
theorem range_enter9 {F : Fence} {n : Nat} {P : Program} {g : Operand} {ps : Array Tmp} {assign body : Code} {Q : Exit → Act → World → Prop} {a : Act} {w : World} {gf : Nat} {lb : Array Value} (hro : F.round = none) (h1 : 1 ≤ n)
    (hg : a.eval g = .func (.func gf) #[] lb) (hFg : F.fn gf) (eg : ∀ args w, (callFunc gf args).run P w = .ok (.enter gf args) w)
    (h : ∀ fn, F.fn fn → ∀ R : Loop, R = { state := .ready, pending := none, fn, tmps := a.tmps, params := ps, assign, body, defers := w.heap.size } →
      CallsIn F (n - 1) P gf (#[.func (.yield (w.heap.size + 1)) #[] #[]] ++ lb) ((w.alloc (.deferred (some []))).alloc (.loop R)) (rangePost F n P (w.heap.size + 1) Q { a with defers := [{ target := .collected w.heap.size, args := #[] }] ++ a.defers })) :
    (Code.rangeFunc g ps assign body).wpIn F n P Q a w := by
  refine wpIn_rangeFunc ?_
  intro fn hfn
  rw [hro]
  obtain ⟨R, hR⟩ : ∃ R : Loop, R = { state := .ready, pending := none, fn, tmps := a.tmps, params := ps, assign, body, defers := w.heap.size } := ⟨_, rfl⟩
  have hent := run_enterLoop_outer (P := P) (w := w) fn a.tmps ps assign body
  rw [← hR] at hent
  refine ⟨w.heap.size + 1, [{ target := .collected w.heap.size, args := #[] }], (w.alloc (.deferred (some []))).alloc (.loop R), { target := .fn (.func gf) lb, args := #[.func (.yield (w.heap.size + 1)) #[] #[]] }, (w.alloc (.deferred (some []))).alloc (.loop R), gf, #[.func (.yield (w.heap.size + 1)) #[] #[]] ++ lb, (w.alloc (.deferred (some []))).alloc (.loop R), hent, ?_, ?_, ?_, fun _ => h1, ?_⟩
  · simp only [resolve, hg]
    simp [go_sem]
  · intro f' hf'; simp [Target.leads] at hf'; subst hf'; exact hFg
  · simp [invoke, go_sem, eg]
  · exact h fn hfn R hR
/-- one round of a loop whose body never leaves; the assigning may lay blocks -/
theorem round_at9 {F : Fence} {m : Nat} {P : Program} {R Rb : Loop} {l : Nat} {args : Array Value} {W W1 : World} {a1 : Act} {Go : World → Prop}
    (hRb : Rb = { R with state := .busy })
    (hF : F.fn R.fn) (hl0 : W.heap[l]? = some (.loop R)) (hl : W1.heap[l]? = some (.loop R)) (hs : args.size = R.params.size) (hst : R.state = .ready) (hpe : R.pending = none)
    (hassign : ∀ K : Act → World → Prop, K a1 W1 → R.assign.wpIn (F.inRound l) m P (Exit.then K (fun _ _ _ => False)) { tmps := (R.params.zip args).foldl (fun t (p, v) => t.setIfInBounds p v) R.tmps, defers := [] } W)
    (hbody : R.body.wpIn (F.inRound l) m P (fun e _ U => match e with
      | .normal => U.heap[l]? = some (.loop Rb) ∧ Go U
      | _ => False) a1 (W1.putObj l (.loop Rb))) :
    YieldAt F m P l args W fun e U' => e = .returned (.bool true) ∧ ∃ U, U.heap[l]? = some (.loop Rb) ∧ Go U ∧ U' = U.putObj l (.loop R) := by
  subst hRb
  refine ⟨R.fn, _, R.assign, R.body, run_yield hl0 hs, roundIn_of_wpIn hF (hassign _ ⟨_, run_beginRound hl hst, wpIn_mono hbody ?_⟩)⟩
  rintro e a U h
  cases e with
  | normal =>
    refine ⟨_, _, run_endRound none h.1, rfl, U, h.1, h.2, ?_⟩
    obtain ⟨_, _⟩ := R
    simp_all
  | ret => exact h.elim
  | exit id => exact h.elim
  | goto t => exact h.elim
  | panic ch => exact h.elim
  | outgrown => exact h.elim
theorem backward_F (v : Value) (a : Option Addr) (sl sc : Nat) (hv : v = .slice a sl sc) (w : World) : Calls Tryd.prog 42 #[v] w fun e w' =>
    e = .returned (.func (.func 62) #[] #[.pointer (some ⟨w.heap.size, 0, none⟩)]) ∧ w' = w.alloc (.cells #[v] 23) := by
  subst hv
  go_enter Tryd.func42, Tryd.ntmps42
  go_wp2
  go_ret
  exact ⟨rfl, rfl⟩
set_option maxHeartbeats 8000000 in
theorem backward1_in (n : Nat) (hn : 1 ≤ n) (l bs : Nat) (a : Option Addr) (sl sc : Nat) (ss : List Stp) (hsl : sl = ss.length) (hcs : sl ≤ sc) (hs9 : sl ≤ 4096) (J : Nat → World → Prop)
    (hbx : ∀ j W, J j W → W.heap[bs]? = some (.cells #[.slice a sl sc] 23 (0, 0)) ∧ StpW W a ss)
    (hY : ∀ j s W, ss[j]? = some s → J (j + 1) W → YieldAt Fence.wide (n - 1) Tryd.prog l #[.int .i64 j, .agg #[.int .i64 s.op, .int .i64 s.dst, .int .i64 s.src, .int .u8 (s.c.toNat : Int)]] W fun e W' => e = .returned (.bool true) ∧ J j W')
    (W0 : World) (h0 : J sl W0) :
    CallsIn Fence.wide n Tryd.prog 62 #[.func (.yield l) #[] #[], .pointer (some ⟨bs, 0, none⟩)] W0 fun e W' => (∃ v, e = .returned v) ∧ J 0 W' := by
  have HBX : Hid _ := hbx
  have HY : Hid _ := hY
  have HSL : Hid (sl = ss.length) := hsl
  have c1 := cellAt (hbx _ _ h0).1 0 _ rfl
  have H0 : Hid _ := h0
  clear hbx hY h0 hsl
  refine callsIn_of_wp Tryd.func62 rfl trivial ?_ rfl
  simp only [Tryd.ntmps62, List.size_toArray, List.length_cons, List.length_nil, Nat.reduceAdd, Nat.reduceSub, Array.replicate_succ, Array.replicate_zero, List.push_toArray, List.append_toArray, List.nil_append, List.cons_append]
  gi_wp2
  gi_loopw [3] (fun i wr => ∃ (j : Nat) (x : Int), x = (j : Int) - 1 ∧ j ≤ sl ∧ i = .int .i64 x ∧ J j wr) (fun i _ => (intOf i + 1).toNat)
  case atStart => exact ⟨sl, (sl : Int) - 1, rfl, Nat.le_refl _, by first | rfl | go_num, H0.out⟩
  case round =>
    obtain ⟨j, x, hx, hj, rfl, hJ⟩ := hrel
    have HJ : Hid _ := hJ
    have c1 := cellAt (HBX.out _ _ hJ).1 0 _ rfl
    have hst := (HBX.out _ _ hJ).2
    clear hJ
    rcases j with _ | p
    · obtain rfl : x = -1 := by omega
      clear hx
      gi_wp2
      go_end0
      exact ⟨⟨_, rfl⟩, HJ.out⟩
    · obtain rfl : x = (p : Int) := by omega
      have hps : p < ss.length := by rw [← HSL.out]; omega
      have hget : ss[p]? = some ss[p] := List.getElem?_eq_getElem hps
      obtain ⟨b, off, rfl, hc⟩ := stpW_get hst hps
      obtain ⟨k0, k1, k2, k3⟩ := hc p hps
      obtain ⟨⟨op, dst, src, c⟩, hs⟩ : ∃ s, ss[p] = s := ⟨_, rfl⟩
      rw [hs] at k0 k1 k2 k3 hget
      simp only at k0 k1 k2 k3
      obtain ⟨fn, tmps, assign, body, hy, hR⟩ := HY.out p _ wr hget HJ.out
      dsimp only at hy
      clear hc hs hget hst hx hps
      gi_wp2
      refine hR.mono ?_
      rintro e W' ⟨rfl, hJ'⟩
      have HJ2 : Hid _ := hJ'
      clear hJ'
      gi_wp2
      exact ⟨⟨p, (p : Int) - 1, rfl, by omega, by first | rfl | go_num, HJ2.out⟩, by simp [intOf] <;> omega⟩
end Go.Proofs.YtbjjmlebpohmcaaDoor

/- Lists of numbers and of steps copied behind an empty list of one's own; Clone of the library at numbers. -/
namespace Go.Proofs.YtbjjmlebpohmcaaDoor
open Go.RowKit Gf
set_option linter.unusedVariables false
set_option maxRecDepth 20000
set_option linter.unusedSimpArgs false
theorem appendI_zero (w : World) (p : Addr) (a : Option Addr) (ca : Nat) (ty : TypeId) :
    (Builtin.append_ #[22, 22] ty #[.slice (some p) 0 0, .slice a 0 ca]).run Tryd.prog w = .ok (.slice (some p) 0 0) w := by
  obtain ⟨i, hi, h1, h2, h3⟩ := infoI
  cases a <;> simp [Builtin.append_, run_underlying Tryd.underlying22, sizeOf, typeInfo, hi, Builtin.lenOf, Builtin.firstCells, loadCells, loadCellsFrom, storeCells]
theorem appendT_zero (w : World) (p : Addr) (a : Option Addr) (ca : Nat) (ty : TypeId) :
    (Builtin.append_ #[23, 23] ty #[.slice (some p) 0 0, .slice a 0 ca]).run Tryd.prog w = .ok (.slice (some p) 0 0) w := by
  obtain ⟨i, hi, h1, h2, h3⟩ := infoT4
  cases a <;> simp [Builtin.append_, run_underlying Tryd.underlying23, sizeOf, typeInfo, hi, Builtin.lenOf, Builtin.firstCells, loadCells, loadCellsFrom, storeCells]
theorem own_empty {w : World} {g : Nat} {e : TypeId} {size : Nat} (h : w.heap[g]? = some (.cells #[] e (0, 0))) {B : Nat} (hB : B ≤ g) : w.ownsRow B e size (.slice (some ⟨g, 0, none⟩) 0 0) 0 [] :=
  ⟨by simp, .inr ⟨g, 0, _, rfl, hB, h, Nat.le_refl _, Nat.zero_le _, by simp, by simp⟩⟩
/-- numbers copied behind an empty list -/
theorem copyI {w : World} {B g0 l ca : Nat} {a : Option Addr} {xs : List Int} (ty : TypeId) (ho : w.ownsRow B 3 1 (.slice (some ⟨g0, 0, none⟩) 0 0) 0 []) (hl : l = xs.length) (hl9 : l * 8 ≤ 140737488355328) (hx : RowI w a xs) (hB : B ≤ w.heap.size) :
    ∃ g cap w', (Builtin.append_ #[22, 22] ty #[.slice (some ⟨g0, 0, none⟩) 0 0, .slice a l ca]).run Tryd.prog w = .ok (.slice (some ⟨g, 0, none⟩) l cap) w' ∧
      w'.ownsRow B 3 1 (.slice (some ⟨g, 0, none⟩) l cap) l (xs.map (Value.int .i64)) ∧ w.grownBy w' (some g0) ∧ (g = g0 ∨ g = w.heap.size) := by
  by_cases h0 : l = 0
  · subst h0
    obtain rfl : xs = [] := List.eq_nil_of_length_eq_zero hl.symm
    exact ⟨g0, 0, w, appendI_zero _ _ _ _ _, ho, World.grownBy.refl _ _, .inl rfl⟩
  · rcases hx with rfl | ⟨b, off, rfl, hc⟩
    · exact absurd hl h0
    obtain ⟨i, hi, h2, h3, h4⟩ := infoI
    obtain ⟨g, cap, w', h1, h5, h6, h7, h8⟩ := run_append_lies (P := Tryd.prog) w 22 ty B 3 i _ 1 8 Tryd.underlying22 hi h4 h2 h3 rfl (by decide) _ 0 [] ho ⟨b, off, none⟩ l ca (xs.map (Value.int .i64)) (by rw [List.length_map, Nat.mul_one, hl]) (fun j u hu => by
      have ha : (⟨b, off, none⟩ : Addr).add j = ⟨b, off + j, none⟩ := by unfold Addr.add; split <;> simp_all
      rw [ha]
      rw [List.getElem?_map, Option.map_eq_some_iff] at hu
      obtain ⟨x, hx, rfl⟩ := hu
      exact hc j x hx) (fun u hu => by obtain ⟨x, _, rfl⟩ := List.mem_map.1 hu; rfl) (by omega) (by simp only [maxLen]; omega) (by omega) hB _ rfl
    rw [Nat.zero_add] at h1 h5
    rw [List.nil_append] at h5
    refine ⟨g, cap, w', h1, h5, h6, h7.imp (fun e => ?_) id⟩
    exact (Option.some.inj e).symm
theorem copyT {w : World} {B g0 l ca : Nat} {a : Option Addr} {ss : List Stp} (ty : TypeId) (ho : w.ownsRow B 48 4 (.slice (some ⟨g0, 0, none⟩) 0 0) 0 []) (hl : l = ss.length) (hl9 : l * 32 ≤ 140737488355328) (hx : StpW w a ss) (hB : B ≤ w.heap.size) :
    ∃ g cap w', (Builtin.append_ #[23, 23] ty #[.slice (some ⟨g0, 0, none⟩) 0 0, .slice a l ca]).run Tryd.prog w = .ok (.slice (some ⟨g, 0, none⟩) l cap) w' ∧
      w'.ownsRow B 48 4 (.slice (some ⟨g, 0, none⟩) l cap) l (stpsL ss) ∧ w.grownBy w' (some g0) ∧ (g = g0 ∨ g = w.heap.size) := by
  by_cases h0 : l = 0
  · subst h0
    obtain rfl : ss = [] := List.eq_nil_of_length_eq_zero hl.symm
    exact ⟨g0, 0, w, appendT_zero _ _ _ _ _, ho, World.grownBy.refl _ _, .inl rfl⟩
  · obtain ⟨b, off, rfl⟩ : ∃ b off, a = some ⟨b, off, none⟩ := by
      rcases hx with rfl | ⟨b, off, e, _⟩
      · exact absurd hl h0
      · exact ⟨b, off, e⟩
    have h0' : 0 < l := by omega
    have h32 : (0 + l) * 32 ≤ 140737488355328 := by rw [Nat.zero_add]; exact hl9
    obtain ⟨g, cap, w', h1, h5, h6, h7, h8⟩ := appendT (xs := []) (c := ca) ty ho hx hl h0' h32 hB
    rw [Nat.zero_add] at h1 h5
    exact ⟨g, cap, w', h1, h5, h6, h7.imp (fun e => (Option.some.inj e).symm) id⟩
theorem ownI_row {w : World} {B l g cap : Nat} {xs : List Int} (ho : w.ownsRow B 3 1 (.slice (some ⟨g, 0, none⟩) l cap) l (xs.map (Value.int .i64))) : RowI w (some ⟨g, 0, none⟩) xs ∧ l ≤ cap ∧ cap ≤ maxLen := by
  refine ⟨rowI_own ho, ?_⟩
  rcases ho.2 with ⟨e, _⟩ | ⟨g', cap', cur, e, hB, hg, hle, h5, _⟩
  · cases e
  · cases e; exact ⟨hle, h5⟩
theorem ownT_row {w : World} {B l g cap : Nat} {ss : List Stp} (hl : l = ss.length) (ho : w.ownsRow B 48 4 (.slice (some ⟨g, 0, none⟩) l cap) l (stpsL ss)) : StpW w (some ⟨g, 0, none⟩) ss ∧ l ≤ cap ∧ cap ≤ maxLen := by
  obtain ⟨a, c, e, _, _, h⟩ := stpW_own hl ho
  rcases ho.2 with ⟨e2, _⟩ | ⟨g', cap', cur, e2, hB, hg, hle, h5, _⟩
  · cases e2
  · cases e2; cases e; exact ⟨h, hle, h5⟩
theorem ownI_facts {w : World} {B l c : Nat} {a : Option Addr} {xs : List Int} (ho : w.ownsRow B 3 1 (.slice a l c) l (xs.map (Value.int .i64))) : RowI w a xs ∧ l ≤ c ∧ (a = none → c = 0) ∧ l = xs.length ∧ ∀ p, a = some p → p.block < w.heap.size ∧ B ≤ p.block := by
  have hl : l = xs.length := by have := ho.1; rw [List.length_map] at this; omega
  rcases ho.2 with ⟨e, h0⟩ | ⟨g, cap, cur, e, hB, hg, hle, h5, h6, h7⟩
  · cases e
    exact ⟨.inl (List.eq_nil_of_length_eq_zero (by omega)), by omega, fun _ => rfl, hl, fun p e => by cases e⟩
  · cases e
    exact ⟨rowI_own ho, hle, fun e => (by cases e), hl, fun p e => by cases e; exact ⟨ltHeap hg, hB⟩⟩
set_option maxHeartbeats 4000000 in
theorem clone_F (l cap : Nat) (a : Option Addr) (xs : List Int) (w : World) (hl : l = xs.length) (hl9 : l ≤ 1000) (hcap : l ≤ cap) (hnil : a = none → cap = 0) (hX : RowI w a xs) :
    Calls Tryd.prog 30 #[.slice a l cap] w fun e w' => ∃ a' c', e = .returned (.slice a' l c') ∧ w'.ownsRow w.heap.size 3 1 (.slice a' l c') l (xs.map (Value.int .i64)) ∧ Below w.heap.size w w' := by
  have q22 : ∀ (w : World) (a : Option Addr) (n c n' c' : Nat), (binOp .eql 22 (.slice a n c) (.slice none n' c')).run Tryd.prog w = .ok (.bool a.isNone) w := fun w a n c n' c' => Lib.run_eql_slice_nil w _ _ a n c n' c' Tryd.underlying22
  cases a with
  | none =>
    obtain rfl := hnil rfl
    obtain rfl : l = 0 := by omega
    obtain rfl : xs = [] := List.eq_nil_of_length_eq_zero hl.symm
    have HX : Hid (w.ownsRow w.heap.size 3 1 (.slice none 0 0) 0 (([] : List Int).map (Value.int .i64))) := World.ownsRow_nil _ _ _ _
    clear hX hl
    go_enter Tryd.func30, Tryd.ntmps30
    go_wp2
    go_ret
    exact ⟨none, 0, rfl, HX.out, Below.refl _ _⟩
  | some p =>
    have hb := (Below.refl w.heap.size w).alloc (Nat.le_refl _) (.cells #[] 3)
    have ho := own_empty (size := 1) (B := w.heap.size) (heap_alloc_last w (.cells #[] 3)) (Nat.le_refl _)
    obtain ⟨g, cp, w', h1, h2, h3, h4⟩ := copyI (ca := cap) 22 ho hl (by omega) (rowI_below hX hb) hb.size
    have HAP : Hid _ := h1
    have HR : Hid (w'.ownsRow w.heap.size 3 1 (.slice (some ⟨g, 0, none⟩) l cp) l (xs.map (Value.int .i64))) := h2
    have HB : Hid (Below w.heap.size w w') := below_own hb ho h3 hb.size
    clear hX hl hb ho h1 h2 h3 h4
    go_enter Tryd.func30, Tryd.ntmps30
    go_wp2_with (at_builtin; refine wpList_append_run rfl _ _ 22 rfl _ _ _ _ rfl rfl HAP.out ?_)
    go_ret
    exact ⟨some ⟨g, 0, none⟩, cp, rfl, HR.out, HB.out⟩
end Go.Proofs.YtbjjmlebpohmcaaDoor

/- What busy of package prog answers of steps in form: those that are not idle. -/
namespace Go.Proofs.YtbjjmlebpohmcaaDoor
open Go.RowKit Go.Shelf Gf
set_option linter.unusedVariables false
set_option maxRecDepth 20000
set_option linter.unusedSimpArgs false
attribute [local go_sem] Oper.semAt_some
/-- what stands between two rounds, j steps being left -/
structure ByC (N : Nat) (w W : World) (sa : Option Addr) (sl sc : Nat) (ss : List Stp) (j : Nat) : Prop where
  ask : W.heap[N]? = some (.cells (visB (askN (liv (ss.drop j)))) 86 (0, 0))
  kept : ∃ a m c, W.heap[N + 1]? = some (.cells #[.slice a m c] 23 (0, 0)) ∧ m = (trimS (ss.drop j)).length ∧ W.ownsRow (N + 5) 48 4 (.slice a m c) m (stpsL (trimS (ss.drop j)).reverse)
  box : W.heap[N + 2]? = some (.cells #[.slice sa sl sc] 23 (0, 0))
  dfr : W.heap[N + 3]? = some (.deferred (some []))
  size : N + 5 ≤ W.heap.size
  bel : Below N w W
theorem ByC.put {N sl sc j : Nat} {w W : World} {sa : Option Addr} {ss : List Stp} (h : ByC N w W sa sl sc ss j) (o : Obj) : ByC N w (W.putObj (N + 4) o) sa sl sc ss j :=
  ⟨put_other9 h.ask (by omega), by obtain ⟨a, m, c, h1, h2, h3⟩ := h.kept; exact ⟨a, m, c, put_other9 h1 (by omega), h2, own_put9 h3 (by omega)⟩, put_other9 h.box (by omega), put_other9 h.dfr (by omega), by have := h.size; simpa using this, below_put9 h.bel (by omega) (by have := h.size; omega)⟩
theorem ByC.alloc {N sl sc j : Nat} {w W : World} {sa : Option Addr} {ss : List Stp} (h : ByC N w W sa sl sc ss j) (o : Obj) : ByC N w (W.alloc o) sa sl sc ss j := by
  have hb := (Below.refl W.heap.size W).alloc (Nat.le_refl _) o
  have hs := h.size
  exact ⟨heap_later h.ask hb, by obtain ⟨a, m, c, h1, h2, h3⟩ := h.kept; exact ⟨a, m, c, heap_later h1 hb, h2, own_below h3 hb⟩, heap_later h.box hb, heap_later h.dfr hb, by simp; omega, h.bel.alloc (by omega) _⟩
theorem own_lower9 {w : World} {B B' size n : Nat} {v : Value} {e : TypeId} {xs : List Value} (h : w.ownsRow B e size v n xs) (hb : B' ≤ B) : w.ownsRow B' e size v n xs :=
  ⟨h.1, h.2.imp id fun ⟨g, cap, cur, h1, h2, h3⟩ => ⟨g, cap, cur, h1, Nat.le_trans hb h2, h3⟩⟩
theorem bsy_drop {ss : List Stp} {j : Nat} {s : Stp} (h : ss[j]? = some s) : ss.drop j = s :: ss.drop (j + 1) := by
  have hp : j < ss.length := (List.getElem?_eq_some_iff.1 h).1
  rw [List.drop_eq_getElem_cons hp]
  congr 1
  exact (List.getElem?_eq_some_iff.1 h).2
theorem ask0 : visB (askN (liv [])) = #[.bool false, .bool false, .bool false, .bool false, .bool false, .bool false, .bool false, .bool false, .bool false, .bool false, .bool false, .bool false, .bool false, .bool false, .bool false, .bool false, .bool false, .bool false, .bool false, .bool false, .bool false, .bool false, .bool false, .bool false, .bool false, .bool false, .bool false, .bool false, .bool false, .bool false, .bool false, .bool false, .bool false, .bool false, .bool false, .bool false, .bool false, .bool false, .bool false, .bool false, .bool false, .bool false, .bool false, .bool false, .bool false, .bool false, .bool false, .bool false, .bool false, .bool false, .bool false, .bool false, .bool false, .bool false, .bool false, .bool false, .bool false, .bool false, .bool false, .bool false, .bool false, .bool false, .bool false, .bool false] := by rfl
set_option maxRecDepth 100000 in
set_option maxHeartbeats 16000000 in
theorem busy_in (sa : Option Addr) (sl sc ni no rg : Nat) (ss : List Stp) (w : World) (hsl : sl = ss.length) (hcs : sl ≤ sc) (hs9 : sl ≤ 4096) (hrg : rg ≤ 64) (hok : ∀ s ∈ ss, OkS ni no rg s) (hS : StpW w sa ss) :
    CallsIn Fence.wide 5 Tryd.prog 31 #[.slice sa sl sc] w fun e w' => (∃ a m c, e = .returned (.slice a m c) ∧ m = (trimS ss).length ∧ w'.ownsRow (w.heap.size + 5) 48 4 (.slice a m c) m (stpsL (trimS ss))) ∧ Below w.heap.size w w' := by
  have HSL : Hid (sl = ss.length) := hsl
  have HS : Hid (StpW w sa ss) := hS
  have HOK : Hid (∀ s ∈ ss, OkS ni no rg s) := hok
  clear hsl hS hok
  refine callsIn_of_wp_marks Tryd.func31 rfl trivial ?_ rfl
  simp only [Tryd.ntmps31, List.size_toArray, List.length_cons, List.length_nil, Nat.reduceAdd, Nat.reduceSub, Array.replicate_succ, Array.replicate_zero, List.push_toArray, List.append_toArray, List.nil_append, List.cons_append]
  gi_wp2_with fail
  refine ⟨trivial, (callsIn_wide.2 (backward_F (.slice sa sl sc) sa sl sc rfl _)).mono ?_⟩
  rintro e w2 ⟨rfl, hw2⟩
  have hA := holds_new (holds_new (holds_new (holds_nil w) (visB (askN (liv []))) 86) #[.slice none 0 0] 23) #[.slice sa sl sc] 23
  have hB := ((((Below.refl _ w).alloc (Nat.le_refl _) (.cells (visB (askN (liv []))) 86)).alloc (by simp) (.cells #[.slice none 0 0] 23)).alloc (by simp; omega) (.cells #[.slice sa sl sc] 23))
  rw [ask0] at hA hB
  rw [← hw2] at hA hB
  have hsz2 : w2.heap.size = w.heap.size + 3 := by rw [hw2]; simp
  simp only [World.size_alloc] at hA ⊢
  have HA : Hid _ := hA
  have HB : Hid (Below w.heap.size w w2) := hB
  clear hA hB hw2
  gi_wp2
  refine range_enter9 (gf := 62) (lb := #[.pointer (some ⟨w.heap.size + 1 + 1, 0, none⟩)]) rfl (by omega) rfl trivial (enters_of Tryd.func62 (by kernel_rfl) rfl) ?_
  intro fn hfn R hR
  rw [hsz2]
  obtain ⟨N, hN⟩ : ∃ N, N = w.heap.size := ⟨_, rfl⟩
  rw [← hN] at HA HB hsz2 hR ⊢
  have HN : Hid (N = w.heap.size) := hN
  clear hN
  have g0 := holds_at HA.out 2 rfl
  have g1 := holds_at HA.out 1 rfl
  have g2 := holds_at HA.out 0 rfl
  rw [← ask0] at g0
  have hB9 : Below N w w2 := HB.out
  have hszN : w2.heap.size = N + 3 := hsz2
  refine (backward1_in (5 - 1) (by omega) (N + 3 + 1) (N + 1 + 1) sa sl sc ss HSL.out hcs hs9 (fun j W => ByC N w W sa sl sc ss j ∧ W.heap[N + 4]? = some (.loop R)) ?hbx ?hY _ ?h0).mono ?_
  case hbx => exact fun j W h => ⟨h.1.box, stpW_below HS.out (by rw [← HN.out]; exact h.1.bel)⟩
  case h0 =>
    have ho : ∀ {q : Nat} {o : Obj}, w2.heap[q]? = some o → ((w2.alloc (.deferred (some []))).alloc (.loop R)).heap[q]? = some o := fun {q o} h => (Below.heap_alloc _ _ _ (by simp; have := (Array.getElem?_eq_some_iff.1 h).1; omega)).trans ((Below.heap_alloc _ _ _ (Array.getElem?_eq_some_iff.1 h).1).trans h)
    have hd : ((w2.alloc (.deferred (some []))).alloc (.loop R)).heap[N + 3]? = some (.deferred (some [])) := by
      rw [← hszN]; exact (Below.heap_alloc _ _ _ (by simp)).trans (World.alloc_heap_new w2 _)
    have hl : ((w2.alloc (.deferred (some []))).alloc (.loop R)).heap[N + 4]? = some (.loop R) := by
      have := World.alloc_heap_new (w2.alloc (.deferred (some []))) (.loop R)
      rw [World.size_alloc, hszN] at this
      exact this
    refine ⟨⟨?_, ⟨none, 0, 0, ho g1, ?_, ?_⟩, ho g2, hd, by simp; omega, (hB9.alloc (by omega) _).alloc (by simp; omega) _⟩, hl⟩
    · rw [HSL.out, List.drop_length]; exact ho g0
    · rw [HSL.out, List.drop_length]; rfl
    · rw [HSL.out, List.drop_length]; exact World.ownsRow_nil _ _ _ _
  case hY =>
    rintro j ⟨op, dst, src, c⟩ W hget ⟨hp, hl⟩
    have hok := HOK.out _ (List.mem_of_getElem? hget)
    have hop : 1 ≤ op ∧ op ≤ 5 := by unfold OkS at hok; simp only at hok; omega
    have hd5 : op ≠ 5 → 0 ≤ dst ∧ dst < 64 := fun e => by unfold OkS at hok; simp only at hok; omega
    have hs45 : op = 4 ∨ op = 5 → 0 ≤ src ∧ src < 64 := fun e => by unfold OkS at hok; simp only at hok; omega
    have HDR : Hid (ss.drop j = ⟨op, dst, src, c⟩ :: ss.drop (j + 1)) := bsy_drop hget
    have hjl : (ss.drop (j + 1)).length ≤ 4096 := by rw [List.length_drop]; have := HSL.out; omega
    have hRb := congrArg Loop.body hR
    have hRa := congrArg Loop.assign hR
    have hRt := congrArg Loop.tmps hR
    have hRp := congrArg Loop.params hR
    have hRs := congrArg Loop.state hR
    have hRe := congrArg Loop.pending hR
    dsimp only at hRb hRa hRt hRp hRs hRe
    obtain ⟨Rb, hRb2⟩ : ∃ Rb : Loop, Rb = { R with state := .busy } := ⟨_, rfl⟩
    have hW1 : (W.alloc (.cells #[.int .i64 op, .int .i64 dst, .int .i64 src, .int .u8 (c.toNat : Int)] 48)).heap[N + 3 + 1]? = some (.loop R) := heap_later hl ((Below.refl _ _).alloc (Nat.le_refl _) _)
    have hYY := round_at9 (F := Fence.wide) (m := 5 - 1 - 1) (P := Tryd.prog) (l := N + 3 + 1) (args := #[.int .i64 j, .agg #[.int .i64 op, .int .i64 dst, .int .i64 src, .int .u8 (c.toNat : Int)]]) (W := W) (W1 := W.alloc (.cells #[.int .i64 op, .int .i64 dst, .int .i64 src, .int .u8 (c.toNat : Int)] 48)) (Go := fun U => ByC N w U sa sl sc ss j)
      (a1 := { tmps := #[.slice sa sl sc, undef, .slice none 0 0, .pointer (some ⟨N, 0, none⟩), .pointer (some ⟨N + 1, 0, none⟩), undef, .pointer (some ⟨W.heap.size, 0, none⟩), .slice sa sl sc, .func (.func 62) #[] #[.pointer (some ⟨N + 1 + 1, 0, none⟩)], .int .i64 j, .agg #[.int .i64 op, .int .i64 dst, .int .i64 src, .int .u8 (c.toNat : Int)], undef, undef, undef, undef, undef, undef, undef, undef, undef, undef], defers := [] })
      hRb2 trivial hl hW1 (by rw [hRp]; rfl) hRs hRe ?asg ?bod
    case asg =>
      intro K hK
      rw [hRa, hRt, hRp]
      gi_wp2
      exact hK
    case bod =>
      rw [hRb]
      have hpU := (hp.alloc (.cells #[.int .i64 op, .int .i64 dst, .int .i64 src, .int .u8 (c.toNat : Int)] 48)).put (.loop Rb)
      have hlU : ((W.alloc (.cells #[.int .i64 op, .int .i64 dst, .int .i64 src, .int .u8 (c.toNat : Int)] 48)).putObj (N + 4) (.loop Rb)).heap[N + 4]? = some (.loop Rb) := World.putObj_heap_same (Array.getElem?_eq_some_iff.1 hW1).1
      have hbU : ((W.alloc (.cells #[.int .i64 op, .int .i64 dst, .int .i64 src, .int .u8 (c.toNat : Int)] 48)).putObj (N + 4) (.loop Rb)).heap[W.heap.size]? = some (.cells #[.int .i64 op, .int .i64 dst, .int .i64 src, .int .u8 (c.toNat : Int)] 48 (0, 0)) := put_other9 (heap_alloc_last _ _) (by have := hp.size; omega)
      have hbN : N + 5 ≤ W.heap.size := hp.size
      clear hRb hRa hRt hRp hRs hRe hRb2 hR hl hW1 hp g0 g1 g2 hB9 hsz2 hszN
      show Code.wpIn _ _ _ _ _ _ ((W.alloc (.cells #[.int .i64 op, .int .i64 dst, .int .i64 src, .int .u8 (c.toNat : Int)] 48)).putObj (N + 4) (.loop Rb))
      generalize ((W.alloc (.cells #[.int .i64 op, .int .i64 dst, .int .i64 src, .int .u8 (c.toNat : Int)] 48)).putObj (N + 4) (.loop Rb)) = U at *
      generalize W.heap.size = bx at *
      have HPU : Hid _ := hpU
      have HLU : Hid _ := hlU
      have HBU : Hid _ := hbU
      have b0 := cellAt hbU 0 _ rfl
      have b1 := cellAt hbU 1 _ rfl
      have b2 := cellAt hbU 2 _ rfl
      have b3 := cellAt hbU 3 _ rfl
      have HIF : Hid _ := idle_F N (liv (ss.drop (j + 1))) op dst src c U hop hd5 hs45 hpU.ask
      clear hpU hlU hbU hop hd5 hs45 hok hget
      gi_wp2_with fail
      refine ⟨trivial, CallsIn.inRound _ ((callsIn_wide.2 HIF.out).mono ?_)⟩
      rintro e w4 ⟨rfl, hask4, hg4⟩
      obtain ⟨b, hb⟩ : ∃ b, b = bsyS ⟨op, dst, src, c⟩ (liv (ss.drop (j + 1))) := ⟨_, rfl⟩
      rw [← hb] at hask4 ⊢
      have HBB : Hid (b = bsyS ⟨op, dst, src, c⟩ (liv (ss.drop (j + 1)))) := hb
      have hkeep : ∀ {q : Nat} {o : Obj}, q ≠ N → U.heap[q]? = some o → w4.heap[q]? = some o := fun {q o} hq hu => (hg4.block q (Array.getElem?_eq_some_iff.1 hu).1 (by simpa using hq)).trans hu
      obtain ⟨a, m, cp, k1, k2, k3⟩ := HPU.out.kept
      have hown4 : w4.ownsRow (N + 5) 48 4 (.slice a m cp) m (stpsL (trimS (ss.drop (j + 1))).reverse) := ⟨k3.1, k3.2.imp id fun ⟨g, cap, cur, q1, q2, q3, q4⟩ => ⟨g, cap, cur, q1, q2, hkeep (by omega) q3, q4⟩⟩
      have HK1 : Hid (w4.heap[N + 1]? = some (.cells #[.slice a m cp] 23 (0, 0))) := hkeep (by omega) k1
      have HK2 : Hid (w4.heap[N + 1 + 1]? = some (.cells #[.slice sa sl sc] 23 (0, 0))) := hkeep (by omega) HPU.out.box
      have HK3 : Hid (w4.heap[N + 3]? = some (.deferred (some []))) := hkeep (by omega) HPU.out.dfr
      have HK4 : Hid (w4.heap[N + 4]? = some (.loop Rb)) := hkeep (by omega) HLU.out
      have HBX : Hid (w4.heap[bx]? = some (.cells #[.int .i64 op, .int .i64 dst, .int .i64 src, .int .u8 (c.toNat : Int)] 48 (0, 0))) := hkeep (by omega) HBU.out
      have HZ4 : Hid (N + 5 ≤ w4.heap.size) := Nat.le_trans HPU.out.size hg4.size
      have HB4 : Hid (Below N w w4) := HPU.out.bel.grown hg4 (by have := HPU.out.size; omega) (fun k e => by cases e; exact Nat.le_refl _)
      have HASK : Hid _ := hask4
      have HM : Hid (m = (trimS (ss.drop (j + 1))).length) := k2
      have HOW : Hid (w4.ownsRow (N + 5) 48 4 (.slice a m cp) m (stpsL (trimS (ss.drop (j + 1))).reverse)) := hown4
      have hm9 : m ≤ 4096 := by rw [k2]; exact Nat.le_trans (trim_len _) hjl
      clear hask4 hg4 hb hkeep k1 k2 k3 hown4 b0 b1 b2 b3 hjl
      cases b
      · have HT : Hid (trimS (ss.drop j) = trimS (ss.drop (j + 1)) ∧ liv (ss.drop j) = liv (ss.drop (j + 1))) := by
          rw [HDR.out, trimS, liv, ← HBB.out]; exact ⟨rfl, rfl⟩
        gi_wp2
        refine ⟨HK4.out, ⟨?_, ⟨a, m, cp, HK1.out, ?_, ?_⟩, HK2.out, HK3.out, HZ4.out, HB4.out⟩⟩
        · rw [HT.out.2]; exact HASK.out
        · rw [HT.out.1]; exact HM.out
        · rw [HT.out.1]; exact HOW.out
      · have HT : Hid (trimS (ss.drop j) = ⟨op, dst, src, c⟩ :: trimS (ss.drop (j + 1)) ∧ liv (ss.drop j) = aftS ⟨op, dst, src, c⟩ (liv (ss.drop (j + 1)))) := by
          rw [HDR.out, trimS, liv, ← HBB.out]; exact ⟨rfl, rfl⟩
        have c1 := cellAt HK1.out 0 _ rfl
        have b0 := cellAt HBX.out 0 _ rfl
        have b1 := cellAt HBX.out 1 _ rfl
        have b2 := cellAt HBX.out 2 _ rfl
        have b3 := cellAt HBX.out 3 _ rfl
        have hx5 := heap_alloc_last w4 (.cells #[.int .i64 op, .int .i64 dst, .int .i64 src, .int .u8 (c.toNat : Int)] 48)
        have hst5 : StpW (w4.alloc (.cells #[.int .i64 op, .int .i64 dst, .int .i64 src, .int .u8 (c.toNat : Int)] 48)) (some ⟨w4.heap.size, 0, none⟩) [⟨op, dst, src, c⟩] := stpW_cells (o := 0) hx5 fun q hq => by rw [Nat.zero_add, ← List.getElem?_toArray]; rfl
        have hbel5 := (Below.refl w4.heap.size w4).alloc (Nat.le_refl _) (.cells #[.int .i64 op, .int .i64 dst, .int .i64 src, .int .u8 (c.toNat : Int)] 48)
        have ho5 := own_below HOW.out hbel5
        obtain ⟨g6, cp6, w6, hrun, ho6, hg6, hor6, hlt6⟩ := appendT (c := 1) 23 ho5 hst5 (show 1 = ([⟨op, dst, src, c⟩] : List Stp).length from rfl) (by omega) (by omega) (by have := HZ4.out; simp; omega)
        have keep6 : ∀ {q : Nat} {o : Obj}, q < N + 5 → w4.heap[q]? = some o → w6.heap[q]? = some o := fun {q o} hq hu => (hg6.block q (by simp; have := HZ4.out; omega) (fun e => by have := (ho5.lt q e.symm).1; omega)).trans (heap_later hu hbel5)
        have hb6 : Below N w w6 := below_own (HB4.out.alloc (by have := HZ4.out; omega) _) (own_lower9 ho5 (show N ≤ N + 5 by omega)) hg6 (by have := HZ4.out; simp; omega)
        have k1 := keep6 (by omega) HK1.out
        have f1 : w6.frozen? ⟨N + 1, 0, none⟩ = false := frozen_of_row _ _ _ _ _ k1
        have c6 := cellAt k1 0 _ rfl
        have HZ6 : Hid (N + 5 ≤ w6.heap.size) := by have h1 := hg6.size; have h2 := HZ4.out; show _ ≤ _; simp at h1; omega
        have HRun : Hid _ := hrun
        have HO6 : Hid (w6.ownsRow (N + 5) 48 4 (.slice (some ⟨g6, 0, none⟩) (m + 1) cp6) (m + 1) (stpsL ((trimS (ss.drop (j + 1))).reverse ++ [⟨op, dst, src, c⟩]))) := ho6
        have HB6 : Hid _ := hb6
        have HK6 : Hid _ := k1
        have HKEEP : Hid _ := @keep6
        clear hx5 hst5 hbel5 ho5 hrun ho6 hg6 hor6 hlt6 keep6 hb6 k1
        gi_wp2_with (gi_at_builtin; refine wpListIn_append_run9 rfl _ _ 23 rfl _ _ _ _ rfl rfl HRun.out ?_)
        have hs : ∀ {q : Nat} {o : Obj}, q < N + 5 → q ≠ N + 1 → w4.heap[q]? = some o → (w6.setCell ⟨N + 1, 0, none⟩ (.slice (some ⟨g6, 0, none⟩) (m + 1) cp6)).heap[q]? = some o := fun {q o} h1 h2 h3 => one_other9 (HKEEP.out h1 h3) h2
        refine ⟨hs (by omega) (by omega) HK4.out, ⟨?_, ⟨some ⟨g6, 0, none⟩, m + 1, cp6, one_same9 HK6.out, ?_, ?_⟩, hs (by omega) (by omega) HK2.out, hs (by omega) (by omega) HK3.out, by simpa using HZ6.out, HB6.out.setCell (p := ⟨N + 1, 0, none⟩) (by show N ≤ N + 1; omega) _⟩⟩
        · rw [HT.out.2]; exact hs (by omega) (by omega) HASK.out
        · rw [HT.out.1, List.length_cons, HM.out]
        · rw [HT.out.1, List.reverse_cons]
          exact ⟨HO6.out.1, HO6.out.2.imp id fun ⟨g, cap, cur, q1, q2, q3, q4⟩ => ⟨g, cap, cur, q1, q2, one_other9 q3 (by omega), q4⟩⟩
    obtain ⟨fn', tm', as', bd', hy, hRr⟩ := hYY
    refine ⟨fn', tm', as', bd', hy, hRr.mono ?_⟩
    rintro e W' ⟨rfl, U, hU, h1', rfl⟩
    exact ⟨rfl, h1'.put _, World.putObj_heap_same (Array.getElem?_eq_some_iff.1 hU).1⟩
  rintro e W2 ⟨⟨v, rfl⟩, hp, hl⟩
  have he := run_endLoop (P := Tryd.prog) hl (by rw [hR]; simp)
  rw [show R.pending = none by rw [hR]] at he
  have hp2 := hp.put (.loop { R with state := .exhausted })
  obtain ⟨U, hU⟩ : ∃ U, U = W2.putObj (N + 4) (.loop { R with state := .exhausted }) := ⟨_, rfl⟩
  rw [← hU] at hp2
  have he2 : (Instr.endLoop (N + 3 + 1)).run Tryd.prog W2 = .ok none U := he.trans (by rw [hU, show R.pending = none by rw [hR]])
  refine ⟨none, U, he2, ?_⟩
  clear he he2 hR hp hl hU g0 g1 g2 hB9 hsz2 hszN
  dsimp only [List.cons_append, List.nil_append]
  obtain ⟨a, m, cp, k1, k2, k3⟩ := hp2.kept
  rw [List.drop_zero] at k2 k3
  have HK1 : Hid _ := k1
  have HM : Hid (m = (trimS ss).length) := k2
  have HOW : Hid (U.ownsRow (N + 5) 48 4 (.slice a m cp) m (stpsL (trimS ss).reverse)) := k3
  have HD3 : Hid _ := hp2.dfr
  have HBB : Hid _ := hp2.bel
  have HZ : Hid _ := hp2.size
  have hm9 : m ≤ 4096 := by rw [k2]; exact Nat.le_trans (trim_len _) (by have := HSL.out; omega)
  have c1 := cellAt k1 0 _ rfl
  clear hp2 k1 k2 k3
  gi_wp2_with fail
  refine ⟨trivial, (callsIn_wide.2 (reverse_F (N + 5) m (.slice a m cp) (trimS ss).reverse U HOW.out hm9)).mono ?_⟩
  rw [List.reverse_reverse]
  rintro e w7 ⟨rfl, ho7, hg7⟩
  have keep7 : ∀ {q : Nat} {o : Obj}, q < N + 5 → U.heap[q]? = some o → w7.heap[q]? = some o := fun {q o} hq hu => (hg7.block q (Array.getElem?_eq_some_iff.1 hu).1 (fun e => by have := (HOW.out.lt q e.symm).1; omega)).trans hu
  have hk7 := keep7 (by omega) HK1.out
  have c7 := cellAt hk7 0 _ rfl
  have HO7 : Hid (w7.ownsRow (N + 5) 48 4 (.slice a m cp) m (stpsL (trimS ss))) := ho7
  have HD7 : Hid _ := keep7 (by omega) HD3.out
  have HB7 : Hid (Below N w w7) := below_own HBB.out (own_lower9 HOW.out (show N ≤ N + 5 by omega)) hg7 (by have := HZ.out; omega)
  clear ho7 hg7 keep7 hk7
  gi_wp2
  obtain rfl := HN.out
  refine ⟨by simp, .inl ⟨_, _, rfl, run_takeDeferred HD7.out, ?_⟩⟩
  exact ⟨_, results_tmp rfl _ _ _, ⟨a, m, cp, rfl, HM.out, own_put9 HO7.out (by omega)⟩, below_put9 HB7.out (by omega) (Array.getElem?_eq_some_iff.1 HD7.out).1⟩
end Go.Proofs.YtbjjmlebpohmcaaDoor

/- What Trim of package prog answers of programs in form. -/
namespace Go.Proofs.YtbjjmlebpohmcaaDoor
open Go.RowKit Go.Shelf Gf
set_option linter.unusedVariables false
set_option maxRecDepth 20000
set_option linter.unusedSimpArgs false
theorem pbusy_F (sa : Option Addr) (sl sc ni no rg : Nat) (ss : List Stp) (w : World) (hsl : sl = ss.length) (hcs : sl ≤ sc) (hs9 : sl ≤ 4096) (hrg : rg ≤ 64) (hok : ∀ s ∈ ss, OkS ni no rg s) (hS : StpW w sa ss) :
    Calls Tryd.prog 31 #[.slice sa sl sc] w fun e w' => (∃ a m c, e = .returned (.slice a m c) ∧ m = (trimS ss).length ∧ w'.ownsRow (w.heap.size + 5) 48 4 (.slice a m c) m (stpsL (trimS ss))) ∧ Below w.heap.size w w' :=
  (callsIn_wide (n := 5)).1 (busy_in sa sl sc ni no rg ss w hsl hcs hs9 hrg hok hS)
theorem trim_in {ins outs : List Int} {rg : Int} {ss : List Stp} (h : InF ins outs rg ss) : InF ins outs rg (trimS ss) :=
  ⟨h.1, h.2.1, h.2.2.1, Nat.le_trans (trim_len _) h.2.2.2.1, fun s hs => h.2.2.2.2.1 s (trim_sub _ _ hs), fun d hd => (trim_outs (d : Int) ss).trans (h.2.2.2.2.2 d hd)⟩
theorem trim_mean (n no : Nat) (ss : List Stp) : meanL n no (trimS ss) = meanL n no ss := by
  unfold meanL meanRows meanR
  rw [run_trim]
theorem own_mono9 {w : World} {B B' size n : Nat} {v : Value} {e : TypeId} {xs : List Value} (h : w.ownsRow B e size v n xs) (hb : B' ≤ B) : w.ownsRow B' e size v n xs :=
  ⟨h.1, h.2.imp id fun ⟨g, cap, cur, h1, h2, h3⟩ => ⟨g, cap, cur, h1, Nat.le_trans hb h2, h3⟩⟩
theorem ownI_set {w : World} {B n g : Nat} {v u : Value} {xs : List Value} {e : TypeId} {size i : Nat} (ho : w.ownsRow B e size v n xs) (hg : g < B) : (w.setCell ⟨g, i, none⟩ u).ownsRow B e size v n xs :=
  ⟨ho.1, ho.2.imp id fun ⟨g', cap, cur, h1, h2, h3, h4⟩ => ⟨g', cap, cur, h1, h2, (heap_setCell_other _ _ _ _ (by show g' ≠ g; omega)).trans h3, h4⟩⟩
set_option maxRecDepth 100000 in
set_option maxHeartbeats 16000000 in
theorem trim_ok (ia oa sa : Option Addr) (il ic ol oc sl sc rg : Nat) (ins outs : List Int) (ss : List Stp) (w : World) (s : Addr) (hP : PrgW w ia oa sa il ic ol oc sl sc ins outs ss) (hs : w.cell? ⟨0, 0, none⟩ = some (errAt s)) (hF : InF ins outs rg ss) :
    Calls Tryd.prog 11 #[.agg #[.slice ia il ic, .slice oa ol oc, .int .i64 rg, .slice sa sl sc]] w fun e w' => ∃ a1 c1 a2 c2 a3 m c3 B2, e = .returned (.tuple #[.agg #[.slice a1 il c1, .slice a2 ol c2, .int .i64 rg, .slice a3 m c3], .nilIface]) ∧ PrgW w' a1 a2 a3 il c1 ol c2 m c3 ins outs (trimS ss) ∧
      w'.ownsRow w.heap.size 3 1 (.slice a1 il c1) il (ins.map (Value.int .i64)) ∧ w'.ownsRow B2 3 1 (.slice a2 ol c2) ol (outs.map (Value.int .i64)) ∧ w.heap.size ≤ B2 ∧ (∀ p, a1 = some p → p.block < B2) ∧ Below w.heap.size w w' := by
  have hil32 : il ≤ 32 := by rw [hP.eil]; exact goodH_len hF.1
  have hol32 : ol ≤ 32 := by rw [hP.eol]; exact goodH_len hF.2.1
  have hrgn : rg ≤ 64 := by have := hF.2.2.1.2; omega
  have hsl9 : sl ≤ 4096 := by rw [hP.esl]; exact hF.2.2.2.1
  have hcsl := hP.csl
  have hcil := hP.cil
  have hcol := hP.col
  have HIL : Hid (il = ins.length) := hP.eil
  have HOL : Hid (ol = outs.length) := hP.eol
  have HSL : Hid (sl = ss.length) := hP.esl
  have HNI : Hid (ia = none → ic = 0) := hP.inil
  have HNO : Hid (oa = none → oc = 0) := hP.onil
  have HF : Hid (InF ins outs rg ss) := hF
  have HOK : Hid (∀ s ∈ ss, OkS il ol rg s) := fun s h => by rw [HIL.out, HOL.out]; exact HF.out.2.2.2.2.1 s h
  have hb0 : Below w.heap.size w ((w.alloc (.cells #[.slice ia il ic, .slice oa ol oc, .int .i64 rg, .slice sa sl sc] 25)).alloc (.cells #[.slice none 0 0, .slice none 0 0, .int .i64 0, .slice none 0 0] 25)) := ((Below.refl _ w).alloc (Nat.le_refl _) _).alloc (by simp) _
  have HC : Hid _ := pcheck_ok ia oa sa il ic ol oc sl sc ins outs rg ss _ s (hP.below hb0) (cell_later hb0 hs) hF
  have hA0 := holds_new (holds_new (holds_nil w) #[.slice ia il ic, .slice oa ol oc, .int .i64 rg, .slice sa sl sc] 25) #[.slice none 0 0, .slice none 0 0, .int .i64 0, .slice none 0 0] 25
  simp only [World.size_alloc] at hA0
  have HA0 : Hid _ := hA0
  have HB0 : Hid _ := hb0
  have HI0 : Hid (RowI w ia ins) := hP.I
  have HO0 : Hid (RowI w oa outs) := hP.O
  have HS0 : Hid (StpW w sa ss) := hP.S
  clear hP hF hb0 hA0
  go_enter Tryd.func11, Tryd.ntmps11
  go_wp2_with fail
  refine Calls.mono HC.out ?_
  rintro e W ⟨rfl, hb1⟩
  have HW : Hid (Below w.heap.size w W) := HB0.out.trans (hb1.mono HB0.out.size)
  have HA : Hid _ := holds_later HA0.out hb1
  have HI : Hid (RowI W ia ins) := rowI_below HI0.out HW.out
  have HO : Hid (RowI W oa outs) := rowI_below HO0.out HW.out
  have HS : Hid (StpW W sa ss) := stpW_below HS0.out HW.out
  clear hb1 HA0 HB0 HC HI0 HO0 HS0
  obtain ⟨N, hN⟩ : ∃ N, N = w.heap.size := ⟨_, rfl⟩
  rw [← hN] at HA HW ⊢
  have HN : Hid (N = w.heap.size) := hN
  clear hN
  have HRES : Hid (W.heap[N + 1]? = some (.cells #[.slice none 0 0, .slice none 0 0, .int .i64 0, .slice none 0 0] 25 (0, 0))) := holds_at HA.out 0 rfl
  have HBX : Hid (∀ u, W.grownBy u (some (N + 1)) → u.heap[N]? = some (.cells #[.slice ia il ic, .slice oa ol oc, .int .i64 rg, .slice sa sl sc] 25 (0, 0))) := fun u hu => (hu.block N (ltHeap (holds_at HA.out 1 rfl)) (by simp)).trans (holds_at HA.out 1 rfl)
  go_wp2
  refine wp_region_noPanic ?_
  refine wp_region_held_drew (S := fun u => W.grownBy u (some (N + 1))) (by kernel_rfl) ?_ (fun hHeld => ?_)
  · exact grownBy_drew (World.grownBy.refl _ _)
  refine wpAnyH_take (i := 0) (oi := { dst := some 11, op := Op.fieldAddr 25 (Operand.tmp 1) 0, type := 0, pos := "prog.go:178", after := #[], guard := none }) (v := ?_) rfl (by kernel_rfl) (by kernel_rfl) (by kernel_rfl) (fun _ _ _ h => h) (Or.inl ⟨by rfl, ?_⟩) hHeld ?_
  rotate_left
  · intro u hSw
    go_simp
    try with_reducible rfl
  try simp only [Act.put, List.setIfInBounds_toArray, List.set_cons_zero, List.set_cons_succ]
  refine wpAnyH_take (i := 1) (oi := { dst := some 12, op := Op.load 22 (Operand.tmp 11), type := 22, pos := "prog.go:178", after := #[{ on := 0, ground := Ground.data }], guard := none }) (v := ?_) rfl (by kernel_rfl) (by kernel_rfl) (by kernel_rfl) (fun _ _ _ h => h) (Or.inl ⟨by rfl, ?_⟩) hHeld ?_
  rotate_left
  · intro u hSw
    have k9 := cellAt (HBX.out u hSw) 0 _ rfl
    go_simp
    try with_reducible rfl
  try simp only [Act.put, List.setIfInBounds_toArray, List.set_cons_zero, List.set_cons_succ]
  refine wpAnyH_take (i := 3) (oi := { dst := some 14, op := Op.fieldAddr 25 (Operand.tmp 1) 1, type := 0, pos := "prog.go:178", after := #[], guard := none }) (v := ?_) rfl (by kernel_rfl) (by kernel_rfl) (by kernel_rfl) (fun _ _ _ h => h) (Or.inl ⟨by rfl, ?_⟩) hHeld ?_
  rotate_left
  · intro u hSw
    go_simp
    try with_reducible rfl
  try simp only [Act.put, List.setIfInBounds_toArray, List.set_cons_zero, List.set_cons_succ]
  refine wpAnyH_take (i := 4) (oi := { dst := some 15, op := Op.load 22 (Operand.tmp 14), type := 22, pos := "prog.go:178", after := #[{ on := 3, ground := Ground.data }], guard := none }) (v := ?_) rfl (by kernel_rfl) (by kernel_rfl) (by kernel_rfl) (fun _ _ _ h => h) (Or.inl ⟨by rfl, ?_⟩) hHeld ?_
  rotate_left
  · intro u hSw
    have k9 := cellAt (HBX.out u hSw) 1 _ rfl
    go_simp
    try with_reducible rfl
  try simp only [Act.put, List.setIfInBounds_toArray, List.set_cons_zero, List.set_cons_succ]
  refine wpAnyH_take (i := 6) (oi := { dst := some 17, op := Op.fieldAddr 25 (Operand.tmp 1) 2, type := 0, pos := "prog.go:178", after := #[], guard := none }) (v := ?_) rfl (by kernel_rfl) (by kernel_rfl) (by kernel_rfl) (fun _ _ _ h => h) (Or.inl ⟨by rfl, ?_⟩) hHeld ?_
  rotate_left
  · intro u hSw
    go_simp
    try with_reducible rfl
  try simp only [Act.put, List.setIfInBounds_toArray, List.set_cons_zero, List.set_cons_succ]
  refine wpAnyH_take (i := 7) (oi := { dst := some 18, op := Op.load 3 (Operand.tmp 17), type := 3, pos := "prog.go:178", after := #[{ on := 6, ground := Ground.data }], guard := none }) (v := ?_) rfl (by kernel_rfl) (by kernel_rfl) (by kernel_rfl) (fun _ _ _ h => h) (Or.inl ⟨by rfl, ?_⟩) hHeld ?_
  rotate_left
  · intro u hSw
    have k9 := cellAt (HBX.out u hSw) 2 _ rfl
    go_simp
    try with_reducible rfl
  try simp only [Act.put, List.setIfInBounds_toArray, List.set_cons_zero, List.set_cons_succ]
  refine wpAnyH_take (i := 8) (oi := { dst := some 19, op := Op.fieldAddr 25 (Operand.tmp 1) 3, type := 0, pos := "prog.go:178", after := #[], guard := none }) (v := ?_) rfl (by kernel_rfl) (by kernel_rfl) (by kernel_rfl) (fun _ _ _ h => h) (Or.inl ⟨by rfl, ?_⟩) hHeld ?_
  rotate_left
  · intro u hSw
    go_simp
    try with_reducible rfl
  try simp only [Act.put, List.setIfInBounds_toArray, List.set_cons_zero, List.set_cons_succ]
  refine wpAnyH_take (i := 9) (oi := { dst := some 20, op := Op.load 23 (Operand.tmp 19), type := 23, pos := "prog.go:178", after := #[{ on := 8, ground := Ground.data }], guard := none }) (v := ?_) rfl (by kernel_rfl) (by kernel_rfl) (by kernel_rfl) (fun _ _ _ h => h) (Or.inl ⟨by rfl, ?_⟩) hHeld ?_
  rotate_left
  · intro u hSw
    have k9 := cellAt (HBX.out u hSw) 3 _ rfl
    go_simp
    try with_reducible rfl
  try simp only [Act.put, List.setIfInBounds_toArray, List.set_cons_zero, List.set_cons_succ]
  refine wpAnyH_ready (rs := [2]) (by kernel_rfl) (by simp) ?_
  refine (AllReadyH.cons (o := { dst := some 13, op := Op.call { callee := Callee.value (Operand.func 30), args := #[Operand.tmp 12], argTypes := #[22] }, type := 22, pos := "prog.go:179", after := #[{ on := 1, ground := Ground.data }], guard := none }) rfl (fun K hK => ?_) AllReadyH.nil)
  go_simp
  refine Calls.mono (clone_F il ic ia ins _ HIL.out (by omega) hcil HNI.out (rowI_below HI.out (Below.drew (Below.refl _ W)))) ?_
  rintro e x1 ⟨a1, k1, rfl, ho1, hb1⟩
  have hB1 : Below W.heap.size W x1 := (Below.drew (Below.refl _ W)).trans hb1
  have hS1 : W.grownBy x1 (some (N + 1)) := grown_below (grownBy_drew (World.grownBy.refl _ _)) hb1
  go_wp2_with fail
  refine hK.out _ _ ?_ (fun hHeld => ?_)
  · exact hS1
  clear hK K
  try simp only [Act.put, List.setIfInBounds_toArray, List.set_cons_zero, List.set_cons_succ]
  refine wpAnyH_ready (rs := [5]) (by kernel_rfl) (by simp) ?_
  refine (AllReadyH.cons (o := { dst := some 16, op := Op.call { callee := Callee.value (Operand.func 30), args := #[Operand.tmp 15], argTypes := #[22] }, type := 22, pos := "prog.go:180", after := #[{ on := 4, ground := Ground.data }, { on := 2, ground := Ground.chain }], guard := none }) rfl (fun K hK => ?_) AllReadyH.nil)
  go_simp
  refine Calls.mono (clone_F ol oc oa outs _ HOL.out (by omega) hcol HNO.out (rowI_below HO.out hB1)) ?_
  rintro e x2 ⟨a2, k2, rfl, ho2, hb2⟩
  have hB2 : Below W.heap.size W x2 := hB1.trans (hb2.mono hB1.size)
  have hS2 : W.grownBy x2 (some (N + 1)) := grown_below hS1 hb2
  go_wp2_with fail
  refine hK.out _ _ ?_ (fun hHeld => ?_)
  · exact hS2
  clear hK K
  try simp only [Act.put, List.setIfInBounds_toArray, List.set_cons_zero, List.set_cons_succ]
  refine wpAnyH_ready (rs := [10]) (by kernel_rfl) (by simp) ?_
  refine (AllReadyH.cons (o := { dst := some 21, op := Op.call { callee := Callee.value (Operand.func 31), args := #[Operand.tmp 20], argTypes := #[23] }, type := 23, pos := "prog.go:182", after := #[{ on := 9, ground := Ground.data }, { on := 5, ground := Ground.chain }], guard := none }) rfl (fun K hK => ?_) AllReadyH.nil)
  go_simp
  refine Calls.mono (pbusy_F sa sl sc il ol rg ss _ HSL.out hcsl hsl9 hrgn HOK.out (stpW_below HS.out hB2)) ?_
  rintro e x3 ⟨⟨a3, m3, k3, rfl, hm3, ho3⟩, hb3⟩
  have hB3 : Below W.heap.size W x3 := hB2.trans (hb3.mono hB2.size)
  have hS3 : W.grownBy x3 (some (N + 1)) := grown_below hS2 hb3
  have HM3 : Hid (m3 = (trimS ss).length) := hm3
  clear hm3
  go_wp2_with fail
  refine hK.out _ _ ?_ (fun hHeld => ?_)
  · exact hS3
  clear hK K
  try simp only [Act.put, List.setIfInBounds_toArray, List.set_cons_zero, List.set_cons_succ]
  refine wpAnyH_take (i := 11) (oi := { dst := some 22, op := Op.build 25 #[(0, Operand.tmp 13), (1, Operand.tmp 16), (2, Operand.tmp 18), (3, Operand.tmp 21)], type := 25, pos := "prog.go:178", after := #[{ on := 2, ground := Ground.data }, { on := 5, ground := Ground.data }, { on := 7, ground := Ground.data }, { on := 10, ground := Ground.data }], guard := none }) (v := ?_) rfl (by kernel_rfl) (by kernel_rfl) (by kernel_rfl) (fun _ _ _ h => h) (Or.inl ⟨by rfl, ?_⟩) hHeld ?_
  rotate_left
  · intro u hSw
    go_simp
    try with_reducible rfl
  try simp only [Act.put, List.setIfInBounds_toArray, List.set_cons_zero, List.set_cons_succ]
  refine wpAnyH_ready (rs := [12]) (by kernel_rfl) (by simp) ?_
  refine (AllReadyH.cons (o := { dst := none, op := Op.store 25 (Operand.tmp 2) (Operand.tmp 22), type := 0, pos := "prog.go:178", after := #[{ on := 11, ground := Ground.data }, { on := 10, ground := Ground.chain }, { on := 0, ground := Ground.phase }, { on := 1, ground := Ground.phase }, { on := 2, ground := Ground.phase }, { on := 3, ground := Ground.phase }, { on := 4, ground := Ground.phase }, { on := 5, ground := Ground.phase }, { on := 6, ground := Ground.phase }, { on := 7, ground := Ground.phase }, { on := 8, ground := Ground.phase }, { on := 9, ground := Ground.phase }, { on := 10, ground := Ground.phase }, { on := 11, ground := Ground.phase }], guard := none }) rfl (fun K hK => ?_) AllReadyH.nil)
  have hk3 := heap_later HRES.out hB3
  have d0 := cellAt hk3 0 _ rfl
  have d1 := cellAt hk3 1 _ rfl
  have d2 := cellAt hk3 2 _ rfl
  have d3 := cellAt hk3 3 _ rfl
  have e0 : x3.frozen? ⟨N + 1, 0, none⟩ = false := frozen_of_row _ _ _ _ _ hk3
  have e1 : x3.frozen? ⟨N + 1, 1, none⟩ = false := frozen_of_row _ _ _ _ _ hk3
  have e2 : x3.frozen? ⟨N + 1, 2, none⟩ = false := frozen_of_row _ _ _ _ _ hk3
  have e3 : x3.frozen? ⟨N + 1, 3, none⟩ = false := frozen_of_row _ _ _ _ _ hk3
  go_simp
  refine hK.out _ _ ?_ (fun hHeld => ?_)
  · exact grownBy_setCell (grownBy_setCell (grownBy_setCell (grownBy_setCell hS3 _) _) _) _
  clear hK K
  try simp only [Act.put, List.setIfInBounds_toArray, List.set_cons_zero, List.set_cons_succ]
  refine wpAnyH_take (i := 13) (oi := { dst := some 3, op := Op.assign (Operand.const Value.nilIface), type := 29, pos := "prog.go:178", after := #[{ on := 12, ground := Ground.chain }, { on := 0, ground := Ground.phase }, { on := 1, ground := Ground.phase }, { on := 2, ground := Ground.phase }, { on := 3, ground := Ground.phase }, { on := 4, ground := Ground.phase }, { on := 5, ground := Ground.phase }, { on := 6, ground := Ground.phase }, { on := 7, ground := Ground.phase }, { on := 8, ground := Ground.phase }, { on := 9, ground := Ground.phase }, { on := 10, ground := Ground.phase }, { on := 11, ground := Ground.phase }, { on := 12, ground := Ground.phase }], guard := none }) (v := ?_) rfl (by kernel_rfl) (by kernel_rfl) (by kernel_rfl) (fun _ _ _ h => h) (Or.inl ⟨by rfl, ?_⟩) hHeld ?_
  rotate_left
  · intro u hSw
    go_simp
    try with_reducible rfl
  try simp only [Act.put, List.setIfInBounds_toArray, List.set_cons_zero, List.set_cons_succ]
  refine wpAnyH_done (by kernel_rfl) ?_ _
  refine NoPanic.normal ?_
  have hz : N + 1 < W.heap.size := ltHeap HRES.out
  obtain ⟨Z, hZ⟩ : ∃ Z, Z = ((((x3.setCell ⟨N + 1, 0, none⟩ (.slice a1 il k1)).setCell ⟨N + 1, 1, none⟩ (.slice a2 ol k2)).setCell ⟨N + 1, 2, none⟩ (.int .i64 rg)).setCell ⟨N + 1, 3, none⟩ (.slice a3 m3 k3)) := ⟨_, rfl⟩
  have hset : ∀ {B n : Nat} {v : Value} {xs : List Value} {e : TypeId} {size : Nat}, N + 1 < B → x3.ownsRow B e size v n xs → Z.ownsRow B e size v n xs := fun h ho => by rw [hZ]; exact ownI_set (ownI_set (ownI_set (ownI_set ho h) h) h) h
  have ho1' := hset hz (own_below (own_below ho1 hb2) hb3)
  have ho2' := hset (by have := hB1.size; omega) (own_below ho2 hb3)
  have ho3' := hset (by have := hB2.size; omega) ho3
  have hkZ : Z.heap[N + 1]? = some (.cells #[.slice a1 il k1, .slice a2 ol k2, .int .i64 rg, .slice a3 m3 k3] 25 (0, 0)) := by
    rw [hZ, heap_setCell_same _ _ _ _ _ _ (heap_setCell_same _ _ _ _ _ _ (heap_setCell_same _ _ _ _ _ _ (heap_setCell_same _ _ _ _ _ _ (heap_later HRES.out hB3))))]
    rfl
  have hBZ : Below N w Z := by
    rw [hZ]
    have h0 := HW.out.trans (hB3.mono (by have := HW.out.size; omega))
    exact (((h0.setCell (by simp) _).setCell (by simp) _).setCell (by simp) _).setCell (by simp) _
  obtain ⟨r1, r2, r3, r4, r5⟩ := ownI_facts ho1'
  obtain ⟨t1, t2, t3, t4, t5⟩ := ownI_facts ho2'
  obtain ⟨a3', k3', e3', v1, v2, v3⟩ := stpW_own HM3.out ho3'
  cases e3'
  have HPW : Hid (PrgW Z a1 a2 a3 il k1 ol k2 m3 k3 ins outs (trimS ss)) := ⟨r4, t4, HM3.out, by omega, by omega, by rw [HM3.out]; have := trim_len ss; have := HSL.out; omega, r2, t2, v1, r3, t3, v2, r1, t1, v3⟩
  have HO1 : Hid (Z.ownsRow W.heap.size 3 1 (.slice a1 il k1) il (ins.map (Value.int .i64))) := ho1'
  have HO2 : Hid (Z.ownsRow x1.heap.size 3 1 (.slice a2 ol k2) ol (outs.map (Value.int .i64))) := ho2'
  have HLT : Hid (∀ p, a1 = some p → p.block < x1.heap.size) := fun p e => ((ownI_facts ho1).2.2.2.2 p e).1
  have HBZ : Hid _ := hBZ
  have hx1 : W.heap.size ≤ x1.heap.size := hB1.size
  have q0 := cellAt hkZ 0 _ rfl
  have q1 := cellAt hkZ 1 _ rfl
  have q2 := cellAt hkZ 2 _ rfl
  have q3 := cellAt hkZ 3 _ rfl
  have zz := ltHeap hkZ
  have HZE : Hid _ := hZ
  have hWs : w.heap.size ≤ W.heap.size := HW.out.size
  clear hkZ hBZ ho1' ho2' ho3' hset hZ r1 r2 r3 r4 r5 t1 t2 t3 t4 t5 v1 v2 v3 ho1 ho2 ho3 hb1 hb2 hb3 hB1 hB2 hB3 hS1 hS2 hS3 d0 d1 d2 d3 e0 e1 e2 e3 hk3
  rw [← HZE.out]
  go_wp2
  refine bodyPost_ret (v := .tuple #[.agg #[.slice a1 il k1, .slice a2 ol k2, .int .i64 rg, .slice a3 m3 k3], .nilIface]) (by simp [results, Tryd.results11, go_sem, q0, q1, q2, q3, zz]) rfl ⟨a1, k1, a2, k2, a3, m3, k3, x1.heap.size, rfl, HPW.out, own_mono9 HO1.out (by have := HN.out; omega), HO2.out, by have := HN.out; omega, HLT.out, by rw [← HN.out]; exact HBZ.out⟩
end Go.Proofs.YtbjjmlebpohmcaaDoor

/- What Text of package prog answers of programs in form. -/
namespace Go.Proofs.YtbjjmlebpohmcaaDoor
open Go.RowKit Gf
set_option linter.unusedVariables false
set_option maxRecDepth 20000
set_option linter.unusedSimpArgs false
def wordB (op : Int) : List UInt8 := if op = 1 then [108, 111, 97, 100] else if op = 2 then [122, 101, 114, 111] else if op = 3 then [109, 117, 108] else if op = 4 then [97, 100, 100] else [115, 116, 111, 114, 101]
def numsL (f so : Bool) (dst src c : Int) : List Int := dst :: ((if f then [c] else []) ++ (if so then [src] else []))
def numsS (s : Stp) : List Int := numsL (decide (s.op = 3 ∨ s.op = 4)) (decide (s.op = 1 ∨ s.op = 4 ∨ s.op = 5)) s.dst s.src (s.c.toNat : Int)
def stepB (s : Stp) : List UInt8 := pieceB (wordB s.op) (numsS s)
def headsB (ins outs : List Int) (rg : Int) : List (List UInt8) := [pieceB [105, 110] ins, pieceB [111, 117, 116] outs, pieceB [114, 101, 103, 115] [rg]]
def textP (ins outs : List Int) (rg : Int) (ss : List Stp) : List UInt8 := Lib.join (headsB ins outs rg ++ ss.map stepB) [59, 32]
theorem op_word {op : Int} {s : ByteArray} {f so an as9 ou : Bool} {n m : Nat} (h : 1 ≤ op ∧ op ≤ 5) (hO : OpF op s f so an as9 ou n m) : s = strB (wordB op) := by
  have h2 : (opcN op)[0]? = some (.string s) := by rw [hO.cells]; rfl
  have : op = 1 ∨ op = 2 ∨ op = 3 ∨ op = 4 ∨ op = 5 := by omega
  rcases this with rfl | rfl | rfl | rfl | rfl <;>
  · have h3 := Option.some.inj h2
    injection h3 with h4
    rw [← h4]; rfl
theorem wordB_len (op : Int) : (wordB op).length ≤ 5 := by
  unfold wordB; repeat' split
  all_goals decide
theorem numsL_len (f so : Bool) (dst src c : Int) : (numsL f so dst src c).length ≤ 3 := by cases f <;> cases so <;> simp [numsL]
theorem okS_nums {ni no : Nat} {rg : Int} {s : Stp} (h : OkS ni no rg s) (h1 : ni ≤ 32) (h2 : no ≤ 32) (h3 : rg ≤ 64) : ∀ x ∈ numsS s, 0 ≤ x ∧ x < 1000 := by
  have hc : s.c.toNat < 256 := s.c.toNat_lt
  intro x hx
  simp only [numsS, numsL, List.mem_cons, List.mem_append] at hx
  unfold OkS at h
  rcases hx with rfl | hx | hx
  · omega
  · split at hx
    · simp only [List.mem_singleton] at hx; omega
    · cases hx
  · split at hx
    · rename_i h5
      have := of_decide_eq_true h5
      simp only [List.mem_singleton] at hx; omega
    · cases hx
theorem stepB_len {ni no : Nat} {rg : Int} {s : Stp} (h : OkS ni no rg s) (h1 : ni ≤ 32) (h2 : no ≤ 32) (h3 : rg ≤ 64) : (stepB s).length ≤ 17 := by
  have := pieceB_len (wd := wordB s.op) (okS_nums h h1 h2 h3)
  have := wordB_len s.op
  have : (numsS s).length ≤ 3 := numsL_len _ _ _ _ _
  unfold stepB
  omega
theorem joinTail_len (sep : List UInt8) (k : Nat) : ∀ (r : List (List UInt8)), (∀ x ∈ r, x.length ≤ k) → (Lib.joinTail sep r).length ≤ r.length * (sep.length + k)
  | [], _ => by simp [Lib.joinTail]
  | x :: r, h => by
    have h1 := joinTail_len sep k r (fun y hy => h y (List.mem_cons_of_mem _ hy))
    have h2 := h x List.mem_cons_self
    simp only [Lib.joinTail, List.map_cons, List.flatten_cons, List.length_append, List.length_cons, Nat.succ_mul] at h1 ⊢
    omega
theorem goodH_mem {n : Nat} {xs : List Int} (h : GoodH n xs) : ∀ x ∈ xs, 0 ≤ x ∧ x < n := by
  obtain ⟨ns, rfl, h1, h2⟩ := goodH_nats h
  intro x hx
  simp only [natJ8, List.mem_map] at hx
  obtain ⟨y, hy, rfl⟩ := hx
  have := h2 y hy
  omega
theorem heads_len {ins outs : List Int} {rg : Int} {ss : List Stp} (hF : InF ins outs rg ss) : ∀ x ∈ headsB ins outs rg, x.length ≤ 140 := by
  have h1 := pieceB_len (wd := [105, 110]) (ns := ins) (fun x hx => by have := goodH_mem hF.1 x hx; omega)
  have h2 := pieceB_len (wd := [111, 117, 116]) (ns := outs) (fun x hx => by have := goodH_mem hF.2.1 x hx; omega)
  have h3 := pieceB_len (wd := [114, 101, 103, 115]) (ns := [rg]) (fun x hx => by simp only [List.mem_singleton] at hx; have := hF.2.2.1; omega)
  have h4 := goodH_len hF.1
  have h5 := goodH_len hF.2.1
  intro x hx
  simp only [headsB, List.mem_cons, List.not_mem_nil, or_false] at hx
  simp only [List.length_cons, List.length_nil] at h1 h2 h3
  rcases hx with rfl | rfl | rfl <;> omega
theorem textP_len {ins outs : List Int} {rg : Int} {ss : List Stp} (hF : InF ins outs rg ss) : (textP ins outs rg ss).length ≤ 1000000 := by
  have hall : ∀ x ∈ headsB ins outs rg ++ ss.map stepB, x.length ≤ 140 := fun x hx => by
    rw [List.mem_append] at hx
    rcases hx with hx | hx
    · exact heads_len hF x hx
    · obtain ⟨s, hs, rfl⟩ := List.mem_map.1 hx
      have := stepB_len (hF.2.2.2.2.1 s hs) (goodH_len hF.1) (goodH_len hF.2.1) hF.2.2.1.2
      omega
  have h4 := hF.2.2.2.1
  unfold textP
  rw [headsB, List.cons_append, Lib.join_cons, List.length_append]
  have h0 := hall _ (by rw [headsB]; exact List.mem_cons_self)
  have h1 := joinTail_len [59, 32] 140 ([pieceB [111, 117, 116] outs, pieceB [114, 101, 103, 115] [rg]] ++ ss.map stepB) (fun x hx => hall x (by rw [headsB, List.cons_append]; exact List.mem_cons_of_mem _ hx))
  simp only [List.length_append, List.length_cons, List.length_nil, List.length_map] at h1
  omega
theorem ownsI_new {w : World} {g : Nat} {x : Int} (h : w.heap[g]? = some (.cells #[.int .i64 x] 3 (0, 0))) {B : Nat} (hB : B ≤ g) : w.ownsRow B 3 1 (.slice (some ⟨g, 0, none⟩) 1 1) 1 (([x] : List Int).map (Value.int .i64)) :=
  ⟨rfl, .inr ⟨g, 1, _, rfl, hB, h, Nat.le_refl _, by decide, rfl, rfl⟩⟩
theorem own_drew {w : World} {B size n : Nat} {v : Value} {e : TypeId} {xs : List Value} (h : w.ownsRow B e size v n xs) : w.drew.ownsRow B e size v n xs := h
theorem own_slice9 {w : World} {B n : Nat} {v : Value} {xs : List Value} (ho : w.ownsRow B 3 1 v n xs) : ∃ a cap, v = .slice a n cap ∧ n ≤ cap ∧ True := by
  rcases ho.2 with ⟨rfl, rfl⟩ | ⟨g, cap, cur, rfl, hB, hg, hle, _⟩
  · exact ⟨none, 0, rfl, Nat.le_refl _, trivial⟩
  · exact ⟨_, cap, rfl, hle, trivial⟩
set_option maxHeartbeats 8000000 in
theorem numbers_F (wd : List UInt8) (f9 so an as9 ou : Bool) (n9 m9 : Nat) (op dst src : Int) (c : F) (w : World) :
    Calls Tryd.prog 33 #[.agg #[.string (strB wd), .bool f9, .bool so, .bool an, .bool as9, .bool ou, .func (.func n9) #[] #[], .func (.func m9) #[] #[]], .agg #[.int .i64 op, .int .i64 dst, .int .i64 src, .int .u8 (c.toNat : Int)]] w fun e w' => ∃ g m cap, e = .returned (.slice (some ⟨g, 0, none⟩) m cap) ∧ m = (numsL f9 so dst src (c.toNat : Int)).length ∧ m ≤ cap ∧ RowI w' (some ⟨g, 0, none⟩) (numsL f9 so dst src (c.toNat : Int)) ∧ Below w.heap.size w w' := by
  have hA := holds_new (holds_new (holds_new (holds_nil w) #[.string (strB wd), .bool f9, .bool so, .bool an, .bool as9, .bool ou, .func (.func n9) #[] #[], .func (.func m9) #[] #[]] 65) #[.int .i64 op, .int .i64 dst, .int .i64 src, .int .u8 (c.toNat : Int)] 48) #[.int .i64 dst] 3
  simp only [World.size_alloc] at hA
  have hB : Below w.heap.size w (((w.alloc (.cells #[.string (strB wd), .bool f9, .bool so, .bool an, .bool as9, .bool ou, .func (.func n9) #[] #[], .func (.func m9) #[] #[]] 65)).alloc (.cells #[.int .i64 op, .int .i64 dst, .int .i64 src, .int .u8 (c.toNat : Int)] 48)).alloc (.cells #[.int .i64 dst] 3)) := (((Below.refl _ w).alloc (Nat.le_refl _) _).alloc (by simp) _).alloc (by simp; omega) _
  obtain ⟨W, hW⟩ : ∃ W, W = (((w.alloc (.cells #[.string (strB wd), .bool f9, .bool so, .bool an, .bool as9, .bool ou, .func (.func n9) #[] #[], .func (.func m9) #[] #[]] 65)).alloc (.cells #[.int .i64 op, .int .i64 dst, .int .i64 src, .int .u8 (c.toNat : Int)] 48)).alloc (.cells #[.int .i64 dst] 3)) := ⟨_, rfl⟩
  rw [← hW] at hA hB
  have hWs : W.heap.size = w.heap.size + 1 + 1 + 1 := by rw [hW]; simp
  have ho := ownsI_new (holds_at hA 0 rfl) (show w.heap.size ≤ w.heap.size + 1 + 1 by omega)
  have HW : Hid _ := hW
  have HA : Hid _ := hA
  have HB : Hid _ := hB
  have HO : Hid (W.ownsRow w.heap.size 3 1 (.slice (some ⟨w.heap.size + 1 + 1, 0, none⟩) 1 1) 1 (([dst] : List Int).map (Value.int .i64))) := ho
  have h1 : c.toNat < 256 := c.toNat_lt
  obtain ⟨cv, hcv⟩ : ∃ cv : Int, cv = (c.toNat : Int) := ⟨_, rfl⟩
  rw [← hcv] at HW ⊢
  have hc0 : 0 ≤ cv := by omega
  have hc1 : cv < 256 := by omega
  rw [← hcv] at HA
  clear hW hA hB ho hcv h1
  have k1 := cellAt (holds_at HA.out 2 rfl) 1 _ rfl
  have k2 := cellAt (holds_at HA.out 2 rfl) 2 _ rfl
  have k3 := cellAt (holds_at HA.out 1 rfl) 3 _ rfl
  have k4 := cellAt (holds_at HA.out 1 rfl) 2 _ rfl
  have K2 : ∀ o, (W.alloc o).cell? ⟨w.heap.size, 2, none⟩ = some (.bool so) := fun o => cellAt (heap_later (holds_at HA.out 2 rfl) ((Below.refl _ W).alloc (Nat.le_refl _) o)) 2 _ rfl
  go_enter Tryd.func33, Tryd.ntmps33
  cases f9
  · cases so
    · go_wp2
      rw [← HW.out]
      go_wp2
      go_ret
      exact ⟨_, _, _, rfl, rfl, Nat.le_refl _, rowI_own HO.out, HB.out⟩
    · have hb3 := HB.out.alloc HB.out.size (.cells #[.int .i64 src] 3)
      have ho3 := own_below HO.out ((Below.refl _ W).alloc (Nat.le_refl _) (.cells #[.int .i64 src] 3))
      have hc3 := cellAt (heap_alloc_last W (.cells #[.int .i64 src] 3)) 0 _ rfl
      obtain ⟨g, cp, w4, hap, ho4, hg4, hor, hlt4⟩ := appendI (c := 1) 22 ho3 hc3 (by omega) hb3.size
      rw [hWs] at hap
      have HB4 : Hid (Below w.heap.size w w4) := below_own hb3 ho3 hg4 hb3.size
      have HO4 : Hid _ := ho4
      have HAP : Hid _ := hap
      clear hb3 ho3 hc3 ho4 hg4 hor hap
      go_wp2_with (at_builtin; rw [← HW.out]; refine wpList_append_run rfl _ _ 22 rfl _ _ _ _ rfl rfl HAP.out ?_)
      go_ret
      obtain ⟨g5, cp5, e5, h5, _⟩ := own_slice9 HO4.out
      cases e5
      exact ⟨_, _, _, rfl, rfl, h5, rowI_own (ns := [dst, src]) HO4.out, HB4.out⟩
  · have hb3 := HB.out.alloc HB.out.size (.cells #[.int .i64 cv] 3)
    have ho3 := own_below HO.out ((Below.refl _ W).alloc (Nat.le_refl _) (.cells #[.int .i64 cv] 3))
    have hc3 := cellAt (heap_alloc_last W (.cells #[.int .i64 cv] 3)) 0 _ rfl
    obtain ⟨g, cp, w4, hap, ho4, hg4, hor, hlt4⟩ := appendI (c := 1) 22 ho3 hc3 (by omega) hb3.size
    rw [hWs] at hap
    have HB4 : Hid (Below w.heap.size w w4) := below_own hb3 ho3 hg4 hb3.size
    have HO4 : Hid _ := ho4
    have HAP : Hid _ := hap
    have hA4 : Holds (W.alloc (.cells #[.int .i64 cv] 3)) _ := holds_alloc HA.out _
    have q2 := cellAt (own_other ho3 hg4 (holds_at hA4 2 rfl) (by decide)) 2 _ rfl
    have q4 := cellAt (own_other ho3 hg4 (holds_at hA4 1 rfl) (by decide)) 2 _ rfl
    clear hb3 ho3 hc3 ho4 hg4 hor hap hA4 K2
    cases so
    · go_wp2_with (at_builtin; rw [← HW.out]; refine wpList_append_run rfl _ _ 22 rfl _ _ _ _ rfl rfl HAP.out ?_)
      go_ret
      obtain ⟨g5, cp5, e5, h5, _⟩ := own_slice9 HO4.out
      cases e5
      exact ⟨_, _, _, rfl, rfl, h5, rowI_own (ns := [dst, cv]) HO4.out, HB4.out⟩
    · have hb5 := HB4.out.alloc HB4.out.size (.cells #[.int .i64 src] 3)
      have ho5 := own_below HO4.out ((Below.refl _ w4).alloc (Nat.le_refl _) (.cells #[.int .i64 src] 3))
      have hc5 := cellAt (heap_alloc_last w4 (.cells #[.int .i64 src] 3)) 0 _ rfl
      obtain ⟨g6, cp6, w6, hap6, ho6, hg6, hor6, hlt6⟩ := appendI (c := 1) 22 ho5 hc5 (by omega) hb5.size
      have HB6 : Hid (Below w.heap.size w w6) := below_own hb5 ho5 hg6 hb5.size
      have HO6 : Hid _ := ho6
      have HAP6 : Hid _ := hap6
      clear hb5 ho5 hc5 ho6 hg6 hor6 hap6
      go_wp2_with (at_builtin; first | (rw [← HW.out]; refine wpList_append_run rfl _ _ 22 rfl _ _ _ _ rfl rfl HAP.out ?_) | (refine wpList_append_run rfl _ _ 22 rfl _ _ _ _ rfl rfl HAP6.out ?_))
      go_ret
      obtain ⟨g5, cp5, e5, h5, _⟩ := own_slice9 HO6.out
      cases e5
      exact ⟨_, _, _, rfl, rfl, h5, rowI_own (ns := [dst, cv, src]) HO6.out, HB6.out⟩
set_option maxRecDepth 100000 in
set_option maxHeartbeats 16000000 in
theorem text_ok (ia oa sa : Option Addr) (il ic ol oc sl sc rg : Nat) (ins outs : List Int) (ss : List Stp) (w : World) (s : Addr) (hP : PrgW w ia oa sa il ic ol oc sl sc ins outs ss) (hE : EnvP w s) (hF : InF ins outs rg ss) :
    Calls Tryd.prog 13 #[.agg #[.slice ia il ic, .slice oa ol oc, .int .i64 rg, .slice sa sl sc]] w fun e w' => e = .returned (.tuple #[.string (strB (textP ins outs rg ss)), .nilIface]) ∧ Below w.heap.size w w' := by
  have hil32 : il ≤ 32 := by rw [hP.eil]; exact goodH_len hF.1
  have hol32 : ol ≤ 32 := by rw [hP.eol]; exact goodH_len hF.2.1
  have hrgn : rg ≤ 64 := by have := hF.2.2.1.2; omega
  have hsl9 : sl ≤ 4096 := by rw [hP.esl]; exact hF.2.2.2.1
  have hcsl := hP.csl
  have hcil := hP.cil
  have hcol := hP.col
  have HP : Hid _ := hP
  have HF : Hid (InF ins outs rg ss) := hF
  have HIL : Hid (il = ins.length) := hP.eil
  have HOL : Hid (ol = outs.length) := hP.eol
  have HSL : Hid (sl = ss.length) := hP.esl
  have hb0 : Below w.heap.size w (w.alloc (.cells #[.slice ia il ic, .slice oa ol oc, .int .i64 rg, .slice sa sl sc] 25)) := (Below.refl _ w).alloc (Nat.le_refl _) _
  have HC : Hid _ := pcheck_ok ia oa sa il ic ol oc sl sc ins outs rg ss _ s (hP.below hb0) (cell_later hb0 hE.err) hF
  have hA0 := holds_new (holds_nil w) #[.slice ia il ic, .slice oa ol oc, .int .i64 rg, .slice sa sl sc] 25
  have HA0 : Hid _ := hA0
  have HB0 : Hid _ := hb0
  have HE : Hid (EnvP w s) := hE
  have HRI : Hid (∀ x ∈ ins, 0 ≤ x ∧ x < 1000) := fun x hx => by have := goodH_mem hF.1 x hx; omega
  have HRO : Hid (∀ x ∈ outs, 0 ≤ x ∧ x < 1000) := fun x hx => by have := goodH_mem hF.2.1 x hx; omega
  have HRR : Hid (∀ x ∈ ([(rg : Int)] : List Int), 0 ≤ x ∧ x < 1000) := fun x hx => by simp only [List.mem_singleton] at hx; omega
  clear hP hF hb0 hA0 hE
  go_enter Tryd.func13, Tryd.ntmps13
  go_wp2_with fail
  refine Calls.mono HC.out ?_
  rintro e W ⟨rfl, hb1⟩
  have HW : Hid (Below w.heap.size w W) := HB0.out.trans (hb1.mono HB0.out.size)
  have HA : Hid _ := holds_later HA0.out hb1
  have HT : Hid (TabW W) := tabW_below HE.out.tab HW.out
  have HI : Hid (RowI W ia ins) := rowI_below HP.out.I HW.out
  have HO : Hid (RowI W oa outs) := rowI_below HP.out.O HW.out
  clear hb1 HA0 HB0 HC
  have P0 : Hid (∀ u, Below W.heap.size W u → u.cell? ⟨w.heap.size, 0, none⟩ = some (.slice ia il ic)) := fun u hu => cellAt (heap_later (holds_at HA.out 0 rfl) hu) 0 _ rfl
  have P1 : Hid (∀ u, Below W.heap.size W u → u.cell? ⟨w.heap.size, 1, none⟩ = some (.slice oa ol oc)) := fun u hu => cellAt (heap_later (holds_at HA.out 0 rfl) hu) 1 _ rfl
  have P2 : Hid (∀ u, Below W.heap.size W u → u.cell? ⟨w.heap.size, 2, none⟩ = some (.int .i64 rg)) := fun u hu => cellAt (heap_later (holds_at HA.out 0 rfl) hu) 2 _ rfl
  go_upto_region 4 with fail
  go_cut [5] (fun v wx => ∃ g n, v = .slice (some ⟨g, 0, none⟩) 3 n ∧ Below W.heap.size W wx ∧ wx.ownsRow W.heap.size 9 1 (.slice (some ⟨g, 0, none⟩) 3 n) 3 (zvs (headsB ins outs rg)))
  case first =>
    have hS0 : Below W.heap.size W W.drew := Below.drew (Below.refl _ W)
    refine wp_region_noPanic ?_
    refine wp_region_held_drew (S := fun u => Below W.heap.size W u) (by kernel_rfl) ?_ (fun hHeld => ?_)
    · exact hS0
    refine wpAnyH_take (i := 0) (oi := { dst := some 15, op := Op.fieldAddr 25 (Operand.tmp 1) 0, type := 0, pos := "prog.go:234", after := #[], guard := none }) (v := ?_) rfl (by kernel_rfl) (by kernel_rfl) (by kernel_rfl) (fun _ _ _ h => h) (Or.inl ⟨by rfl, ?_⟩) hHeld ?_
    rotate_left
    · intro u hSw
      go_simp
      try with_reducible rfl
    try simp only [Act.put, List.setIfInBounds_toArray, List.set_cons_zero, List.set_cons_succ]
    refine wpAnyH_take (i := 1) (oi := { dst := some 16, op := Op.load 22 (Operand.tmp 15), type := 22, pos := "prog.go:234", after := #[{ on := 0, ground := Ground.data }], guard := none }) (v := ?_) rfl (by kernel_rfl) (by kernel_rfl) (by kernel_rfl) (fun _ _ _ h => h) (Or.inl ⟨by rfl, ?_⟩) hHeld ?_
    rotate_left
    · intro u hSw
      have k9 := P0.out u hSw
      go_simp
      try with_reducible rfl
    try simp only [Act.put, List.setIfInBounds_toArray, List.set_cons_zero, List.set_cons_succ]
    refine wpAnyH_take (i := 3) (oi := { dst := some 18, op := Op.fieldAddr 25 (Operand.tmp 1) 1, type := 0, pos := "prog.go:234", after := #[], guard := none }) (v := ?_) rfl (by kernel_rfl) (by kernel_rfl) (by kernel_rfl) (fun _ _ _ h => h) (Or.inl ⟨by rfl, ?_⟩) hHeld ?_
    rotate_left
    · intro u hSw
      go_simp
      try with_reducible rfl
    try simp only [Act.put, List.setIfInBounds_toArray, List.set_cons_zero, List.set_cons_succ]
    refine wpAnyH_take (i := 4) (oi := { dst := some 19, op := Op.load 22 (Operand.tmp 18), type := 22, pos := "prog.go:234", after := #[{ on := 3, ground := Ground.data }], guard := none }) (v := ?_) rfl (by kernel_rfl) (by kernel_rfl) (by kernel_rfl) (fun _ _ _ h => h) (Or.inl ⟨by rfl, ?_⟩) hHeld ?_
    rotate_left
    · intro u hSw
      have k9 := P1.out u hSw
      go_simp
      try with_reducible rfl
    try simp only [Act.put, List.setIfInBounds_toArray, List.set_cons_zero, List.set_cons_succ]
    refine wpAnyH_take (i := 6) (oi := { dst := some 21, op := Op.fieldAddr 25 (Operand.tmp 1) 2, type := 0, pos := "prog.go:234", after := #[], guard := none }) (v := ?_) rfl (by kernel_rfl) (by kernel_rfl) (by kernel_rfl) (fun _ _ _ h => h) (Or.inl ⟨by rfl, ?_⟩) hHeld ?_
    rotate_left
    · intro u hSw
      go_simp
      try with_reducible rfl
    try simp only [Act.put, List.setIfInBounds_toArray, List.set_cons_zero, List.set_cons_succ]
    refine wpAnyH_take (i := 7) (oi := { dst := some 22, op := Op.load 3 (Operand.tmp 21), type := 3, pos := "prog.go:234", after := #[{ on := 6, ground := Ground.data }], guard := none }) (v := ?_) rfl (by kernel_rfl) (by kernel_rfl) (by kernel_rfl) (fun _ _ _ h => h) (Or.inl ⟨by rfl, ?_⟩) hHeld ?_
    rotate_left
    · intro u hSw
      have k9 := P2.out u hSw
      go_simp
      try with_reducible rfl
    try simp only [Act.put, List.setIfInBounds_toArray, List.set_cons_zero, List.set_cons_succ]
    refine wpAnyH_ready (rs := [2, 8]) (by kernel_rfl) (by simp) ?_
    refine (AllReadyH.cons (o := { dst := some 17, op := Op.call { callee := Callee.value (Operand.func 32), args := #[Operand.const (Value.string { data := #[105, 110] }), Operand.tmp 16], argTypes := #[9, 22] }, type := 9, pos := "prog.go:235", after := #[{ on := 1, ground := Ground.data }], guard := none }) rfl (fun K hK => ?_) (AllReadyH.cons (o := { dst := some 23, op := Op.buildSlice 22 1 #[(0, Operand.tmp 22)], type := 22, pos := "prog.go:234", after := #[{ on := 7, ground := Ground.data }], guard := none }) rfl (fun K hK => ?_) AllReadyH.nil))
    · go_simp
      refine Calls.mono (piece_F [105, 110] il ic (ia) ins _ (tabW_below HT.out (by assumption)) HIL.out (by omega) hcil (rowI_below HI.out (by assumption)) HRI.out (by decide)) ?_
      rintro e w1p ⟨rfl, hbw1p⟩
      have hSw1p : Below W.heap.size W w1p := Below.trans ‹Below W.heap.size W _› (Below.mono hbw1p (below_size ‹Below W.heap.size W _›))
      clear hbw1p
      go_wp2_with fail
      refine hK.out _ _ ?_ (fun hHeld => ?_)
      · exact hSw1p
      clear hK K
      try simp only [Act.put, List.setIfInBounds_toArray, List.set_cons_zero, List.set_cons_succ]
      refine wpAnyH_ready (rs := [5, 8]) (by kernel_rfl) (by simp) ?_
      refine (AllReadyH.cons (o := { dst := some 20, op := Op.call { callee := Callee.value (Operand.func 32), args := #[Operand.const (Value.string { data := #[111, 117, 116] }), Operand.tmp 19], argTypes := #[9, 22] }, type := 9, pos := "prog.go:236", after := #[{ on := 4, ground := Ground.data }, { on := 2, ground := Ground.chain }], guard := none }) rfl (fun K hK => ?_) (AllReadyH.cons (o := { dst := some 23, op := Op.buildSlice 22 1 #[(0, Operand.tmp 22)], type := 22, pos := "prog.go:234", after := #[{ on := 7, ground := Ground.data }], guard := none }) rfl (fun K hK => ?_) AllReadyH.nil))
      · go_simp
        refine Calls.mono (piece_F [111, 117, 116] ol oc (oa) outs _ (tabW_below HT.out (by assumption)) HOL.out (by omega) hcol (rowI_below HO.out (by assumption)) HRO.out (by decide)) ?_
        rintro e w2p ⟨rfl, hbw2p⟩
        have hSw2p : Below W.heap.size W w2p := Below.trans ‹Below W.heap.size W _› (Below.mono hbw2p (below_size ‹Below W.heap.size W _›))
        clear hbw2p
        go_wp2_with fail
        refine hK.out _ _ ?_ (fun hHeld => ?_)
        · exact hSw2p
        clear hK K
        try simp only [Act.put, List.setIfInBounds_toArray, List.set_cons_zero, List.set_cons_succ]
        refine wpAnyH_ready (rs := [8]) (by kernel_rfl) (by simp) ?_
        refine (AllReadyH.cons (o := { dst := some 23, op := Op.buildSlice 22 1 #[(0, Operand.tmp 22)], type := 22, pos := "prog.go:234", after := #[{ on := 7, ground := Ground.data }], guard := none }) rfl (fun K hK => ?_) AllReadyH.nil)
        have hSb : Below W.heap.size W (w2p.alloc (.cells #[.int .i64 rg] 3)) := (hSw2p).alloc (below_size hSw2p) _
        have hR8 : RowI (w2p.alloc (.cells #[.int .i64 rg] 3)) (some ⟨w2p.heap.size, 0, none⟩) [(rg : Int)] := .inr ⟨w2p.heap.size, 0, rfl, fun j n hj => by
          match j, hj with
          | 0, hj => cases hj; exact cellAt (heap_alloc_last w2p (.cells #[.int .i64 (rg : Int)] 3)) 0 _ rfl
          | j + 1, hj => cases hj⟩
        go_simp
        refine hK.out _ _ ?_ (fun hHeld => ?_)
        · exact hSb
        clear hK K
        try simp only [Act.put, List.setIfInBounds_toArray, List.set_cons_zero, List.set_cons_succ]
        refine wpAnyH_ready (rs := [9]) (by kernel_rfl) (by simp) ?_
        refine (AllReadyH.cons (o := { dst := some 24, op := Op.call { callee := Callee.value (Operand.func 32), args := #[Operand.const (Value.string { data := #[114, 101, 103, 115] }), Operand.tmp 23], argTypes := #[9, 22] }, type := 9, pos := "prog.go:237", after := #[{ on := 8, ground := Ground.data }, { on := 5, ground := Ground.chain }], guard := none }) rfl (fun K hK => ?_) AllReadyH.nil)
        go_simp
        refine Calls.mono (piece_F [114, 101, 103, 115] 1 1 (some ⟨w2p.heap.size, 0, none⟩) [(rg : Int)] _ (tabW_below HT.out (by assumption)) rfl (by decide) (Nat.le_refl _) hR8 HRR.out (by decide)) ?_
        rintro e w3p ⟨rfl, hbw3p⟩
        have hSw3p : Below W.heap.size W w3p := Below.trans ‹Below W.heap.size W _› (Below.mono hbw3p (below_size ‹Below W.heap.size W _›))
        have hR8 := rowI_below hR8 hbw3p
        clear hbw3p
        go_wp2_with fail
        refine hK.out _ _ ?_ (fun hHeld => ?_)
        · exact hSw3p
        clear hK K
        try simp only [Act.put, List.setIfInBounds_toArray, List.set_cons_zero, List.set_cons_succ]
        refine wpAnyH_ready (rs := [10]) (by kernel_rfl) (by simp) ?_
        refine (AllReadyH.cons (o := { dst := some 25, op := Op.buildSlice 73 3 #[(0, Operand.tmp 17), (1, Operand.tmp 20), (2, Operand.tmp 24)], type := 73, pos := "prog.go:234", after := #[{ on := 2, ground := Ground.data }, { on := 5, ground := Ground.data }, { on := 9, ground := Ground.data }], guard := none }) rfl (fun K hK => ?_) AllReadyH.nil)
        go_simp
        refine hK.out _ _ ?_ (fun hHeld => ?_)
        · exact Below.alloc hSw3p (below_size hSw3p) _
        clear hK K
        try simp only [Act.put, List.setIfInBounds_toArray, List.set_cons_zero, List.set_cons_succ]
        refine wpAnyH_take (i := 11) (oi := { dst := some 5, op := Op.assign (Operand.tmp 25), type := 73, pos := "prog.go:234", after := #[{ on := 10, ground := Ground.data }, { on := 9, ground := Ground.chain }, { on := 0, ground := Ground.phase }, { on := 1, ground := Ground.phase }, { on := 2, ground := Ground.phase }, { on := 3, ground := Ground.phase }, { on := 4, ground := Ground.phase }, { on := 5, ground := Ground.phase }, { on := 6, ground := Ground.phase }, { on := 7, ground := Ground.phase }, { on := 8, ground := Ground.phase }, { on := 9, ground := Ground.phase }, { on := 10, ground := Ground.phase }], guard := none }) (v := ?_) rfl (by kernel_rfl) (by kernel_rfl) (by kernel_rfl) (fun _ _ _ h => h) (Or.inl ⟨by rfl, ?_⟩) hHeld ?_
        rotate_left
        · intro u hSw
          go_simp
          try with_reducible rfl
        try simp only [Act.put, List.setIfInBounds_toArray, List.set_cons_zero, List.set_cons_succ]
        refine wpAnyH_done (by kernel_rfl) ?_ _
        refine NoPanic.normal ?_
        go_wp2
        go_meet
        exact ⟨w3p.heap.size, 3, rfl, Below.alloc hSw3p (below_size hSw3p) _, ownsZ_new (n := 3) (xs := headsB ins outs rg) (heap_alloc_last w3p (.cells #[.string (strB (pieceB [105, 110] ins)), .string (strB (pieceB [111, 117, 116] outs)), .string (strB (pieceB [114, 101, 103, 115] [(rg : Int)]))] 9)) rfl (show (3 : Nat) ≤ 1000 by omega) (below_size hSw3p)⟩
      · have hSb : Below W.heap.size W (w1p.alloc (.cells #[.int .i64 rg] 3)) := (hSw1p).alloc (below_size hSw1p) _
        have hR8 : RowI (w1p.alloc (.cells #[.int .i64 rg] 3)) (some ⟨w1p.heap.size, 0, none⟩) [(rg : Int)] := .inr ⟨w1p.heap.size, 0, rfl, fun j n hj => by
          match j, hj with
          | 0, hj => cases hj; exact cellAt (heap_alloc_last w1p (.cells #[.int .i64 (rg : Int)] 3)) 0 _ rfl
          | j + 1, hj => cases hj⟩
        go_simp
        refine hK.out _ _ ?_ (fun hHeld => ?_)
        · exact hSb
        clear hK K
        try simp only [Act.put, List.setIfInBounds_toArray, List.set_cons_zero, List.set_cons_succ]
        refine wpAnyH_ready (rs := [5]) (by kernel_rfl) (by simp) ?_
        refine (AllReadyH.cons (o := { dst := some 20, op := Op.call { callee := Callee.value (Operand.func 32), args := #[Operand.const (Value.string { data := #[111, 117, 116] }), Operand.tmp 19], argTypes := #[9, 22] }, type := 9, pos := "prog.go:236", after := #[{ on := 4, ground := Ground.data }, { on := 2, ground := Ground.chain }], guard := none }) rfl (fun K hK => ?_) AllReadyH.nil)
        go_simp
        refine Calls.mono (piece_F [111, 117, 116] ol oc (oa) outs _ (tabW_below HT.out (by assumption)) HOL.out (by omega) hcol (rowI_below HO.out (by assumption)) HRO.out (by decide)) ?_
        rintro e w2p ⟨rfl, hbw2p⟩
        have hSw2p : Below W.heap.size W w2p := Below.trans ‹Below W.heap.size W _› (Below.mono hbw2p (below_size ‹Below W.heap.size W _›))
        have hR8 := rowI_below hR8 hbw2p
        clear hbw2p
        go_wp2_with fail
        refine hK.out _ _ ?_ (fun hHeld => ?_)
        · exact hSw2p
        clear hK K
        try simp only [Act.put, List.setIfInBounds_toArray, List.set_cons_zero, List.set_cons_succ]
        refine wpAnyH_ready (rs := [9]) (by kernel_rfl) (by simp) ?_
        refine (AllReadyH.cons (o := { dst := some 24, op := Op.call { callee := Callee.value (Operand.func 32), args := #[Operand.const (Value.string { data := #[114, 101, 103, 115] }), Operand.tmp 23], argTypes := #[9, 22] }, type := 9, pos := "prog.go:237", after := #[{ on := 8, ground := Ground.data }, { on := 5, ground := Ground.chain }], guard := none }) rfl (fun K hK => ?_) AllReadyH.nil)
        go_simp
        refine Calls.mono (piece_F [114, 101, 103, 115] 1 1 (some ⟨w1p.heap.size, 0, none⟩) [(rg : Int)] _ (tabW_below HT.out (by assumption)) rfl (by decide) (Nat.le_refl _) hR8 HRR.out (by decide)) ?_
        rintro e w3p ⟨rfl, hbw3p⟩
        have hSw3p : Below W.heap.size W w3p := Below.trans ‹Below W.heap.size W _› (Below.mono hbw3p (below_size ‹Below W.heap.size W _›))
        have hR8 := rowI_below hR8 hbw3p
        clear hbw3p
        go_wp2_with fail
        refine hK.out _ _ ?_ (fun hHeld => ?_)
        · exact hSw3p
        clear hK K
        try simp only [Act.put, List.setIfInBounds_toArray, List.set_cons_zero, List.set_cons_succ]
        refine wpAnyH_ready (rs := [10]) (by kernel_rfl) (by simp) ?_
        refine (AllReadyH.cons (o := { dst := some 25, op := Op.buildSlice 73 3 #[(0, Operand.tmp 17), (1, Operand.tmp 20), (2, Operand.tmp 24)], type := 73, pos := "prog.go:234", after := #[{ on := 2, ground := Ground.data }, { on := 5, ground := Ground.data }, { on := 9, ground := Ground.data }], guard := none }) rfl (fun K hK => ?_) AllReadyH.nil)
        go_simp
        refine hK.out _ _ ?_ (fun hHeld => ?_)
        · exact Below.alloc hSw3p (below_size hSw3p) _
        clear hK K
        try simp only [Act.put, List.setIfInBounds_toArray, List.set_cons_zero, List.set_cons_succ]
        refine wpAnyH_take (i := 11) (oi := { dst := some 5, op := Op.assign (Operand.tmp 25), type := 73, pos := "prog.go:234", after := #[{ on := 10, ground := Ground.data }, { on := 9, ground := Ground.chain }, { on := 0, ground := Ground.phase }, { on := 1, ground := Ground.phase }, { on := 2, ground := Ground.phase }, { on := 3, ground := Ground.phase }, { on := 4, ground := Ground.phase }, { on := 5, ground := Ground.phase }, { on := 6, ground := Ground.phase }, { on := 7, ground := Ground.phase }, { on := 8, ground := Ground.phase }, { on := 9, ground := Ground.phase }, { on := 10, ground := Ground.phase }], guard := none }) (v := ?_) rfl (by kernel_rfl) (by kernel_rfl) (by kernel_rfl) (fun _ _ _ h => h) (Or.inl ⟨by rfl, ?_⟩) hHeld ?_
        rotate_left
        · intro u hSw
          go_simp
          try with_reducible rfl
        try simp only [Act.put, List.setIfInBounds_toArray, List.set_cons_zero, List.set_cons_succ]
        refine wpAnyH_done (by kernel_rfl) ?_ _
        refine NoPanic.normal ?_
        go_wp2
        go_meet
        exact ⟨w3p.heap.size, 3, rfl, Below.alloc hSw3p (below_size hSw3p) _, ownsZ_new (n := 3) (xs := headsB ins outs rg) (heap_alloc_last w3p (.cells #[.string (strB (pieceB [105, 110] ins)), .string (strB (pieceB [111, 117, 116] outs)), .string (strB (pieceB [114, 101, 103, 115] [(rg : Int)]))] 9)) rfl (show (3 : Nat) ≤ 1000 by omega) (below_size hSw3p)⟩
    · have hSb : Below W.heap.size W (W.alloc (.cells #[.int .i64 rg] 3)).drew := ((Below.refl W.heap.size W).alloc (Nat.le_refl _) _).drew
      have hR8 : RowI (W.alloc (.cells #[.int .i64 rg] 3)).drew (some ⟨W.heap.size, 0, none⟩) [(rg : Int)] := .inr ⟨W.heap.size, 0, rfl, fun j n hj => by
        match j, hj with
        | 0, hj => cases hj; exact cellAt (heap_alloc_last W (.cells #[.int .i64 (rg : Int)] 3)) 0 _ rfl
        | j + 1, hj => cases hj⟩
      go_simp
      refine hK.out _ _ ?_ (fun hHeld => ?_)
      · exact hSb
      clear hK K
      try simp only [Act.put, List.setIfInBounds_toArray, List.set_cons_zero, List.set_cons_succ]
      refine wpAnyH_ready (rs := [2]) (by kernel_rfl) (by simp) ?_
      refine (AllReadyH.cons (o := { dst := some 17, op := Op.call { callee := Callee.value (Operand.func 32), args := #[Operand.const (Value.string { data := #[105, 110] }), Operand.tmp 16], argTypes := #[9, 22] }, type := 9, pos := "prog.go:235", after := #[{ on := 1, ground := Ground.data }], guard := none }) rfl (fun K hK => ?_) AllReadyH.nil)
      go_simp
      refine Calls.mono (piece_F [105, 110] il ic (ia) ins _ (tabW_below HT.out (by assumption)) HIL.out (by omega) hcil (rowI_below HI.out (by assumption)) HRI.out (by decide)) ?_
      rintro e w1p ⟨rfl, hbw1p⟩
      have hSw1p : Below W.heap.size W w1p := Below.trans ‹Below W.heap.size W _› (Below.mono hbw1p (below_size ‹Below W.heap.size W _›))
      have hR8 := rowI_below hR8 hbw1p
      clear hbw1p
      go_wp2_with fail
      refine hK.out _ _ ?_ (fun hHeld => ?_)
      · exact hSw1p
      clear hK K
      try simp only [Act.put, List.setIfInBounds_toArray, List.set_cons_zero, List.set_cons_succ]
      refine wpAnyH_ready (rs := [5]) (by kernel_rfl) (by simp) ?_
      refine (AllReadyH.cons (o := { dst := some 20, op := Op.call { callee := Callee.value (Operand.func 32), args := #[Operand.const (Value.string { data := #[111, 117, 116] }), Operand.tmp 19], argTypes := #[9, 22] }, type := 9, pos := "prog.go:236", after := #[{ on := 4, ground := Ground.data }, { on := 2, ground := Ground.chain }], guard := none }) rfl (fun K hK => ?_) AllReadyH.nil)
      go_simp
      refine Calls.mono (piece_F [111, 117, 116] ol oc (oa) outs _ (tabW_below HT.out (by assumption)) HOL.out (by omega) hcol (rowI_below HO.out (by assumption)) HRO.out (by decide)) ?_
      rintro e w2p ⟨rfl, hbw2p⟩
      have hSw2p : Below W.heap.size W w2p := Below.trans ‹Below W.heap.size W _› (Below.mono hbw2p (below_size ‹Below W.heap.size W _›))
      have hR8 := rowI_below hR8 hbw2p
      clear hbw2p
      go_wp2_with fail
      refine hK.out _ _ ?_ (fun hHeld => ?_)
      · exact hSw2p
      clear hK K
      try simp only [Act.put, List.setIfInBounds_toArray, List.set_cons_zero, List.set_cons_succ]
      refine wpAnyH_ready (rs := [9]) (by kernel_rfl) (by simp) ?_
      refine (AllReadyH.cons (o := { dst := some 24, op := Op.call { callee := Callee.value (Operand.func 32), args := #[Operand.const (Value.string { data := #[114, 101, 103, 115] }), Operand.tmp 23], argTypes := #[9, 22] }, type := 9, pos := "prog.go:237", after := #[{ on := 8, ground := Ground.data }, { on := 5, ground := Ground.chain }], guard := none }) rfl (fun K hK => ?_) AllReadyH.nil)
      go_simp
      refine Calls.mono (piece_F [114, 101, 103, 115] 1 1 (some ⟨W.heap.size, 0, none⟩) [(rg : Int)] _ (tabW_below HT.out (by assumption)) rfl (by decide) (Nat.le_refl _) hR8 HRR.out (by decide)) ?_
      rintro e w3p ⟨rfl, hbw3p⟩
      have hSw3p : Below W.heap.size W w3p := Below.trans ‹Below W.heap.size W _› (Below.mono hbw3p (below_size ‹Below W.heap.size W _›))
      have hR8 := rowI_below hR8 hbw3p
      clear hbw3p
      go_wp2_with fail
      refine hK.out _ _ ?_ (fun hHeld => ?_)
      · exact hSw3p
      clear hK K
      try simp only [Act.put, List.setIfInBounds_toArray, List.set_cons_zero, List.set_cons_succ]
      refine wpAnyH_ready (rs := [10]) (by kernel_rfl) (by simp) ?_
      refine (AllReadyH.cons (o := { dst := some 25, op := Op.buildSlice 73 3 #[(0, Operand.tmp 17), (1, Operand.tmp 20), (2, Operand.tmp 24)], type := 73, pos := "prog.go:234", after := #[{ on := 2, ground := Ground.data }, { on := 5, ground := Ground.data }, { on := 9, ground := Ground.data }], guard := none }) rfl (fun K hK => ?_) AllReadyH.nil)
      go_simp
      refine hK.out _ _ ?_ (fun hHeld => ?_)
      · exact Below.alloc hSw3p (below_size hSw3p) _
      clear hK K
      try simp only [Act.put, List.setIfInBounds_toArray, List.set_cons_zero, List.set_cons_succ]
      refine wpAnyH_take (i := 11) (oi := { dst := some 5, op := Op.assign (Operand.tmp 25), type := 73, pos := "prog.go:234", after := #[{ on := 10, ground := Ground.data }, { on := 9, ground := Ground.chain }, { on := 0, ground := Ground.phase }, { on := 1, ground := Ground.phase }, { on := 2, ground := Ground.phase }, { on := 3, ground := Ground.phase }, { on := 4, ground := Ground.phase }, { on := 5, ground := Ground.phase }, { on := 6, ground := Ground.phase }, { on := 7, ground := Ground.phase }, { on := 8, ground := Ground.phase }, { on := 9, ground := Ground.phase }, { on := 10, ground := Ground.phase }], guard := none }) (v := ?_) rfl (by kernel_rfl) (by kernel_rfl) (by kernel_rfl) (fun _ _ _ h => h) (Or.inl ⟨by rfl, ?_⟩) hHeld ?_
      rotate_left
      · intro u hSw
        go_simp
        try with_reducible rfl
      try simp only [Act.put, List.setIfInBounds_toArray, List.set_cons_zero, List.set_cons_succ]
      refine wpAnyH_done (by kernel_rfl) ?_ _
      refine NoPanic.normal ?_
      go_wp2
      go_meet
      exact ⟨w3p.heap.size, 3, rfl, Below.alloc hSw3p (below_size hSw3p) _, ownsZ_new (n := 3) (xs := headsB ins outs rg) (heap_alloc_last w3p (.cells #[.string (strB (pieceB [105, 110] ins)), .string (strB (pieceB [111, 117, 116] outs)), .string (strB (pieceB [114, 101, 103, 115] [(rg : Int)]))] 9)) rfl (show (3 : Nat) ≤ 1000 by omega) (below_size hSw3p)⟩

  case rest =>
  obtain ⟨g0, n0, rfl, hbc, hoc⟩ := hcut
  have HBC : Hid (Below W.heap.size W wc) := hbc
  have HOC : Hid (wc.ownsRow W.heap.size 9 1 (.slice (some ⟨g0, 0, none⟩) 3 n0) 3 (zvs (headsB ins outs rg))) := hoc
  have p3 := cellAt (heap_later (holds_at HA.out 0 rfl) hbc) 3 _ rfl
  clear hbc hoc P0 P1 P2
  go_wp2
  clear p3
  go_loopw [29, 5] (fun i v wr => ∃ (j g cp : Nat), j ≤ sl ∧ i = .int .i64 j ∧ v = .slice (some ⟨g, 0, none⟩) (3 + j) cp ∧ Below W.heap.size W wr ∧ wr.ownsRow W.heap.size 9 1 (.slice (some ⟨g, 0, none⟩) (3 + j) cp) (3 + j) (zvs (headsB ins outs rg ++ (ss.take j).map stepB))) (fun i _ _ => sl - (intOf i).toNat)
  case atStart => exact ⟨0, g0, n0, Nat.zero_le _, rfl, rfl, HBC.out, by rw [List.take_zero, List.map_nil, List.append_nil]; exact HOC.out⟩
  case round =>
    obtain ⟨j, g, cp, hj, rfl, rfl, hbr, hor⟩ := hrel
    have HBR : Hid (Below W.heap.size W wr) := hbr
    have HOR : Hid (wr.ownsRow W.heap.size 9 1 (.slice (some ⟨g, 0, none⟩) (3 + j) cp) (3 + j) (zvs (headsB ins outs rg ++ (ss.take j).map stepB))) := hor
    clear hbr hor
    by_cases hlj : j < sl
    · have hjs : j < ss.length := by rw [← HSL.out]; exact hlj
      obtain ⟨b, off, hsa, hc⟩ := stpW_get (stpW_below HP.out.S (HW.out.trans (HBR.out.mono HW.out.size))) hjs
      obtain ⟨c0, c1, c2, c3⟩ := hc j hjs
      obtain ⟨⟨op, dst, src, c⟩, hs⟩ : ∃ s, ss[j] = s := ⟨_, rfl⟩
      rw [hs] at c0 c1 c2 c3
      simp only at c0 c1 c2 c3
      have hget : ss[j]? = some ⟨op, dst, src, c⟩ := by rw [List.getElem?_eq_getElem hjs, hs]
      have HTK : Hid (ss.take (j + 1) = ss.take j ++ [⟨op, dst, src, c⟩]) := by show _ = _; rw [List.take_add_one, hget]; rfl
      have hok : OkS il ol rg ⟨op, dst, src, c⟩ := by rw [HIL.out, HOL.out]; exact HF.out.2.2.2.2.1 _ (List.mem_of_getElem? hget)
      have hop : 1 ≤ op ∧ op ≤ 5 := by unfold OkS at hok; simp only at hok; omega
      have HO0 : Hid (okN op = true) := decide_eq_true hop
      obtain ⟨s9, f9, so, an, as9, ou, n9, m9, hO, hmm⟩ := op_some hop
      obtain rfl := op_word hop hO
      have HNB : Hid (pieceB (wordB op) (numsL f9 so dst src (c.toNat : Int)) = stepB ⟨op, dst, src, c⟩) := by show _ = _; rw [hO.f, hO.so]; rfl
      have HNR : Hid (∀ x ∈ numsL f9 so dst src (c.toNat : Int), 0 ≤ x ∧ x < 1000) := by
        have := okS_nums hok (by omega) (by omega) (by omega)
        rw [hO.f, hO.so]; exact this
      have HO1 : Hid _ := hO.cells
      obtain ⟨wd, hwd⟩ : ∃ wd, wd = wordB op := ⟨_, rfl⟩
      have HWL : Hid (wd.length ≤ 64) := by have := wordB_len op; show _ ≤ _; rw [hwd]; omega
      rw [← hwd] at HNB HO1
      subst hsa
      clear hc hs hget hjs hok hop hO hmm hwd
      have HB1 : Hid (Below W.heap.size W (wr.alloc (.cells #[.int .i64 op, .int .i64 dst, .int .i64 src, .int .u8 (c.toNat : Int)] 48))) := HBR.out.alloc HBR.out.size _
      have HS1 : Hid _ := heap_alloc_last wr (.cells #[.int .i64 op, .int .i64 dst, .int .i64 src, .int .u8 (c.toNat : Int)] 48)
      have HR1 : Hid _ := own_below HOR.out ((Below.refl _ wr).alloc (Nat.le_refl _) (.cells #[.int .i64 op, .int .i64 dst, .int .i64 src, .int .u8 (c.toNat : Int)] 48))
      go_wp2_with fail
      refine Calls.mono (find_F op _) ?_
      rw [HO0.out, HO1.out]
      rintro e w2 ⟨rfl, hb2⟩
      have hB2 : Below W.heap.size W w2 := HB1.out.trans (hb2.mono HB1.out.size)
      have hs2 := heap_later HS1.out hb2
      have q0 := cellAt hs2 0 _ rfl
      obtain ⟨X, hX⟩ : ∃ X, X = w2.alloc (.cells #[.string (strB wd), .bool f9, .bool so, .bool an, .bool as9, .bool ou, .func (.func n9) #[] #[], .func (.func m9) #[] #[]] 65) := ⟨_, rfl⟩
      have hbX : Below w2.heap.size w2 X := by rw [hX]; exact (Below.refl _ _).alloc (Nat.le_refl _) _
      have HBX : Hid (Below W.heap.size W X) := hB2.trans (hbX.mono hB2.size)
      have hox := own_below (own_below HR1.out hb2) hbX
      have HOX : Hid (X.ownsRow W.heap.size 9 1 (.slice (some ⟨g, 0, none⟩) (3 + j) cp) (3 + j) (zvs (headsB ins outs rg ++ (ss.take j).map stepB))) := hox
      have hob : X.heap[w2.heap.size]? = some (.cells #[.string (strB wd), .bool f9, .bool so, .bool an, .bool as9, .bool ou, .func (.func n9) #[] #[], .func (.func m9) #[] #[]] 65 (0, 0)) := by rw [hX]; exact heap_alloc_last _ _
      have hsb := heap_later hs2 hbX
      obtain ⟨gc, hgc⟩ : ∃ cs : Array Value, X.heap[g]? = some (.cells cs 9 (0, 0)) := by
        rcases hox.2 with ⟨e, _⟩ | ⟨g', cap, cur, e, _, h, _⟩
        · cases e
        · cases e; exact ⟨_, h⟩
      have HKO : Hid (∀ u, X.grownBy u (some g) → u.heap[w2.heap.size]? = some (.cells #[.string (strB wd), .bool f9, .bool so, .bool an, .bool as9, .bool ou, .func (.func n9) #[] #[], .func (.func m9) #[] #[]] 65 (0, 0))) := fun u hu => grown_keep hu hob (fun e => kind_ne hob hgc (by decide) (Option.some.inj e))
      have HKS : Hid (∀ u, X.grownBy u (some g) → u.heap[wr.heap.size]? = some (.cells #[.int .i64 op, .int .i64 dst, .int .i64 src, .int .u8 (c.toNat : Int)] 48 (0, 0))) := fun u hu => grown_keep hu hsb (fun e => kind_ne hsb hgc (by decide) (Option.some.inj e))
      have HXE : Hid _ := hX
      clear hb2 hB2 hs2 hbX hX hox hob hsb hgc c0 c1 c2 c3
      go_wp2
      rw [← HXE.out]
      clear HXE
      refine wp_region_noPanic ?_
      refine wp_region_held_drew (S := fun u => X.grownBy u (some g)) (by kernel_rfl) ?_ (fun hHeld => ?_)
      · exact grownBy_drew (World.grownBy.refl _ _)
      refine wpAnyH_take (i := 0) (oi := { dst := some 39, op := Op.move (Operand.tmp 5), type := 73, pos := "prog.go:241", after := #[], guard := none }) (v := ?_) rfl (by kernel_rfl) (by kernel_rfl) (by kernel_rfl) (fun _ _ _ h => h) (Or.inl ⟨by rfl, ?_⟩) hHeld ?_
      rotate_left
      · intro u hSw
        go_simp
        try with_reducible rfl
      try simp only [Act.put, List.setIfInBounds_toArray, List.set_cons_zero, List.set_cons_succ]
      refine wpAnyH_take (i := 1) (oi := { dst := some 40, op := Op.fieldAddr 65 (Operand.tmp 8) 0, type := 0, pos := "prog.go:241", after := #[], guard := none }) (v := ?_) rfl (by kernel_rfl) (by kernel_rfl) (by kernel_rfl) (fun _ _ _ h => h) (Or.inl ⟨by rfl, ?_⟩) hHeld ?_
      rotate_left
      · intro u hSw
        go_simp
        try with_reducible rfl
      try simp only [Act.put, List.setIfInBounds_toArray, List.set_cons_zero, List.set_cons_succ]
      refine wpAnyH_take (i := 2) (oi := { dst := some 41, op := Op.load 9 (Operand.tmp 40), type := 9, pos := "prog.go:241", after := #[{ on := 1, ground := Ground.data }], guard := none }) (v := ?_) rfl (by kernel_rfl) (by kernel_rfl) (by kernel_rfl) (fun _ _ _ h => h) (Or.inl ⟨by rfl, ?_⟩) hHeld ?_
      rotate_left
      · intro u hSw
        have k9 := cellAt (HKO.out u hSw) 0 _ rfl
        go_simp
        try with_reducible rfl
      try simp only [Act.put, List.setIfInBounds_toArray, List.set_cons_zero, List.set_cons_succ]
      refine wpAnyH_take (i := 3) (oi := { dst := some 42, op := Op.load 65 (Operand.tmp 8), type := 65, pos := "prog.go:241", after := #[], guard := none }) (v := ?_) rfl (by kernel_rfl) (by kernel_rfl) (by kernel_rfl) (fun _ _ _ h => h) (Or.inl ⟨by rfl, ?_⟩) hHeld ?_
      rotate_left
      · intro u hSw
        have k90 := cellAt (HKO.out u hSw) 0 _ rfl
        have k91 := cellAt (HKO.out u hSw) 1 _ rfl
        have k92 := cellAt (HKO.out u hSw) 2 _ rfl
        have k93 := cellAt (HKO.out u hSw) 3 _ rfl
        have k94 := cellAt (HKO.out u hSw) 4 _ rfl
        have k95 := cellAt (HKO.out u hSw) 5 _ rfl
        have k96 := cellAt (HKO.out u hSw) 6 _ rfl
        have k97 := cellAt (HKO.out u hSw) 7 _ rfl
        go_simp
        try with_reducible rfl
      try simp only [Act.put, List.setIfInBounds_toArray, List.set_cons_zero, List.set_cons_succ]
      refine wpAnyH_take (i := 4) (oi := { dst := some 43, op := Op.load 48 (Operand.tmp 7), type := 48, pos := "prog.go:241", after := #[], guard := none }) (v := ?_) rfl (by kernel_rfl) (by kernel_rfl) (by kernel_rfl) (fun _ _ _ h => h) (Or.inl ⟨by rfl, ?_⟩) hHeld ?_
      rotate_left
      · intro u hSw
        have k90 := cellAt (HKS.out u hSw) 0 _ rfl
        have k91 := cellAt (HKS.out u hSw) 1 _ rfl
        have k92 := cellAt (HKS.out u hSw) 2 _ rfl
        have k93 := cellAt (HKS.out u hSw) 3 _ rfl
        go_simp
        try with_reducible rfl
      try simp only [Act.put, List.setIfInBounds_toArray, List.set_cons_zero, List.set_cons_succ]
      refine wpAnyH_ready (rs := [5]) (by kernel_rfl) (by simp) ?_
      refine (AllReadyH.cons (o := { dst := some 44, op := Op.call { callee := Callee.value (Operand.func 33), args := #[Operand.tmp 42, Operand.tmp 43], argTypes := #[65, 48] }, type := 22, pos := "prog.go:241", after := #[{ on := 3, ground := Ground.data }, { on := 4, ground := Ground.data }], guard := none }) rfl (fun K hK => ?_) AllReadyH.nil)
      go_simp
      refine Calls.mono (numbers_F wd f9 so an as9 ou n9 m9 op dst src c _) ?_
      rintro e x1 ⟨g1, m1, c1, rfl, hm1, hmc1, hr1, hb1⟩
      have HM1 : Hid (m1 = (numsL f9 so dst src (c.toNat : Int)).length) := hm1
      have HR1 : Hid (RowI x1 (some ⟨g1, 0, none⟩) (numsL f9 so dst src (c.toNat : Int))) := hr1
      clear hm1 hr1
      have hS1 : X.grownBy x1 (some g) := grown_below (grownBy_drew (World.grownBy.refl _ _)) hb1
      have hB1 : Below W.heap.size W x1 := (HBX.out.drew).trans (hb1.mono HBX.out.size)
      go_wp2_with fail
      refine hK.out _ _ ?_ (fun hHeld => ?_)
      · exact hS1
      clear hK K
      try simp only [Act.put, List.setIfInBounds_toArray, List.set_cons_zero, List.set_cons_succ]
      refine wpAnyH_ready (rs := [6]) (by kernel_rfl) (by simp) ?_
      refine (AllReadyH.cons (o := { dst := some 45, op := Op.call { callee := Callee.value (Operand.func 32), args := #[Operand.tmp 41, Operand.tmp 44], argTypes := #[9, 22] }, type := 9, pos := "prog.go:241", after := #[{ on := 2, ground := Ground.data }, { on := 5, ground := Ground.data }, { on := 5, ground := Ground.chain }], guard := none }) rfl (fun K hK => ?_) AllReadyH.nil)
      go_simp
      refine Calls.mono (piece_F wd m1 c1 (some ⟨g1, 0, none⟩) (numsL f9 so dst src (c.toNat : Int)) _ (tabW_below HT.out hB1) HM1.out (by rw [HM1.out]; exact Nat.le_trans (numsL_len _ _ _ _ _) (by decide)) hmc1 HR1.out HNR.out HWL.out) ?_
      rintro e x2 ⟨rfl, hb2⟩
      have hS2 : X.grownBy x2 (some g) := grown_below hS1 hb2
      have hB2 : Below W.heap.size W x2 := hB1.trans (hb2.mono hB1.size)
      go_wp2_with fail
      refine hK.out _ _ ?_ (fun hHeld => ?_)
      · exact hS2
      clear hK K
      try simp only [Act.put, List.setIfInBounds_toArray, List.set_cons_zero, List.set_cons_succ]
      refine wpAnyH_ready (rs := [7]) (by kernel_rfl) (by simp) ?_
      refine (AllReadyH.cons (o := { dst := some 46, op := Op.buildSlice 73 1 #[(0, Operand.tmp 45)], type := 73, pos := "prog.go:241", after := #[{ on := 6, ground := Ground.data }], guard := none }) rfl (fun K hK => ?_) AllReadyH.nil)
      go_simp
      refine hK.out _ _ ?_ (fun hHeld => ?_)
      · exact grown_below hS2 ((Below.refl _ x2).alloc (Nat.le_refl _) _)
      clear hK K
      try simp only [Act.put, List.setIfInBounds_toArray, List.set_cons_zero, List.set_cons_succ]
      refine wpAnyH_ready (rs := [8]) (by kernel_rfl) (by simp) ?_
      refine (AllReadyH.cons (o := { dst := some 47, op := Op.call { callee := Callee.builtin Builtin.append, args := #[Operand.tmp 39, Operand.tmp 46], argTypes := #[73, 73] }, type := 73, pos := "prog.go:241", after := #[{ on := 0, ground := Ground.data }, { on := 7, ground := Ground.data }, { on := 6, ground := Ground.chain }], guard := none }) rfl (fun K hK => ?_) AllReadyH.nil)
      have ho2 := own_below (own_below (own_drew HOX.out) hb1) hb2
      have hb3 := hB2.alloc hB2.size (.cells #[.string (strB (pieceB wd (numsL f9 so dst src (c.toNat : Int))))] 9)
      have ho3 := own_below ho2 ((Below.refl _ x2).alloc (Nat.le_refl _) (.cells #[.string (strB (pieceB wd (numsL f9 so dst src (c.toNat : Int))))] 9))
      have hc3 := cellAt (heap_alloc_last x2 (.cells #[.string (strB (pieceB wd (numsL f9 so dst src (c.toNat : Int))))] 9)) 0 _ rfl
      obtain ⟨g4, cp4, x4, hap, ho4, hg4, hor4, hlt4⟩ := appendZ (c := 1) 73 ho3 hc3 (by omega) hb3.size
      have hb4 : Below W.heap.size W x4 := below_own hb3 ho3 hg4 hb3.size
      have hS4 : X.grownBy x4 (some g) := (grown_below hS2 ((Below.refl _ x2).alloc (Nat.le_refl _) _)).trans hg4
      refine wanted_append_run rfl _ _ 73 rfl _ _ _ _ rfl rfl hap ?_
      refine hK.out _ _ ?_ (fun hHeld => ?_)
      · exact hS4
      clear hK K
      try simp only [Act.put, List.setIfInBounds_toArray, List.set_cons_zero, List.set_cons_succ]
      refine wpAnyH_take (i := 9) (oi := { dst := some 5, op := Op.assign (Operand.tmp 47), type := 73, pos := "prog.go:241", after := #[{ on := 8, ground := Ground.data }, { on := 8, ground := Ground.chain }, { on := 0, ground := Ground.phase }, { on := 1, ground := Ground.phase }, { on := 2, ground := Ground.phase }, { on := 3, ground := Ground.phase }, { on := 4, ground := Ground.phase }, { on := 5, ground := Ground.phase }, { on := 6, ground := Ground.phase }, { on := 7, ground := Ground.phase }, { on := 8, ground := Ground.phase }], guard := none }) (v := ?_) rfl (by kernel_rfl) (by kernel_rfl) (by kernel_rfl) (fun _ _ _ h => h) (Or.inl ⟨by rfl, ?_⟩) hHeld ?_
      rotate_left
      · intro u hSw
        go_simp
        try with_reducible rfl
      try simp only [Act.put, List.setIfInBounds_toArray, List.set_cons_zero, List.set_cons_succ]
      refine wpAnyH_done (by kernel_rfl) ?_ _
      refine NoPanic.normal ?_

      have HB4 : Hid _ := hb4
      have HO4 : Hid (x4.ownsRow W.heap.size 9 1 (.slice (some ⟨g4, 0, none⟩) (3 + (j + 1)) cp4) (3 + (j + 1)) (zvs (headsB ins outs rg ++ (ss.take (j + 1)).map stepB))) := by
        rw [HTK.out, List.map_append, ← List.append_assoc]
        rw [HNB.out] at ho4
        exact ho4
      clear hb1 hb2 hS1 hS2 hB1 hB2 ho2 hb3 ho3 hc3 hap ho4 hg4 hor4 hb4 hS4 hmc1 q0
      go_wp2
      exact ⟨⟨j + 1, g4, cp4, by omega, by go_num, by rw [Nat.add_assoc], HB4.out, HO4.out⟩, by simp [intOf]; omega⟩
    · obtain rfl : j = sl := by omega
      have hfull : ss.take j = ss := by rw [HSL.out, List.take_length]
      have ho := HOR.out
      rw [hfull] at ho
      obtain ⟨g9, cp9, e9, hcp, hln, hgl, hcells⟩ := ownsZ_cells ho (by omega)
      cases e9
      have HJ : Hid _ := join9_F g 0 cp (headsB ins outs rg ++ ss.map stepB) [59, 32] wr hcells hgl (by rw [← hln]; omega) (by rw [← hln]; exact hcp) (Nat.le_trans (textP_len HF.out) (by decide))
      rw [← hln] at HJ
      clear hfull ho hcells hln hcp
      go_wp2_with fail
      refine Calls.mono HJ.out ?_
      rintro e w5 ⟨rfl, hb5⟩
      have HB5 : Hid (Below w.heap.size w w5) := (HW.out.trans (HBR.out.mono HW.out.size)).trans (hb5.mono (by have := HW.out.size; have := HBR.out.size; omega))
      clear hb5
      go_wp2
      go_ret2
      exact ⟨rfl, HB5.out⟩
end Go.Proofs.YtbjjmlebpohmcaaDoor

/- alive of stage 9: the chapter's first example. -/
namespace Go.Proofs.YtbjjmlebpohmcaaDoor
open Go.RowKit Gf
set_option linter.unusedVariables false
set_option maxRecDepth 20000
set_option linter.unusedSimpArgs false
theorem rowI_list9 {w : World} {g o : Nat} {cs : Array Value} {t : TypeId} {fr : Nat × Nat} {ns : List Int} (h : w.heap[g]? = some (.cells cs t fr)) (hn : ∀ j n, ns[j]? = some n → cs[o + j]? = some (.int .i64 n)) : RowI w (some ⟨g, o, none⟩) ns :=
  .inr ⟨g, o, rfl, fun j n hj => cellAt h (o + j) _ (hn j n hj)⟩
def smallS : List Stp := [⟨1, 0, 0, 0⟩, ⟨1, 1, 1, 0⟩, ⟨3, 0, 0, 3⟩, ⟨4, 0, 1, 7⟩, ⟨5, 0, 0, 0⟩]
theorem small_in : InF [2, 5] [0] 2 smallS := by
  refine ⟨?_, ?_, by omega, by decide, ?_, ?_⟩
  · exact goodH_of (n := 32) (ns := [2, 5]) (by decide) (by decide)
  · exact goodH_of (n := 32) (ns := [0]) (by decide) (by decide)
  · intro s hs
    simp only [smallS, List.mem_cons, List.not_mem_nil, or_false] at hs
    rcases hs with rfl | rfl | rfl | rfl | rfl <;> simp [OkS]
  · intro d hd
    obtain rfl : d = 0 := by simp only [List.length_cons, List.length_nil] at hd; omega
    rfl
theorem small_mean : meanL 2 1 smallS = [3, 7] := by decide +kernel
theorem small_text : textP [2, 5] [0] 2 smallS = [105, 110, 32, 50, 32, 53, 59, 32, 111, 117, 116, 32, 48, 59, 32, 114, 101, 103, 115, 32, 50, 59, 32, 108, 111, 97, 100, 32, 48, 32, 48, 59, 32, 108, 111, 97, 100, 32, 49, 32, 49, 59, 32, 109, 117, 108, 32, 48, 32, 51, 59, 32, 97, 100, 100, 32, 48, 32, 55, 32, 49, 59, 32, 115, 116, 111, 114, 101, 32, 48, 32, 48] := by
  have n0 : numT 0 = [32, 48] := by show 32 :: Lib.decDigits 0 = _; rw [dec_one (by omega)]; rfl
  have n1 : numT 1 = [32, 49] := by show 32 :: Lib.decDigits 1 = _; rw [dec_one (by omega)]; rfl
  have n2 : numT 2 = [32, 50] := by show 32 :: Lib.decDigits 2 = _; rw [dec_one (by omega)]; rfl
  have n3 : numT 3 = [32, 51] := by show 32 :: Lib.decDigits 3 = _; rw [dec_one (by omega)]; rfl
  have n5 : numT 5 = [32, 53] := by show 32 :: Lib.decDigits 5 = _; rw [dec_one (by omega)]; rfl
  have n7 : numT 7 = [32, 55] := by show 32 :: Lib.decDigits 7 = _; rw [dec_one (by omega)]; rfl
  have e3 : ((3 : F).toNat : Int) = 3 := rfl
  have e7 : ((7 : F).toNat : Int) = 7 := rfl
  simp [textP, headsB, smallS, stepB, pieceB, numsS, numsL, wordB, n0, n1, n2, n3, n5, n7, e3, e7, Lib.join_cons, Lib.joinTail]
set_option maxHeartbeats 4000000 in
theorem small9_F (w : World) : Calls Tryd.prog 23 #[] w fun e w' => ∃ ia oa sa, e = .returned (.agg #[.slice ia 2 2, .slice oa 1 1, .int .i64 2, .slice sa 5 5]) ∧ PrgW w' ia oa sa 2 2 1 1 5 5 [2, 5] [0] smallS ∧ Below w.heap.size w w' := by
  go_enter Tryd.func23, Tryd.ntmps23
  go_wp2
  have hA := holds_new (holds_new (holds_new (holds_new (holds_nil w) #[.slice (some ⟨w.heap.size + 1, 0, none⟩) 2 2, .slice (some ⟨w.heap.size + 1 + 1, 0, none⟩) 1 1, .int .i64 2, .slice (some ⟨w.heap.size + 1 + 1 + 1, 0, none⟩) 5 5] 25) #[.int .i64 2, .int .i64 5] 3) #[.int .i64 0] 3) #[.int .i64 1, .int .i64 0, .int .i64 0, .int .u8 0, .int .i64 1, .int .i64 1, .int .i64 1, .int .u8 0, .int .i64 3, .int .i64 0, .int .i64 0, .int .u8 3, .int .i64 4, .int .i64 0, .int .i64 1, .int .u8 7, .int .i64 5, .int .i64 0, .int .i64 0, .int .u8 0] 48
  have hB := ((((Below.refl _ w).alloc (Nat.le_refl _) (.cells #[.slice (some ⟨w.heap.size + 1, 0, none⟩) 2 2, .slice (some ⟨w.heap.size + 1 + 1, 0, none⟩) 1 1, .int .i64 2, .slice (some ⟨w.heap.size + 1 + 1 + 1, 0, none⟩) 5 5] 25)).alloc (by simp) (.cells #[.int .i64 2, .int .i64 5] 3)).alloc (by simp; omega) (.cells #[.int .i64 0] 3)).alloc (by simp; omega) (.cells #[.int .i64 1, .int .i64 0, .int .i64 0, .int .u8 0, .int .i64 1, .int .i64 1, .int .i64 1, .int .u8 0, .int .i64 3, .int .i64 0, .int .i64 0, .int .u8 3, .int .i64 4, .int .i64 0, .int .i64 1, .int .u8 7, .int .i64 5, .int .i64 0, .int .i64 0, .int .u8 0] 48)
  simp only [World.size_alloc] at hA
  generalize ((((w.alloc (.cells #[.slice (some ⟨w.heap.size + 1, 0, none⟩) 2 2, .slice (some ⟨w.heap.size + 1 + 1, 0, none⟩) 1 1, .int .i64 2, .slice (some ⟨w.heap.size + 1 + 1 + 1, 0, none⟩) 5 5] 25)).alloc (.cells #[.int .i64 2, .int .i64 5] 3)).alloc (.cells #[.int .i64 0] 3)).alloc (.cells #[.int .i64 1, .int .i64 0, .int .i64 0, .int .u8 0, .int .i64 1, .int .i64 1, .int .i64 1, .int .u8 0, .int .i64 3, .int .i64 0, .int .i64 0, .int .u8 3, .int .i64 4, .int .i64 0, .int .i64 1, .int .u8 7, .int .i64 5, .int .i64 0, .int .i64 0, .int .u8 0] 48)) = W at *
  have hk := holds_at hA 3 rfl
  have r0 := cellAt hk 0 _ rfl
  have r1 := cellAt hk 1 _ rfl
  have r2 := cellAt hk 2 _ rfl
  have r3 := cellAt hk 3 _ rfl
  have z := ltHeap hk
  refine bodyPost_ret (v := .agg #[.slice (some ⟨w.heap.size + 1, 0, none⟩) 2 2, .slice (some ⟨w.heap.size + 1 + 1, 0, none⟩) 1 1, .int .i64 2, .slice (some ⟨w.heap.size + 1 + 1 + 1, 0, none⟩) 5 5]) (by simp [results, Tryd.results23, go_sem, r0, r1, r2, r3, z]) rfl ⟨_, _, _, rfl, ⟨rfl, rfl, rfl, by decide, by decide, by decide, Nat.le_refl _, Nat.le_refl _, Nat.le_refl _, fun e => (by cases e), fun e => (by cases e), fun e => (by cases e), ?_, ?_, ?_⟩, hB⟩
  · exact rowI_list9 (holds_at hA 2 rfl) fun j n hj => by
      match j, hj with
      | 0, hj => cases hj; rfl
      | 1, hj => cases hj; rfl
      | j + 2, hj => cases hj
  · exact rowI_list9 (holds_at hA 1 rfl) fun j n hj => by
      match j, hj with
      | 0, hj => cases hj; rfl
      | j + 1, hj => cases hj
  · exact stpW_cells (o := 0) (holds_at hA 0 rfl) fun j hj => by rw [Nat.zero_add, ← List.getElem?_toArray]; rfl
def textC : ByteArray := { data := ([105, 110, 32, 50, 32, 53, 59, 32, 111, 117, 116, 32, 48, 59, 32, 114, 101, 103, 115, 32, 50, 59, 32, 108, 111, 97, 100, 32, 48, 32, 48, 59, 32, 108, 111, 97].append [100, 32, 49, 32, 49, 59, 32, 109, 117, 108, 32, 48, 32, 51, 59, 32, 97, 100, 100, 32, 48, 32, 55, 32, 49, 59, 32, 115, 116, 111, 114, 101, 32, 48, 32, 48]).toArray }
theorem textC_list : textC.toList = [105, 110, 32, 50, 32, 53, 59, 32, 111, 117, 116, 32, 48, 59, 32, 114, 101, 103, 115, 32, 50, 59, 32, 108, 111, 97, 100, 32, 48, 32, 48, 59, 32, 108, 111, 97, 100, 32, 49, 32, 49, 59, 32, 109, 117, 108, 32, 48, 32, 51, 59, 32, 97, 100, 100, 32, 48, 32, 55, 32, 49, 59, 32, 115, 116, 111, 114, 101, 32, 48, 32, 48] := by
  rw [show textC = strB [105, 110, 32, 50, 32, 53, 59, 32, 111, 117, 116, 32, 48, 59, 32, 114, 101, 103, 115, 32, 50, 59, 32, 108, 111, 97, 100, 32, 48, 32, 48, 59, 32, 108, 111, 97, 100, 32, 49, 32, 49, 59, 32, 109, 117, 108, 32, 48, 32, 51, 59, 32, 97, 100, 100, 32, 48, 32, 55, 32, 49, 59, 32, 115, 116, 111, 114, 101, 32, 48, 32, 48] from rfl, strB_list]
set_option maxHeartbeats 4000000 in
theorem alive9_ok (w : World) (s : Addr) (hE : EnvP w s) : Calls Tryd.prog 7 #[] w fun e w' => e = .returned (.bool true) ∧ Below w.heap.size w w' := by
  have HE : Hid (EnvP w s) := hE
  clear hE
  go_enter Tryd.func7, Tryd.ntmps7
  go_wp2_with fail
  refine Calls.mono (small9_F _) ?_
  rintro e w1 ⟨ia, oa, sa, rfl, hp1, hb1⟩
  have HB1 : Hid (Below w.heap.size w w1) := hb1
  have HP1 : Hid _ := hp1
  clear hp1 hb1
  go_wp2_with fail
  refine Calls.mono (meaning_ok ia oa sa 2 2 1 1 5 5 2 [2, 5] [0] smallS _ s HP1.out (cell_later HB1.out HE.out.err) small_in) ?_
  rintro e w2 ⟨g, m, rfl, hm, hg, hh, hb2⟩
  obtain rfl : m = 2 := hm
  have HB2 : Hid (Below w.heap.size w w2) := HB1.out.trans (hb2.mono HB1.out.size)
  have HG2 : Hid _ := hh
  have HKM : Hid _ := heap_alloc_last w2 (.cells #[.int .i64 1, .int .i64 2, .slice (some ⟨g, 0, none⟩) 2 2] 33)
  have HG3 : Hid _ := heap_later hh ((Below.refl _ w2).alloc (Nat.le_refl _) (.cells #[.int .i64 1, .int .i64 2, .slice (some ⟨g, 0, none⟩) 2 2] 33))
  have HB3 : Hid (Below w.heap.size w (w2.alloc (.cells #[.int .i64 1, .int .i64 2, .slice (some ⟨g, 0, none⟩) 2 2] 33))) := HB2.out.alloc HB2.out.size _
  clear hg hh hb2 HP1
  go_wp2_with fail
  refine Calls.mono (small9_F _) ?_
  rintro e w4 ⟨ia4, oa4, sa4, rfl, hp4, hb4⟩
  have HB4 : Hid (Below w.heap.size w w4) := HB3.out.trans (hb4.mono HB3.out.size)
  have HP4 : Hid _ := hp4
  have HKM4 : Hid _ := heap_later HKM.out hb4
  have HG4 : Hid _ := heap_later HG3.out hb4
  clear hp4 hb4
  go_wp2_with fail
  refine Calls.mono (text_ok ia4 oa4 sa4 2 2 1 1 5 5 2 [2, 5] [0] smallS _ s HP4.out (HE.out.below HB4.out) small_in) ?_
  rw [show strB (textP [2, 5] [0] ((2 : Nat) : Int) smallS) = textC from (congrArg strB small_text)]
  rintro e w5 ⟨rfl, hb5⟩
  have HB5 : Hid (Below w.heap.size w w5) := HB4.out.trans (hb5.mono HB4.out.size)
  have hk5 := heap_later HKM4.out hb5
  have hg5 := heap_later HG4.out hb5
  have m0 := cellAt hk5 0 _ rfl
  have m2 := cellAt hk5 2 _ rfl
  have hcv := conv8 (la := 2) (ca := 2) (xs := [3, 7]) rfl (row8_own (by rw [small_mean] at hg5; exact hg5))
  rw [show str8 [3, 7] = { data := #[3, 7] } by decide +kernel] at hcv
  have e1 : ((ByteArray.mk #[3, 7]).toList == (ByteArray.mk #[3, 7]).toList) = true := by decide +kernel
  have z5 := ltHeap hk5
  clear hb5 hk5 hg5
  go_wp2
  go_ret
  exact ⟨congrArg (fun b => Ending.returned (Value.bool b)) (beq_iff_eq.2 textC_list), HB5.out⟩
end Go.Proofs.YtbjjmlebpohmcaaDoor

/- What the document's own Same answers, of two programs. -/
namespace Go.Proofs.YtbjjmlebpohmcaaDoor
open Go.RowKit Gf
set_option linter.unusedVariables false
set_option maxRecDepth 20000
set_option linter.unusedSimpArgs false
theorem take_ne {α : Type} {xs ys : List α} {j : Nat} (hx : j < xs.length) (hy : j < ys.length) (h : xs[j] ≠ ys[j]) : xs ≠ ys := fun e => by subst e; exact h rfl
theorem take_snoc9 {α : Type} {xs ys : List α} {j : Nat} (hx : j < xs.length) (hy : j < ys.length) (h : xs[j] = ys[j]) (ht : xs.take j = ys.take j) : xs.take (j + 1) = ys.take (j + 1) := by
  rw [List.take_add_one, List.take_add_one, List.getElem?_eq_getElem hx, List.getElem?_eq_getElem hy, h, ht]
set_option maxRecDepth 100000 in
set_option maxHeartbeats 16000000 in
theorem sameP_F (ia oa sa ia2 oa2 sa2 : Option Addr) (il ic ol oc sl sc il2 ic2 ol2 oc2 sl2 sc2 : Nat) (ins outs ins2 outs2 : List Int) (rg rg2 : Int) (ss ss2 : List Stp) (w : World)
    (hil : il = ins.length) (hol : ol = outs.length) (hsl : sl = ss.length) (hil2 : il2 = ins2.length) (hol2 : ol2 = outs2.length) (hsl2 : sl2 = ss2.length)
    (hi9 : il ≤ 140737488355328) (ho9 : ol ≤ 140737488355328) (hs9 : sl ≤ 140737488355328)
    (hI : RowI w ia ins) (hO : RowI w oa outs) (hS : StpW w sa ss) (hI2 : RowI w ia2 ins2) (hO2 : RowI w oa2 outs2) (hS2 : StpW w sa2 ss2) :
    Calls Tryd.prog 14 #[.agg #[.slice ia il ic, .slice oa ol oc, .int .i64 rg, .slice sa sl sc], .agg #[.slice ia2 il2 ic2, .slice oa2 ol2 oc2, .int .i64 rg2, .slice sa2 sl2 sc2]] w fun e w' =>
      e = .returned (.bool (decide (ins = ins2 ∧ outs = outs2 ∧ rg = rg2 ∧ ss = ss2))) ∧ Below w.heap.size w w' := by
  obtain ⟨d, hd⟩ : ∃ d, d = decide (ins = ins2 ∧ outs = outs2 ∧ rg = rg2 ∧ ss = ss2) := ⟨_, rfl⟩
  have HY : Hid ((ins = ins2 ∧ outs = outs2 ∧ rg = rg2 ∧ ss = ss2) → d = true) := fun h => hd.trans (decide_eq_true h)
  have HN : Hid (¬ (ins = ins2 ∧ outs = outs2 ∧ rg = rg2 ∧ ss = ss2) → d = false) := fun h => hd.trans (decide_eq_false h)
  rw [← hd]
  clear hd
  have HIL : Hid (il = ins.length) := hil
  have HOL : Hid (ol = outs.length) := hol
  have HSL : Hid (sl = ss.length) := hsl
  have HIL2 : Hid (il2 = ins2.length) := hil2
  have HOL2 : Hid (ol2 = outs2.length) := hol2
  have HSL2 : Hid (sl2 = ss2.length) := hsl2
  have HB0 : Hid (Below w.heap.size w ((w.alloc (.cells #[.slice ia il ic, .slice oa ol oc, .int .i64 rg, .slice sa sl sc] 25)).alloc (.cells #[.slice ia2 il2 ic2, .slice oa2 ol2 oc2, .int .i64 rg2, .slice sa2 sl2 sc2] 25))) := ((Below.refl _ w).alloc (Nat.le_refl _) _).alloc (by simp) _
  have HI : Hid (RowI w ia ins) := hI
  have HO : Hid (RowI w oa outs) := hO
  have HS : Hid (StpW w sa ss) := hS
  have HI2 : Hid (RowI w ia2 ins2) := hI2
  have HO2 : Hid (RowI w oa2 outs2) := hO2
  have HS2 : Hid (StpW w sa2 ss2) := hS2
  have HA0 : Hid (Holds ((w.alloc (.cells #[.slice ia il ic, .slice oa ol oc, .int .i64 rg, .slice sa sl sc] 25)).alloc (.cells #[.slice ia2 il2 ic2, .slice oa2 ol2 oc2, .int .i64 rg2, .slice sa2 sl2 sc2] 25)) [(w.heap.size + 1, .cells #[.slice ia2 il2 ic2, .slice oa2 ol2 oc2, .int .i64 rg2, .slice sa2 sl2 sc2] 25), (w.heap.size, .cells #[.slice ia il ic, .slice oa ol oc, .int .i64 rg, .slice sa sl sc] 25)]) := by
    have h := holds_new (holds_new (holds_nil w) #[.slice ia il ic, .slice oa ol oc, .int .i64 rg, .slice sa sl sc] 25) #[.slice ia2 il2 ic2, .slice oa2 ol2 oc2, .int .i64 rg2, .slice sa2 sl2 sc2] 25
    simp only [World.size_alloc] at h
    exact h
  clear hil hol hsl hil2 hol2 hsl2 hI hO hS hI2 hO2 hS2
  go_enter Tryd.func14, Tryd.ntmps14
  by_cases n1 : il = il2
  rotate_left
  · have HF : Hid (d = false) := HN.out (fun h => n1 (by rw [HIL.out, HIL2.out, h.1]))
    have z1 : ((il : Int) != il2) = true := by rw [bne_iff_ne]; omega
    clear n1
    go_wp2
    go_ret
    exact ⟨by rw [HF.out]; rfl, HB0.out⟩
  subst n1
  by_cases n2 : ol = ol2
  rotate_left
  · have HF : Hid (d = false) := HN.out (fun h => n2 (by rw [HOL.out, HOL2.out, h.2.1]))
    have z1 : ((ol : Int) != ol2) = true := by rw [bne_iff_ne]; omega
    clear n2
    go_wp2
    go_ret
    exact ⟨by rw [HF.out]; rfl, HB0.out⟩
  subst n2
  by_cases n3 : rg = rg2
  rotate_left
  · have HF : Hid (d = false) := HN.out (fun h => n3 h.2.2.1)
    have z1 : (rg != rg2) = true := by rw [bne_iff_ne]; exact n3
    clear n3
    go_wp2
    go_ret
    exact ⟨by rw [HF.out]; rfl, HB0.out⟩
  subst n3
  by_cases n4 : sl = sl2
  rotate_left
  · have HF : Hid (d = false) := HN.out (fun h => n4 (by rw [HSL.out, HSL2.out, h.2.2.2]))
    have z1 : ((sl : Int) != sl2) = true := by rw [bne_iff_ne]; omega
    clear n4
    go_wp2
    go_ret
    exact ⟨by rw [HF.out]; rfl, HB0.out⟩
  subst n4
  go_wp2
  go_loopw [43] (fun i wr => ∃ j : Nat, j ≤ il ∧ i = .int .i64 j ∧ wr.heap = ((w.alloc (.cells #[.slice ia il ic, .slice oa ol oc, .int .i64 rg, .slice sa sl sc] 25)).alloc (.cells #[.slice ia2 il ic2, .slice oa2 ol oc2, .int .i64 rg, .slice sa2 sl sc2] 25)).heap ∧ Below w.heap.size w wr ∧ ins.take j = ins2.take j) (fun i _ => il - (intOf i).toNat)
  case atStart => exact ⟨0, by omega, rfl, rfl, HB0.out, rfl⟩
  case round =>
    obtain ⟨j, hj, rfl, hwr, hb, ht⟩ := hrel
    have HWR : Hid _ := hwr
    have HB : Hid (Below w.heap.size w wr) := hb
    have HT : Hid (ins.take j = ins2.take j) := ht
    have HH : Hid (Holds wr [(w.heap.size + 1, .cells #[.slice ia2 il ic2, .slice oa2 ol oc2, .int .i64 rg, .slice sa2 sl sc2] 25), (w.heap.size, .cells #[.slice ia il ic, .slice oa ol oc, .int .i64 rg, .slice sa sl sc] 25)]) := fun i p h => by rw [hwr]; exact HA0.out i p h
    clear hwr hb ht
    by_cases hlt : j < il
    · have h1 : j < ins.length := by rw [← HIL.out]; exact hlt
      have h2 : j < ins2.length := by rw [← HIL2.out]; exact hlt
      obtain ⟨b, off, rfl, _, hc⟩ := rowI_cell (rowI_below HI.out HB.out) h1
      obtain ⟨b2, off2, rfl, _, hc2⟩ := rowI_cell (rowI_below HI2.out HB.out) h2
      have c1 := hc j h1
      have c2 := hc2 j h2
      rw [show ins.getD j 0 = ins[j] by simp [List.getD, h1]] at c1
      rw [show ins2.getD j 0 = ins2[j] by simp [List.getD, h2]] at c2
      obtain ⟨x, hx⟩ : ∃ x, ins[j] = x := ⟨_, rfl⟩
      obtain ⟨y, hy⟩ : ∃ y, ins2[j] = y := ⟨_, rfl⟩
      rw [hx] at c1
      rw [hy] at c2
      have k1 : wr.cell? ⟨w.heap.size, 0, none⟩ = some (.slice (some ⟨b, off, none⟩) il ic) := cellAt (holds_at HH.out 1 rfl) 0 _ rfl
      have k2 : wr.cell? ⟨w.heap.size + 1, 0, none⟩ = some (.slice (some ⟨b2, off2, none⟩) il ic2) := cellAt (holds_at HH.out 0 rfl) 0 _ rfl
      by_cases e : x = y
      · subst e
        have HT2 : Hid (ins.take (j + 1) = ins2.take (j + 1)) := take_snoc9 h1 h2 (hx.trans hy.symm) HT.out
        clear hc hc2 hx hy h1 h2
        go_wp2
        go_region
        go_wp2
        exact ⟨⟨j + 1, by omega, by go_num, by first | exact HWR.out, by first | exact HB.out | exact HB.out.drew, HT2.out⟩, by simp [intOf]; omega⟩
      · have HF : Hid (d = false) := HN.out (fun h => take_ne h1 h2 (by rw [hx, hy]; exact e) h.1)
        have z1 : (x != y) = true := by rw [bne_iff_ne]; exact e
        clear hc hc2 hx hy h1 h2 e
        go_wp2
        go_region
        go_wp2
        go_ret
        exact ⟨by rw [HF.out]; rfl, by first | exact HB.out | exact HB.out.drew⟩
    · obtain rfl : il = j := by omega
      have HEI : Hid (ins = ins2) := by
        have h := HT.out
        rwa [List.take_of_length_le (by rw [← HIL.out]; exact Nat.le_refl _), List.take_of_length_le (by rw [← HIL2.out]; exact Nat.le_refl _)] at h
      have k1 : wr.cell? ⟨w.heap.size, 1, none⟩ = some (.slice oa ol oc) := cellAt (holds_at HH.out 1 rfl) 1 _ rfl
      clear hlt HT
      go_wp2
      clear k1
      obtain ⟨wo, hwo⟩ : ∃ wo, wo = wr := ⟨_, rfl⟩
      rw [← hwo] at HWR HB ⊢
      clear hwo HH
      go_loopw [61] (fun i wr => ∃ j : Nat, j ≤ ol ∧ i = .int .i64 j ∧ wr.heap = ((w.alloc (.cells #[.slice ia il ic, .slice oa ol oc, .int .i64 rg, .slice sa sl sc] 25)).alloc (.cells #[.slice ia2 il ic2, .slice oa2 ol oc2, .int .i64 rg, .slice sa2 sl sc2] 25)).heap ∧ Below w.heap.size w wr ∧ outs.take j = outs2.take j) (fun i _ => ol - (intOf i).toNat)
      case atStart => exact ⟨0, by omega, rfl, HWR.out, HB.out, rfl⟩
      case round =>
        obtain ⟨j, hj, rfl, hwr, hb, ht⟩ := hrel
        have HWR : Hid _ := hwr
        have HB : Hid (Below w.heap.size w wr) := hb
        have HT : Hid (outs.take j = outs2.take j) := ht
        have HH : Hid (Holds wr [(w.heap.size + 1, .cells #[.slice ia2 il ic2, .slice oa2 ol oc2, .int .i64 rg, .slice sa2 sl sc2] 25), (w.heap.size, .cells #[.slice ia il ic, .slice oa ol oc, .int .i64 rg, .slice sa sl sc] 25)]) := fun i p h => by rw [hwr]; exact HA0.out i p h
        clear hwr hb ht
        by_cases hlt : j < ol
        · have h1 : j < outs.length := by rw [← HOL.out]; exact hlt
          have h2 : j < outs2.length := by rw [← HOL2.out]; exact hlt
          obtain ⟨b, off, rfl, _, hc⟩ := rowI_cell (rowI_below HO.out HB.out) h1
          obtain ⟨b2, off2, rfl, _, hc2⟩ := rowI_cell (rowI_below HO2.out HB.out) h2
          have c1 := hc j h1
          have c2 := hc2 j h2
          rw [show outs.getD j 0 = outs[j] by simp [List.getD, h1]] at c1
          rw [show outs2.getD j 0 = outs2[j] by simp [List.getD, h2]] at c2
          obtain ⟨x, hx⟩ : ∃ x, outs[j] = x := ⟨_, rfl⟩
          obtain ⟨y, hy⟩ : ∃ y, outs2[j] = y := ⟨_, rfl⟩
          rw [hx] at c1
          rw [hy] at c2
          have k1 : wr.cell? ⟨w.heap.size, 1, none⟩ = some (.slice (some ⟨b, off, none⟩) ol oc) := cellAt (holds_at HH.out 1 rfl) 1 _ rfl
          have k2 : wr.cell? ⟨w.heap.size + 1, 1, none⟩ = some (.slice (some ⟨b2, off2, none⟩) ol oc2) := cellAt (holds_at HH.out 0 rfl) 1 _ rfl
          by_cases e : x = y
          · subst e
            have HT2 : Hid (outs.take (j + 1) = outs2.take (j + 1)) := take_snoc9 h1 h2 (hx.trans hy.symm) HT.out
            clear hc hc2 hx hy h1 h2
            go_wp2
            go_region
            go_wp2
            exact ⟨⟨j + 1, by omega, by go_num, by first | exact HWR.out, by first | exact HB.out | exact HB.out.drew, HT2.out⟩, by simp [intOf]; omega⟩
          · have HF : Hid (d = false) := HN.out (fun h => take_ne h1 h2 (by rw [hx, hy]; exact e) h.2.1)
            have z1 : (x != y) = true := by rw [bne_iff_ne]; exact e
            clear hc hc2 hx hy h1 h2 e
            go_wp2
            go_region
            go_wp2
            go_ret
            exact ⟨by rw [HF.out]; rfl, by first | exact HB.out | exact HB.out.drew⟩
        · obtain rfl : ol = j := by omega
          have HEO : Hid (outs = outs2) := by
            have h := HT.out
            rwa [List.take_of_length_le (by rw [← HOL.out]; exact Nat.le_refl _), List.take_of_length_le (by rw [← HOL2.out]; exact Nat.le_refl _)] at h
          have k1 : wr.cell? ⟨w.heap.size, 3, none⟩ = some (.slice sa sl sc) := cellAt (holds_at HH.out 1 rfl) 3 _ rfl
          clear hlt HT
          go_wp2
          clear k1
          obtain ⟨wp, hwp⟩ : ∃ wp, wp = wr := ⟨_, rfl⟩
          rw [← hwp] at HWR HB ⊢
          clear hwp HH
          go_loopw [79] (fun i wr => ∃ j : Nat, j ≤ sl ∧ i = .int .i64 j ∧ wr.heap = ((w.alloc (.cells #[.slice ia il ic, .slice oa ol oc, .int .i64 rg, .slice sa sl sc] 25)).alloc (.cells #[.slice ia2 il ic2, .slice oa2 ol oc2, .int .i64 rg, .slice sa2 sl sc2] 25)).heap ∧ Below w.heap.size w wr ∧ ss.take j = ss2.take j) (fun i _ => sl - (intOf i).toNat)
          case atStart => exact ⟨0, by omega, rfl, HWR.out, HB.out, rfl⟩
          case round =>
            obtain ⟨j, hj, rfl, hwr, hb, ht⟩ := hrel
            have HWR : Hid _ := hwr
            have HB : Hid (Below w.heap.size w wr) := hb
            have HT : Hid (ss.take j = ss2.take j) := ht
            have HH : Hid (Holds wr [(w.heap.size + 1, .cells #[.slice ia2 il ic2, .slice oa2 ol oc2, .int .i64 rg, .slice sa2 sl sc2] 25), (w.heap.size, .cells #[.slice ia il ic, .slice oa ol oc, .int .i64 rg, .slice sa sl sc] 25)]) := fun i p h => by rw [hwr]; exact HA0.out i p h
            clear hwr hb ht
            by_cases hlt : j < sl
            · have h1 : j < ss.length := by rw [← HSL.out]; exact hlt
              have h2 : j < ss2.length := by rw [← HSL2.out]; exact hlt
              obtain ⟨b, off, rfl, hc⟩ := stpW_get (stpW_below HS.out HB.out) h1
              obtain ⟨b2, off2, rfl, hc2⟩ := stpW_get (stpW_below HS2.out HB.out) h2
              obtain ⟨c0, c1, c2, c3⟩ := hc j h1
              obtain ⟨q0, q1, q2, q3⟩ := hc2 j h2
              obtain ⟨⟨xo, xd, xs, xc⟩, hx⟩ : ∃ x, ss[j] = x := ⟨_, rfl⟩
              obtain ⟨⟨yo, yd, ys, yc⟩, hy⟩ : ∃ y, ss2[j] = y := ⟨_, rfl⟩
              rw [hx] at c0 c1 c2 c3
              rw [hy] at q0 q1 q2 q3
              simp only at c0 c1 c2 c3 q0 q1 q2 q3
              have k1 : wr.cell? ⟨w.heap.size, 3, none⟩ = some (.slice (some ⟨b, off, none⟩) sl sc) := cellAt (holds_at HH.out 1 rfl) 3 _ rfl
              have k2 : wr.cell? ⟨w.heap.size + 1, 3, none⟩ = some (.slice (some ⟨b2, off2, none⟩) sl sc2) := cellAt (holds_at HH.out 0 rfl) 3 _ rfl
              by_cases e : (⟨xo, xd, xs, xc⟩ : Stp) = ⟨yo, yd, ys, yc⟩
              · obtain ⟨rfl, rfl, rfl, rfl⟩ := Stp.mk.inj e
                have HT2 : Hid (ss.take (j + 1) = ss2.take (j + 1)) := take_snoc9 h1 h2 (hx.trans hy.symm) HT.out
                clear hc hc2 hx hy h1 h2
                go_wp2
                go_region
                go_wp2
                exact ⟨⟨j + 1, by omega, by go_num, by first | exact HWR.out, by first | exact HB.out | exact HB.out.drew, HT2.out⟩, by simp [intOf]; omega⟩
              · have HF : Hid (d = false) := HN.out (fun h => take_ne h1 h2 (by rw [hx, hy]; exact e) h.2.2.2)
                have z1 : ¬ (xo = yo ∧ xd = yd ∧ xs = ys ∧ (xc.toNat : Int) = yc.toNat) := fun h => e (by
                  have h4 : xc = yc := UInt8.toNat_inj.1 (by omega)
                  rw [h.1, h.2.1, h.2.2.1, h4])
                have HF2 : Hid _ := HF.out
                clear hc hc2 hx hy h1 h2 e
                by_cases m0 : xo = yo
                rotate_left
                · clear z1
                  go_wp2
                  go_region
                  go_wp2
                  go_ret
                  exact ⟨by rw [HF.out]; rfl, by first | exact HB.out | exact HB.out.drew⟩
                by_cases m1 : xd = yd
                rotate_left
                · clear z1
                  go_wp2
                  go_region
                  go_wp2
                  go_ret
                  exact ⟨by rw [HF.out]; rfl, by first | exact HB.out | exact HB.out.drew⟩
                by_cases m2 : xs = ys
                rotate_left
                · clear z1
                  go_wp2
                  go_region
                  go_wp2
                  go_ret
                  exact ⟨by rw [HF.out]; rfl, by first | exact HB.out | exact HB.out.drew⟩
                have m3 : ¬ (xc.toNat : Int) = yc.toNat := fun h => z1 ⟨m0, m1, m2, h⟩
                clear z1
                go_wp2
                go_region
                go_wp2
                go_ret
                exact ⟨by rw [HF.out]; rfl, by first | exact HB.out | exact HB.out.drew⟩
            · obtain rfl : sl = j := by omega
              have HES : Hid (ss = ss2) := by
                have h := HT.out
                rwa [List.take_of_length_le (by rw [← HSL.out]; exact Nat.le_refl _), List.take_of_length_le (by rw [← HSL2.out]; exact Nat.le_refl _)] at h
              have HT9 : Hid (d = true) := HY.out ⟨HEI.out, HEO.out, by first | trivial | rfl, HES.out⟩
              clear hlt HT
              go_wp2
              go_ret
              exact ⟨by rw [HT9.out]; rfl, HB.out⟩
end Go.Proofs.YtbjjmlebpohmcaaDoor

/- The walk of the statement ProgTrims: it returns true of all programs. -/
namespace Go.Proofs.YtbjjmlebpohmcaaDoor
open Go.RowKit Gf
set_option linter.unusedVariables false
set_option maxRecDepth 20000
set_option linter.unusedSimpArgs false
theorem large_F (ia oa sa : Option Addr) (il ic ol oc sl sc : Nat) (rg : Int) (w : World) : Calls Tryd.prog 17 #[.agg #[.slice ia il ic, .slice oa ol oc, .int .i64 rg, .slice sa sl sc]] w fun e w' => e = .returned (.bool (decide (5000 < sl))) ∧ Below w.heap.size w w' := by
  have HB : Hid (Below w.heap.size w (w.alloc (.cells #[.slice ia il ic, .slice oa ol oc, .int .i64 rg, .slice sa sl sc] 25))) := (Below.refl _ w).alloc (Nat.le_refl _) _
  by_cases h : 5000 < sl
  · have E : Hid (decide (5000 < sl) = true) := decide_eq_true h
    go_enter Tryd.func17, Tryd.ntmps17
    go_wp2
    go_ret
    exact ⟨by rw [E.out]; show Ending.returned (Value.bool (decide ((5000 : Int) < (sl : Int)))) = _; rw [decide_eq_true (by have := of_decide_eq_true E.out; omega)], HB.out⟩
  · have E : Hid (decide (5000 < sl) = false) := decide_eq_false h
    go_enter Tryd.func17, Tryd.ntmps17
    go_wp2
    go_ret
    exact ⟨by rw [E.out]; show Ending.returned (Value.bool (decide ((5000 : Int) < (sl : Int)))) = _; rw [decide_eq_false (by have := of_decide_eq_false E.out; omega)], HB.out⟩
theorem PrgW.inForm {w : World} {ia oa sa : Option Addr} {il ic ol oc sl sc : Nat} {rg : Int} {ins outs : List Int} {ss : List Stp} (h : PrgW w ia oa sa il ic ol oc sl sc ins outs ss) :
    Calls Tryd.prog 15 #[.agg #[.slice ia il ic, .slice oa ol oc, .int .i64 rg, .slice sa sl sc]] w fun e w' => e = .returned (.bool (inFB ins outs rg ss)) ∧ Below w.heap.size w w' :=
  inForm_F ia oa sa il ic ol oc sl sc ins outs rg ss w h.eil h.eol h.esl h.i9 h.o9 h.s9 h.cil h.col h.I h.O h.S
set_option maxRecDepth 100000 in
set_option maxHeartbeats 16000000 in
theorem trims_all (ia oa sa : Option Addr) (il ic ol oc sl sc : Nat) (rg : Int) (ins outs : List Int) (ss : List Stp) (w : World) (s : Addr) (hE : EnvP w s) (hP : PrgW w ia oa sa il ic ol oc sl sc ins outs ss) :
    Calls Tryd.prog 4 #[.agg #[.slice ia il ic, .slice oa ol oc, .int .i64 rg, .slice sa sl sc]] w fun e w' => e = .returned (.bool true) ∧ Below w.heap.size w w' := by
  have HE : Hid (EnvP w s) := hE
  have HP : Hid _ := hP
  have hb0 : Below w.heap.size w (w.alloc (.cells #[.slice ia il ic, .slice oa ol oc, .int .i64 rg, .slice sa sl sc] 25)) := (Below.refl _ w).alloc (Nat.le_refl _) _
  have HB0 : Hid _ := hb0
  have HK0 : Hid _ := heap_alloc_last w (.cells #[.slice ia il ic, .slice oa ol oc, .int .i64 rg, .slice sa sl sc] 25)
  clear hE hP
  go_enter Tryd.func4, Tryd.ntmps4
  go_wp2_with fail
  refine Calls.mono (alive9_ok _ s (HE.out.below HB0.out)) ?_
  rintro e w1 ⟨rfl, hb1⟩
  have HB1 : Hid (Below w.heap.size w w1) := HB0.out.trans (hb1.mono HB0.out.size)
  have HK1 : Hid _ := heap_later HK0.out hb1
  have k0 := cellAt HK1.out 0 _ rfl
  have k1 := cellAt HK1.out 1 _ rfl
  have k2 := cellAt HK1.out 2 _ rfl
  have k3 := cellAt HK1.out 3 _ rfl
  clear hb0 hb1
  go_wp2_with fail
  refine Calls.mono ((HP.out.below HB1.out).inForm) ?_
  by_cases hF : InF ins outs rg ss
  rotate_left
  · rw [inFB_no hF]
    rintro e w2 ⟨rfl, hb2⟩
    have HB2 : Hid (Below w.heap.size w w2) := HB1.out.trans (hb2.mono HB1.out.size)
    clear hb2 hF k0 k1 k2 k3
    go_wp2
    go_ret
    exact ⟨rfl, HB2.out⟩
  rw [inFB_yes hF]
  rintro e w2 ⟨rfl, hb2⟩
  obtain ⟨rg, rfl⟩ := Int.eq_ofNat_of_zero_le hF.2.2.1.1
  have HF : Hid (InF ins outs rg ss) := hF
  have HB2 : Hid (Below w.heap.size w w2) := HB1.out.trans (hb2.mono HB1.out.size)
  have HK2 : Hid _ := heap_later HK1.out hb2
  have hl9 : ¬ 5000 < sl := by rw [HP.out.esl]; have := hF.2.2.2.1; omega
  have HLG : Hid (decide (5000 < sl) = false) := decide_eq_false hl9
  have k0 := cellAt HK2.out 0 _ rfl
  have k1 := cellAt HK2.out 1 _ rfl
  have k2 := cellAt HK2.out 2 _ rfl
  have k3 := cellAt HK2.out 3 _ rfl
  clear hb2 hF hl9
  go_wp2_with fail
  refine Calls.mono (large_F ia oa sa il ic ol oc sl sc rg _) ?_
  rw [HLG.out]
  rintro e w3 ⟨rfl, hb3⟩
  have HB3 : Hid (Below w.heap.size w w3) := HB2.out.trans (hb3.mono HB2.out.size)
  have HK3 : Hid _ := heap_later HK2.out hb3
  have k0 := cellAt HK3.out 0 _ rfl
  have k1 := cellAt HK3.out 1 _ rfl
  have k2 := cellAt HK3.out 2 _ rfl
  have k3 := cellAt HK3.out 3 _ rfl
  clear hb3 HLG
  go_wp2_with fail
  refine Calls.mono (trim_ok ia oa sa il ic ol oc sl sc rg ins outs ss _ s (HP.out.below HB3.out) (HE.out.below HB3.out).err HF.out) ?_
  rintro e w4 ⟨a1, c1, a2, c2, a3, m, c3, B2, rfl, hp4, _, _, _, _, hb4⟩
  have HB4 : Hid (Below w.heap.size w w4) := HB3.out.trans (hb4.mono HB3.out.size)
  have HK4 : Hid _ := heap_later HK3.out hb4
  have HP4 : Hid (PrgW w4 a1 a2 a3 il c1 ol c2 m c3 ins outs (trimS ss)) := hp4
  obtain ⟨X, hX⟩ : ∃ X, X = w4.alloc (.cells #[.slice a1 il c1, .slice a2 ol c2, .int .i64 rg, .slice a3 m c3] 25) := ⟨_, rfl⟩
  have hbX : Below w4.heap.size w4 X := by rw [hX]; exact (Below.refl _ _).alloc (Nat.le_refl _) _
  have HBX : Hid (Below w.heap.size w X) := HB4.out.trans (hbX.mono HB4.out.size)
  have HPX : Hid _ := hp4.below hbX
  have HQ : Hid (X.heap[w4.heap.size]? = some (.cells #[.slice a1 il c1, .slice a2 ol c2, .int .i64 rg, .slice a3 m c3] 25 (0, 0))) := by show _ = _; rw [hX]; exact heap_alloc_last _ _
  have HKX : Hid _ := heap_later HK4.out hbX
  have HXE : Hid _ := hX
  clear hb4 hp4 hbX hX
  go_wp2_with fail
  rw [← HXE.out]
  have HFT : Hid (InF ins outs rg (trimS ss)) := trim_in HF.out
  refine Calls.mono (trim_ok a1 a2 a3 il c1 ol c2 m c3 rg ins outs (trimS ss) _ s HPX.out (HE.out.below HBX.out).err HFT.out) ?_
  rw [trim_trim]
  rintro e w5 ⟨b1, d1, b2, d2, b3, m5, d3, B5, rfl, hp5, _, _, _, _, hb5⟩
  clear HXE
  have HB5 : Hid (Below w.heap.size w w5) := HBX.out.trans (hb5.mono HBX.out.size)
  obtain ⟨Y, hY⟩ : ∃ Y, Y = w5.alloc (.cells #[.slice b1 il d1, .slice b2 ol d2, .int .i64 rg, .slice b3 m5 d3] 25) := ⟨_, rfl⟩
  have hbY : Below w5.heap.size w5 Y := by rw [hY]; exact (Below.refl _ _).alloc (Nat.le_refl _) _
  have HBY : Hid (Below w.heap.size w Y) := HB5.out.trans (hbY.mono HB5.out.size)
  have HPY : Hid _ := hp5.below hbY
  have HQ5 : Hid _ := heap_later (heap_later HQ.out hb5) hbY
  have HR5 : Hid (Y.heap[w5.heap.size]? = some (.cells #[.slice b1 il d1, .slice b2 ol d2, .int .i64 rg, .slice b3 m5 d3] 25 (0, 0))) := by show _ = _; rw [hY]; exact heap_alloc_last _ _
  have HKY : Hid _ := heap_later (heap_later HKX.out hb5) hbY
  have HPX5 : Hid _ := (HPX.out.below hb5).below hbY
  have HYE : Hid _ := hY
  have k0 := cellAt (heap_later HKX.out hb5) 0 _ rfl
  have k1 := cellAt (heap_later HKX.out hb5) 1 _ rfl
  have k2 := cellAt (heap_later HKX.out hb5) 2 _ rfl
  have k3 := cellAt (heap_later HKX.out hb5) 3 _ rfl
  have K0 := cellAt HKY.out 0 _ rfl
  have K1 := cellAt HKY.out 1 _ rfl
  have K2 := cellAt HKY.out 2 _ rfl
  have K3 := cellAt HKY.out 3 _ rfl
  rw [hY] at K0 K1 K2 K3
  clear hb5 hp5 hbY hY
  go_wp2_with fail
  rw [← HYE.out]
  refine Calls.mono (meaning_ok ia oa sa il ic ol oc sl sc rg ins outs ss _ s (HP.out.below HBY.out) (HE.out.below HBY.out).err HF.out) ?_
  rintro e w6 ⟨g6, m6, rfl, hm6, hg6, hh6, hb6⟩
  clear HYE K0 K1 K2 K3
  have HB6 : Hid (Below w.heap.size w w6) := HBY.out.trans (hb6.mono HBY.out.size)
  obtain ⟨Z, hZ⟩ : ∃ Z, Z = w6.alloc (.cells #[.int .i64 ol, .int .i64 il, .slice (some ⟨g6, 0, none⟩) m6 m6] 33) := ⟨_, rfl⟩
  have hbZ : Below w6.heap.size w6 Z := by rw [hZ]; exact (Below.refl _ _).alloc (Nat.le_refl _) _
  have HBZ : Hid (Below w.heap.size w Z) := HB6.out.trans (hbZ.mono HB6.out.size)
  have HQZ : Hid _ := heap_later (heap_later HQ5.out hb6) hbZ
  have HRZ : Hid _ := heap_later (heap_later HR5.out hb6) hbZ
  have HKZ : Hid _ := heap_later (heap_later HKY.out hb6) hbZ
  have HPXZ : Hid _ := (HPX5.out.below hb6).below hbZ
  have HPYZ : Hid _ := (HPY.out.below hb6).below hbZ
  have HMZ : Hid (Z.heap[w6.heap.size]? = some (.cells #[.int .i64 ol, .int .i64 il, .slice (some ⟨g6, 0, none⟩) m6 m6] 33 (0, 0))) := by show _ = _; rw [hZ]; exact heap_alloc_last _ _
  have HM6 : Hid (m6 = ol * il) := hm6
  have HG6 : Hid _ := heap_later hh6 hbZ
  have HZE : Hid _ := hZ
  have q0 := cellAt (heap_later HQ5.out hb6) 0 _ rfl
  have q1 := cellAt (heap_later HQ5.out hb6) 1 _ rfl
  have q2 := cellAt (heap_later HQ5.out hb6) 2 _ rfl
  have q3 := cellAt (heap_later HQ5.out hb6) 3 _ rfl
  have Q0 := cellAt HQZ.out 0 _ rfl
  have Q1 := cellAt HQZ.out 1 _ rfl
  have Q2 := cellAt HQZ.out 2 _ rfl
  have Q3 := cellAt HQZ.out 3 _ rfl
  rw [hZ] at Q0 Q1 Q2 Q3
  clear hb6 hm6 hg6 hh6 hbZ hZ
  go_wp2_with fail
  rw [← HZE.out]
  refine Calls.mono (meaning_ok a1 a2 a3 il c1 ol c2 m c3 rg ins outs (trimS ss) _ s HPXZ.out (HE.out.below HBZ.out).err HFT.out) ?_
  rw [trim_mean]
  rintro e w7 ⟨g7, m7, rfl, hm7, hg7, hh7, hb7⟩
  clear HZE Q0 Q1 Q2 Q3 q0 q1 q2 q3
  have HB7 : Hid (Below w.heap.size w w7) := HBZ.out.trans (hb7.mono HBZ.out.size)
  obtain ⟨V, hV⟩ : ∃ V, V = w7.alloc (.cells #[.int .i64 ol, .int .i64 il, .slice (some ⟨g7, 0, none⟩) m7 m7] 33) := ⟨_, rfl⟩
  have hbV : Below w7.heap.size w7 V := by rw [hV]; exact (Below.refl _ _).alloc (Nat.le_refl _) _
  have HBV : Hid (Below w.heap.size w V) := HB7.out.trans (hbV.mono HB7.out.size)
  have HQV : Hid _ := heap_later (heap_later HQZ.out hb7) hbV
  have HRV : Hid _ := heap_later (heap_later HRZ.out hb7) hbV
  have HKV : Hid _ := heap_later (heap_later HKZ.out hb7) hbV
  have HPXV : Hid _ := (HPXZ.out.below hb7).below hbV
  have HPYV : Hid _ := (HPYZ.out.below hb7).below hbV
  have HMV : Hid _ := heap_later (heap_later HMZ.out hb7) hbV
  have HNV : Hid (V.heap[w7.heap.size]? = some (.cells #[.int .i64 ol, .int .i64 il, .slice (some ⟨g7, 0, none⟩) m7 m7] 33 (0, 0))) := by show _ = _; rw [hV]; exact heap_alloc_last _ _
  have HM7 : Hid (m7 = ol * il) := hm7
  have HG6V : Hid _ := heap_later (heap_later HG6.out hb7) hbV
  have HG7V : Hid _ := heap_later hh7 hbV
  have HVE : Hid _ := hV
  have hle : m ≤ sl := by rw [HPX.out.esl, HP.out.esl]; exact trim_len ss
  have q0 := cellAt HQV.out 0 _ rfl
  have q1 := cellAt HQV.out 1 _ rfl
  have q2 := cellAt HQV.out 2 _ rfl
  have q3 := cellAt HQV.out 3 _ rfl
  have r0 := cellAt HRV.out 0 _ rfl
  have r1 := cellAt HRV.out 1 _ rfl
  have r2 := cellAt HRV.out 2 _ rfl
  have r3 := cellAt HRV.out 3 _ rfl
  have k3 := cellAt HKV.out 3 _ rfl
  rw [hV] at q0 q1 q2 q3 r0 r1 r2 r3 k3
  clear hb7 hm7 hg7 hh7 hbV hV
  go_wp2_with fail
  rw [← HVE.out]
  refine Calls.mono (sameP_F a1 a2 a3 b1 b2 b3 il c1 ol c2 m c3 il d1 ol d2 m5 d3 ins outs ins outs rg rg (trimS ss) (trimS ss) _ HPXV.out.eil HPXV.out.eol HPXV.out.esl HPYV.out.eil HPYV.out.eol HPYV.out.esl (by rw [HPXV.out.eil]; exact Nat.le_trans (goodH_len HF.out.1) (by decide)) (by rw [HPXV.out.eol]; exact Nat.le_trans (goodH_len HF.out.2.1) (by decide)) (by rw [HPXV.out.esl]; exact Nat.le_trans HFT.out.2.2.2.1 (by decide)) HPXV.out.I HPXV.out.O HPXV.out.S HPYV.out.I HPYV.out.O HPYV.out.S) ?_
  rw [decide_eq_true (show ins = ins ∧ outs = outs ∧ (rg : Int) = (rg : Int) ∧ trimS ss = trimS ss from ⟨rfl, rfl, rfl, rfl⟩)]
  rintro e w8 ⟨rfl, hb8⟩
  clear HVE q0 q1 q2 q3 r0 r1 r2 r3 k3
  have HB8 : Hid (Below w.heap.size w w8) := HBV.out.trans (hb8.mono HBV.out.size)
  have m0 := cellAt (heap_later HMV.out hb8) 0 _ rfl
  have m1 := cellAt (heap_later HMV.out hb8) 1 _ rfl
  have m2 := cellAt (heap_later HMV.out hb8) 2 _ rfl
  have n0 := cellAt (heap_later HNV.out hb8) 0 _ rfl
  have n1 := cellAt (heap_later HNV.out hb8) 1 _ rfl
  have n2 := cellAt (heap_later HNV.out hb8) 2 _ rfl
  have HSM : Hid _ := sameMatrix_F (ol : Int) (il : Int) (some ⟨g6, 0, none⟩) (some ⟨g7, 0, none⟩) m6 m6 m7 m7 (meanL il ol ss) (meanL il ol ss) w8 (by rw [HM6.out, meanL_len]) (by rw [HM7.out, meanL_len]) (row8_own (heap_later HG6V.out hb8)) (row8_own (heap_later HG7V.out hb8))
  clear hb8
  go_wp2_with fail
  refine Calls.mono HSM.out ?_
  rw [eqB_true]
  rintro e w9 ⟨rfl, hb9⟩
  have HB9 : Hid (Below w.heap.size w w9) := HB8.out.trans (hb9.mono HB8.out.size)
  clear hb9
  go_wp2
  go_ret
  exact ⟨rfl, HB9.out⟩
end Go.Proofs.YtbjjmlebpohmcaaDoor

/- The law ProgTrims holds: Trim changes no meaning, trims no further and makes nothing longer, of all programs; no condition but what the card ties. -/
namespace Go.Proofs.YtbjjmlebpohmcaaDoor.progTrims
open Go.ChangeShapes Go.WideShapes Go.ChangeAt Go.RowKit
open Go.ChangeMaps (open_string shut_string)
open Gf
set_option linter.unusedVariables false
theorem errs {W : World} (h : laidMetH Tryd.prog Rows.progTrimsRow.laid W) : ∃ es, ErrsAt W gsProg es :=
  errs_of_laid_drop 3 h (by kernel_rfl) (by kernel_rfl) (fun g hg => by
    have hall : (gsProg.all fun g => decide ((Tryd.prog.globals[g]?).map (·.type) = some 29)) = true := by kernel_rfl
    simpa using List.all_eq_true.1 hall g hg) (fun x hx => by
    simp only [Rows.progTrimsRow, List.drop, List.mem_cons, List.not_mem_nil, or_false] at hx
    rcases hx with rfl | rfl <;> exact ⟨_, rfl⟩)
set_option maxRecDepth 100000 in
theorem lifted (os : Os) (started : os.Started) (H : Type) (enc : TypeId × Value → H) :
    ReturnsInHanded {} Tryd.checked os 4 .any (fun w args => (Rows.progTrimsSpec.pre enc Tryd.prog Tryd.f4 Rows.progTrimsRow.domain false w args ∧ laidMetH Tryd.prog Rows.progTrimsRow.laid w) ∧ sizedMet enc Tryd.prog Tryd.f4 (OpenSpec.ofChange Rows.progTrimsSpec) false w args) (Rows.progTrimsSpec.post enc Tryd.prog Tryd.f4 false true false false) := by
  refine returnsInHanded_of_change_and (C := Tryd.checked) (X := fun w _ => laidMetH Tryd.prog Rows.progTrimsRow.laid w) (fun _ _ _ hh h => h.of_heap hh) own started (by kernel_rfl) Tryd.func4
    (ChangeSpec.witness_shaped (enc := enc) (C := Tryd.checked) (os := os) (X := fun w _ => laidMetH Tryd.prog Rows.progTrimsRow.laid w) false (World.laidAll Tryd.prog os Rows.progTrimsRow.laid) #[.agg #[.slice none 0 0, .slice none 0 0, .int .i64 0, .slice none 0 0]] 8 (World.laidAll_os _ _ _)
      (World.shaped_of_ZipB (by kernel_rfl) (by kernel_rfl)) (by kernel_rfl) (by kernel_rfl) (by kernel_rfl)
      (by rw [MakeChecks.laidMetH_plain _ _ _ (by kernel_rfl)]; exact laidMet_laidAll _ (by kernel_rfl) (by kernel_rfl))) ?_
  intro W base args ds gs before hval0 hW hcnd hsz0 hL _
  have hval : ∀ (j : Nat) t v, Tryd.f4.params[j]? = some t → args[j]? = some v → Value.okWide Tryd.prog W .any base t v := hval0
  have hsz : (DataW.weightsEach Tryd.prog (Tryd.f4.params.toList ++ Rows.progTrimsSpec.plain.varTypes Tryd.prog) (ds ++ gs)).all (· ≤ reachBytes) = true := hsz0
  have hW' := hW
  obtain ⟨p, q, hA0, hV, rfl, hfz, hnd⟩ := hW
  have hA : DataW.TrodAll enc Tryd.prog W 0 (fun _ => true) true Tryd.f4.params.toList args.toList ds p := hA0
  rw [Tryd.params4] at hA hval hsz
  obtain ⟨v0, vs0, d0, ds0, p0, q0, hargs, rfl, rfl, h0, r0⟩ := trodAll_cons hA
  obtain ⟨rfl, rfl, rfl⟩ := trodAll_nil r0
  obtain rfl : args = #[v0] := by cases args; simp_all
  obtain ⟨rfl, rfl⟩ := trodVars_none hV
  obtain ⟨es, hes⟩ := errs hL
  have k0 := h0
  have lt0 : ∀ x ∈ p0, x.block < W.heap.size := by obtain ⟨m, hm⟩ := k0; exact DataW.trod_lt m _ _ _ hm
  obtain ⟨iap, oap, sap, ilp, icp, olp, ocp, slp, scp, rgp, insp, outsp, ssp, rfl, wrp, pwp, bip, bop, bsp⟩ := openProg (j := 0) (hval 0 25 v0 rfl rfl) h0 hsz rfl rfl
  clear hA0 hval0
  refine (trims_all iap oap sap ilp icp olp ocp slp scp rgp insp outsp ssp W (ofProg es) (envP_of hes (tab_of_laid 2 hL (by kernel_rfl) (rest := [("tessera/api.ErrShape", Rows.laid_tessera_api_ErrShape), ("tessera/api.ErrProgram", Rows.laid_tessera_api_ErrProgram)]) rfl)) pwp).mono fun e W' ⟨he, bel⟩ => ?_
  subst he
  exact ⟨_, rfl, _, _, _, [], _, [], hW', trodAll_mk1 (shut_bool Tryd.underlying4 _), (trodAll_cons_mk (Below.trod laidOut (by kernel_rfl) (of_decide_eq_true (by kernel_rfl)) k0 bel lt0) trodAll_mk0), rfl, bel.frame _, fun h => by cases h⟩

theorem over : Rows.progTrimsRow.holds Tryd.pinned (OpenSpec.ofChange Rows.progTrimsSpec) :=
  OpenClaim.holds_of_wide 4 Tryd.f4 rfl rfl rfl rfl rfl rfl rfl ⟨rfl, rfl, rfl, rfl, rfl⟩ rfl rfl rfl rfl rfl (by kernel_rfl) Tryd.func4 (by kernel_rfl)
    (of_decide_eq_true (by kernel_rfl)) (by unfold Func.isWrapper; first | (rw [if_pos (by decide +kernel)]; kernel_rfl) | (rw [if_neg (by decide +kernel)]; exact ⟨rfl, rfl⟩))
    (fun os started H enc _ => lifted os started H enc)

theorem proved : Rows.ProgTrimsCardSaid :=
  Claim7.holds_tied_plain_at .later [] [.data, .data, .data, .sentinel, .sentinel] true (true, "0df71891f32188417a95b8e89912506cf88573aaa5f1618ba9f178b6740159b9") true over (fun _ h => by cases h) (by kernel_rfl) (fun _ h => by cases h) progTrims_row_tie rfl ⟨rfl, rfl⟩ (by kernel_rfl) rfl
    (fun f fn hf hfn => by
      obtain rfl : f = 4 := Option.some.inj ((show Tryd.prog.funcNamed "tessera/tesseralaw09.ProgTrims" = some 4 by kernel_rfl).symm.trans hf) |>.symm
      obtain rfl : fn = Tryd.f4 := (Option.some.inj (Tryd.func4.symm.trans hfn)).symm
      exact ⟨by kernel_rfl, fun j t ht => by
        rw [Tryd.params4] at ht
        have hm : t ∈ [25] := by simpa using Array.mem_of_getElem? ht
        have hall : ([25].all fun u => !Tryd.prog.wantsStandIn u) = true := by kernel_rfl
        exact (show Tryd.prog.wantsStandIn t = false by simpa using List.all_eq_true.1 hall t hm)⟩)
    (by kernel_rfl)
#print axioms proved
end Go.Proofs.YtbjjmlebpohmcaaDoor.progTrims
