/- The law WholeDecodes holds: any k shards of a stripe, in any order, give its bytes back, and numbers that are not legal are refused, at all numbers, lists of bytes and picks; no condition but what the card ties. -/
import Derived.Test.YtkoakingmnjdoabDoorGfDot
import Derived.ProofKit
import Derived.OpenShut
import Derived.SizedLaws
import Derived.Lib.SmallJoins
import Derived.Test.YtkoakingmnjdoabDoorMatO
import Derived.Test.YtkoakingmnjdoabDoorOwn
import Derived.Deep.Matrix
import Derived.Test.YtkoakingmnjdoabDoorHalfL
import Derived.Test.YtkoakingmnjdoabDoorJWholeDecodes1
import Derived.Lib.SlBytesConst
import Derived.Test.YtkoakingmnjdoabDoorNumBytes
import Derived.Test.YtkoakingmnjdoabDoorHalfW
import Derived.Test.YtkoakingmnjdoabDoorMatV
import Derived.Test.YtkoakingmnjdoabDoorGfLawsW2
import Derived.Test.YtkoakingmnjdoabDoorGf
import Derived.Test.YtkoakingmnjdoabDoorMatT
import Derived.Test.YtkoakingmnjdoabDoorMatAl
import Derived.Test.YtkoakingmnjdoabDoorHolds
import Derived.Test.YtkoakingmnjdoabDoorMatTake
import Derived.Test.YtkoakingmnjdoabDoorRegHeld
import Derived.Test.YtkoakingmnjdoabDoorNumApart
import Derived.Laws.OwnMore
import Derived.Test.YtkoakingmnjdoabDoorMatRow
import Derived.Test.YtkoakingmnjdoabDoorHalfM
import Derived.Test.YtkoakingmnjdoabDoorHalfF
import Derived.Lib.ItoaNum
import Derived.Lib.ItoaWalk
import Derived.Deep.DeepCutAuto
import Derived.BigRegion
import Derived.Test.YtkoakingmnjdoabDoorMatS
import Derived.Test.YtkoakingmnjdoabDoorSolveF
import Derived.Test.YtkoakingmnjdoabDoorSolveI
import Derived.Test.YtkoakingmnjdoabDoorRows
import Derived.Test.YtkoakingmnjdoabDoorCards
import Derived.Test.YtkoakingmnjdoabDoorTie
import Derived.WalkKit
import Derived.ShutString
import Derived.ChangeOld
import Derived.Below
import Derived.Lay
import Derived.SevenTiedAt
import Derived.Stop.Joined
/- How a list of bytes that came in is read: facts for the frames of the laws; nothing of the program is proved here. -/
namespace Go.Proofs.YtkoakingmnjdoabDoor
open Go.ChangeShapes Go.WideShapes Go.ChangeAt Go.RowKit Gf
set_option maxRecDepth 20000
theorem own : ownKnob Tryd.prog.godebug = none := by kernel_rfl
theorem laidOut : laidOutB Tryd.prog = true := by kernel_rfl
theorem bytes8 : Tryd.prog.bytesOf 5 = 1 := by kernel_rfl
theorem getD_get {α : Type} (l : List α) (j : Nat) (d : α) (h : j < l.length) : l.getD j d = l[j] := by simp [List.getD, h]
theorem open8_cells {H : Type} {enc : TypeId × Value → H} {W : World} {cs : List Value} {x : DataW H × List MemPlace} {fuel : Nat}
    (h : DataW.trod enc Tryd.prog W 0 (fun _ => true) true fuel 22 cs = some x) :
    ∃ a len cap xs, cs = [.slice a len cap] ∧ len = xs.length ∧ len ≤ cap ∧ Row8 W a xs ∧ (x.1 = .nil ∧ a = none ∧ cap = 0 ∨ ∃ es sp, x.1 = .slice es sp ∧ es.length + sp.length = cap) ∧ (a = none → cap = 0) := by
  rcases open_ints Tryd.underlying22 Tryd.underlying5 (by kernel_rfl) h with ⟨hcs, hx⟩ | ⟨ad, l, c, zs, hcs, _, hl, hm, hz, hx, hcell, hwz⟩
  · exact ⟨none, 0, 0, [], hcs, rfl, Nat.le_refl _, .inl rfl, .inl ⟨by rw [hx], rfl, rfl⟩, fun _ => rfl⟩
  · have hz' : zs.length = c := by simpa using hz
    refine ⟨some ad, l, c, (zs.take l).map toF, hcs, by simp; omega, hl, ?_, .inr ⟨_, _, by rw [hx], by simp [lits]; omega⟩, fun e => by cases e⟩
    by_cases h0 : l = 0
    · left; simp [h0]
    · right
      have hc := hcell 0 (by omega)
      obtain ⟨b, off, spot⟩ := ad
      have hspot : spot = none := by simpa [Addr.add] using World.cell?_spot hc
      subst hspot
      refine ⟨b, off, rfl, fun j hj => ?_⟩
      have hj' : j < l := by simp at hj; omega
      have hcj := hcell j (by omega)
      have hw := hwz (zs.getD j 0) (by
        rw [getD_get _ _ _ (by omega)]; exact List.getElem_mem _)
      have hb := bounds_u8 hw
      have e : ((at8 ((zs.take l).map toF) j).toNat : Int) = zs.getD j 0 := by
        unfold at8
        rw [getD_get _ _ _ (by simp; omega)]
        simp only [List.getElem_map, List.getElem_take]
        rw [getD_get _ _ _ (by omega)] at hb ⊢
        exact val_toF hb.1 hb.2
      rw [e, ← hcj]
      by_cases hj0 : j = 0
      · subst hj0; rfl
      · simp [Addr.add, hj0]
theorem open8 {H : Type} {enc : TypeId × Value → H} {W : World} {v : Value} {d : DataW H} {p : List MemPlace} {base : Nat}
    (hv : Value.okWide Tryd.prog W .any base 22 v) (h : DataW.Trod enc Tryd.prog W 0 (fun _ => true) true 22 v d p) :
    ∃ a len cap xs, v = .slice a len cap ∧ len = xs.length ∧ len ≤ cap ∧ Row8 W a xs ∧ (d = .nil ∧ a = none ∧ cap = 0 ∨ ∃ es sp, d = .slice es sp ∧ es.length + sp.length = cap) ∧ (a = none → cap = 0) := by
  obtain ⟨fuel, hf⟩ := h
  obtain ⟨a, len, cap, xs, hcs, h1, h2, h3, h4, h5⟩ := open8_cells hf
  obtain ⟨a', len', cap', rfl⟩ := okWide_slice Tryd.underlying22 hv
  simp [Value.cells] at hcs
  obtain ⟨rfl, rfl, rfl⟩ := hcs
  exact ⟨_, _, _, xs, rfl, h1, h2, h3, h4, h5⟩
end Go.Proofs.YtkoakingmnjdoabDoor

/- How a matrix, and two numbers, come in: facts for the frames of the laws; nothing of the program is proved here. -/
namespace Go.Proofs.YtkoakingmnjdoabDoor
open Go.ChangeShapes Go.WideShapes Go.ChangeAt Go.RowKit Gf Go.Joins
set_option linter.unusedVariables false
set_option maxRecDepth 20000
theorem cellsMat : Tryd.prog.cellsOf 42 = 3 := by kernel_rfl
theorem cellsInt : Tryd.prog.cellsOf 3 = 1 := by kernel_rfl
/-- a list's datum, and its room -/
def Room2 {H : Type} (d : DataW H) (cap : Nat) : Prop := d = .nil ∧ cap = 0 ∨ ∃ es sp, d = .slice es sp ∧ es.length + sp.length = cap
theorem room2_le {H : Type} {d : DataW H} {cap : Nat} (h : Room2 d cap) (hw : ∀ n ∈ DataW.weights Tryd.prog 22 d, n ≤ reachBytes) : cap ≤ 140737488351232 := by
  rcases h with ⟨_, rfl⟩ | ⟨es, sp, rfl, rfl⟩
  · omega
  · have := hw ((es.length + sp.length) * Tryd.prog.bytesOf 5) (by simp [DataW.weights, Tryd.underlying22])
    rw [bytes8] at this
    simp only [reachBytes] at this
    omega
theorem openMat {H : Type} {enc : TypeId × Value → H} {W : World} {v : Value} {d : DataW H} {p : List MemPlace} {base : Nat} {ts : List TypeId} {ds : List (DataW H)} {j : Nat}
    (hv : Value.okWide Tryd.prog W .any base 42 v) (h : DataW.Trod enc Tryd.prog W 0 (fun _ => true) true 42 v d p)
    (hsz : (DataW.weightsEach Tryd.prog ts ds).all (· ≤ reachBytes) = true) (ht : ts[j]? = some 42) (hd : ds[j]? = some d) :
    ∃ (r c : Int) (a : Option Addr) (l cap : Nat) (xs : List F), v = .agg #[.int .i64 r, .int .i64 c, .slice a l cap] ∧ l = xs.length ∧ Row8 W a xs ∧ l ≤ cap ∧ cap ≤ 140737488351232 ∧ (a = none → cap = 0) ∧
      -9223372036854775808 ≤ r ∧ r ≤ 9223372036854775807 ∧ -9223372036854775808 ≤ c ∧ c ≤ 9223372036854775807 := by
  obtain ⟨v0, v1, v2, y0, y1, y2, n, rfl, rfl, _, e0, e1, e2⟩ := open_agg3 Tryd.underlying42 (by kernel_rfl) cellsMat hv h
  obtain ⟨r, s0, _, w0⟩ := DataW.trod_int Tryd.underlying3 e0
  obtain ⟨c, s1, _, w1⟩ := DataW.trod_int Tryd.underlying3 e1
  obtain ⟨a, la, ca, xs, s2, e, ka, ra, da, na⟩ := open8_cells e2
  simp only [List.cons.injEq, and_true] at s0 s1 s2
  subst s0 s1 s2
  have hw : ∀ n ∈ DataW.weights Tryd.prog 42 (.agg [y0.1, y1.1, y2.1]), n ≤ reachBytes := fun n hn => by
    simpa using List.all_eq_true.1 hsz _ (DataW.weights_mem_each ht hd n hn)
  simp only [DataW.weights, Tryd.underlying42] at hw
  have r2 : Room2 y2.1 ca := da.imp (fun h => ⟨h.1, h.2.2⟩) id
  refine ⟨r, c, a, la, ca, xs, rfl, e, ra, ka, room2_le r2 ?_, na, (bounds_i64 w0).1, (bounds_i64 w0).2, (bounds_i64 w1).1, (bounds_i64 w1).2⟩
  exact fun n hn => hw n (by simp [DataW.weightsEach, hn])
end Go.Proofs.YtkoakingmnjdoabDoor

/- How a list of lists of bytes, and a list of numbers, come in: facts for the frames of the laws; nothing of the program is proved here. -/
namespace Go.Proofs.YtkoakingmnjdoabDoor
open Go.ChangeShapes Go.WideShapes Go.ChangeAt Go.RowKit Gf Go.Joins
set_option linter.unusedVariables false
set_option maxRecDepth 20000
theorem addr_off {w : World} {ad : Addr} {v : Value} (h : w.cell? (ad.add 0) = some v) : ∃ b off, ad = ⟨b, off, none⟩ := by
  obtain ⟨b, off, spot⟩ := ad
  have hspot : spot = none := by simpa [Addr.add] using World.cell?_spot h
  subst hspot
  exact ⟨b, off, rfl⟩
theorem add_off (b off j : Nat) : (⟨b, off, none⟩ : Addr).add j = ⟨b, off + j, none⟩ := by unfold Addr.add; split <;> simp_all
theorem cellsSl : Tryd.prog.cellsOf 22 = 1 := by kernel_rfl
theorem cellsU8 : Tryd.prog.cellsOf 5 = 1 := by kernel_rfl
theorem openRows {H : Type} {enc : TypeId × Value → H} {W : World} {v : Value} {d : DataW H} {p : List MemPlace} {base : Nat}
    (hv : Value.okWide Tryd.prog W .any base 38 v) (h : DataW.Trod enc Tryd.prog W 0 (fun _ => true) true 38 v d p) :
    ∃ a l cap L, v = .slice a l cap ∧ l = List.length L ∧ Rows8 W a L ∧
      ∀ b off, a = some ⟨b, off, none⟩ → ∀ j n a' cap', W.cell? ⟨b, off + j, none⟩ = some (.slice a' n cap') → j < L.length → a' = none → cap' = 0 := by
  obtain ⟨fuel, hf⟩ := h
  obtain ⟨a0, l0, c0, rfl⟩ := okWide_slice Tryd.underlying38 hv
  rcases Deep.open_int_rows Tryd.underlying38 Tryd.underlying22 Tryd.underlying5 cellsSl cellsU8 hf with ⟨hcs, hx⟩ | ⟨ad, len, cap, A, L, C, Z, hcs, _, hl, hm, hx, hr⟩
  · simp [Value.cells] at hcs
    obtain ⟨rfl, rfl, rfl⟩ := hcs
    exact ⟨none, 0, 0, [], rfl, rfl, .inl rfl, fun b off e => by cases e⟩
  · simp [Value.cells] at hcs
    obtain ⟨rfl, rfl, rfl⟩ := hcs
    refine ⟨some ad, l0, c0, (List.range l0).map fun r => ((Z r).take (L r)).map toF, rfl, by simp, ?_, ?_⟩
    · by_cases h0 : l0 = 0
      · left; simp [h0]
      · right
        obtain ⟨b, off, rfl⟩ := addr_off (hr 0 (by omega)).1
        refine ⟨b, off, rfl, fun j xs hj => ?_⟩
        have hjl : j < l0 := by have := (List.getElem?_eq_some_iff.1 hj).1; simpa using this
        rw [List.getElem?_map, List.getElem?_range hjl] at hj
        obtain rfl := Option.some.inj hj
        obtain ⟨h1, h2, h3, h4, h5, h6, h7⟩ := hr j (by omega)
        rw [add_off] at h1
        have hlen : (((Z j).take (L j)).map toF).length = L j := by rw [List.length_map, List.length_take]; omega
        refine ⟨A j, C j, by rw [hlen]; exact h1, ?_⟩
        by_cases hL0 : L j = 0
        · left; simp [hL0]
        · right
          cases hA : A j with
          | none => have := h6 hA; omega
          | some ad' =>
            obtain ⟨_, h8⟩ := h7 ad' hA
            obtain ⟨b', off', rfl⟩ := addr_off (h8 0 (by omega))
            refine ⟨b', off', rfl, fun i hi => ?_⟩
            rw [hlen] at hi
            have hc := h8 i (by omega)
            rw [add_off] at hc
            rw [hc]
            have hb := bounds_u8 (h5 ((Z j).getD i 0) (by rw [getD_get _ _ _ (by omega)]; exact List.getElem_mem _))
            have e : ((at8 (((Z j).take (L j)).map toF) i).toNat : Int) = (Z j).getD i 0 := by
              unfold at8
              rw [getD_get _ _ _ (by rw [hlen]; exact hi)]
              simp only [List.getElem_map, List.getElem_take]
              rw [getD_get _ _ _ (by omega)] at hb ⊢
              exact val_toF hb.1 hb.2
            rw [e]
    · intro b off e j n a' cap' hc hj ha
      simp only [List.length_map, List.length_range] at hj
      obtain ⟨h1, h2, h3, h4, h5, h6, h7⟩ := hr j (by omega)
      obtain rfl := Option.some.inj e
      rw [add_off, hc] at h1
      simp only [Option.some.injEq, Value.slice.injEq] at h1
      obtain ⟨e1, _, e3⟩ := h1
      rw [e3]; exact h6 (by rw [← e1]; exact ha)
theorem bytesInt : Tryd.prog.bytesOf 3 = 8 := by kernel_rfl
theorem openInts {H : Type} {enc : TypeId × Value → H} {W : World} {v : Value} {d : DataW H} {p : List MemPlace} {base : Nat} {ts : List TypeId} {ds : List (DataW H)} {j : Nat}
    (hv : Value.okWide Tryd.prog W .any base 23 v) (h : DataW.Trod enc Tryd.prog W 0 (fun _ => true) true 23 v d p)
    (hsz : (DataW.weightsEach Tryd.prog ts ds).all (· ≤ reachBytes) = true) (ht : ts[j]? = some 23) (hd : ds[j]? = some d) :
    ∃ a l cap ns, v = .slice a l cap ∧ l = List.length ns ∧ RowI W a ns ∧ l ≤ cap ∧ cap ≤ 17592186043904 ∧ (a = none → cap = 0) ∧ ∀ n ∈ ns, -9223372036854775808 ≤ n ∧ n ≤ 9223372036854775807 := by
  obtain ⟨fuel, hf⟩ := h
  obtain ⟨a0, l0, c0, rfl⟩ := okWide_slice Tryd.underlying23 hv
  rcases open_ints Tryd.underlying23 Tryd.underlying3 cellsInt hf with ⟨hcs, hx⟩ | ⟨ad, l, c, zs, hcs, _, hl, hm, hz, hx, hcell, hwz⟩
  · simp [Value.cells] at hcs
    obtain ⟨rfl, rfl, rfl⟩ := hcs
    exact ⟨none, 0, 0, [], rfl, rfl, .inl rfl, Nat.le_refl _, by omega, fun _ => rfl, fun n hn => by cases hn⟩
  · simp [Value.cells] at hcs
    obtain ⟨rfl, rfl, rfl⟩ := hcs
    have hz' : zs.length = c0 := by simpa using hz
    have hcap : c0 ≤ 17592186043904 := by
      have hw : ∀ n ∈ DataW.weights Tryd.prog 23 d, n ≤ reachBytes := fun n hn => by simpa using List.all_eq_true.1 hsz _ (DataW.weights_mem_each ht hd n hn)
      simp only [Prod.mk.injEq] at hx
      rw [hx.1] at hw
      have := hw (((lits .i64 (zs.take l0) : List (DataW H)).length + (lits .i64 (zs.drop l0) : List (DataW H)).length) * Tryd.prog.bytesOf 3) (by simp [DataW.weights, Tryd.underlying23])
      rw [bytesInt] at this
      simp only [reachBytes, lits, List.length_map, List.length_take, List.length_drop] at this
      omega
    refine ⟨some ad, l0, c0, zs.take l0, rfl, by rw [List.length_take]; omega, ?_, hl, hcap, (fun e => by cases e), fun n hn => bounds_i64 (hwz n (List.mem_of_mem_take hn))⟩
    by_cases h0 : l0 = 0
    · left; simp [h0]
    · right
      obtain ⟨b, off, rfl⟩ := addr_off (hcell 0 (by omega))
      refine ⟨b, off, rfl, fun j m hj => ?_⟩
      have hjl : j < l0 := by have := (List.getElem?_eq_some_iff.1 hj).1; rw [List.length_take] at this; omega
      have hc := hcell j (by omega)
      rw [add_off] at hc
      rw [hc]
      rw [List.getElem?_take_of_lt hjl] at hj
      rw [List.getD_eq_getElem?_getD, hj]; rfl
end Go.Proofs.YtkoakingmnjdoabDoor

/- How parameters, a number and two lists of numbers come in; facts for the frames of the laws; nothing of the program is proved here. -/
namespace Go.Proofs.YtkoakingmnjdoabDoor
open Go.ChangeShapes Go.WideShapes Go.ChangeAt Go.RowKit Gf Go.Joins
set_option linter.unusedVariables false
set_option maxRecDepth 20000
theorem array5 {α : Type} {cs : Array α} (h : cs.size = 5) : ∃ c0 c1 c2 c3 c4, cs = #[c0, c1, c2, c3, c4] := by
  obtain ⟨l⟩ := cs
  match l, h with
  | [c0, c1, c2, c3, c4], _ => exact ⟨c0, c1, c2, c3, c4, rfl⟩
theorem open_agg5 {H : Type} {enc : TypeId × Value → H} {P : Program} {w : World} {base : Nat} {spare : Nat → Bool} {held : Bool} {r : Reach} {b0 : Nat} {t : TypeId} {f0 f1 f2 f3 f4 : Field} {v : Value} {d : DataW H} {p : List MemPlace} (hs : P.underlying t = some (.struct #[f0, f1, f2, f3, f4])) (hone : Go.Deep.oneCellFields P #[f0, f1, f2, f3, f4] = true) (hC : P.cellsOf t = 5)
    (hv : Value.okWide P w r b0 t v) (h : DataW.Trod enc P w base spare held t v d p) :
    ∃ (v0 v1 v2 v3 v4 : Value) (y0 y1 y2 y3 y4 : DataW H × List MemPlace) (n : Nat), v = .agg #[v0, v1, v2, v3, v4] ∧ d = .agg [y0.1, y1.1, y2.1, y3.1, y4.1] ∧
      DataW.trod enc P w base spare held n f0.type [v0] = some y0 ∧ DataW.trod enc P w base spare held n f1.type [v1] = some y1 ∧ DataW.trod enc P w base spare held n f2.type [v2] = some y2 ∧ DataW.trod enc P w base spare held n f3.type [v3] = some y3 ∧ DataW.trod enc P w base spare held n f4.type [v4] = some y4 := by
  obtain ⟨cs, rfl, hsz⟩ := okWide_struct hs hv
  obtain ⟨c0, c1, c2, c3, c4, rfl⟩ := array5 (hsz.trans hC)
  obtain ⟨fuel, hf⟩ := h
  obtain ⟨xs, n, _, hx, hl, hlen, hel⟩ := DataW.trod_struct hs hf
  match xs, hlen with
  | [y0, y1, y2, y3, y4], _ =>
    obtain ⟨o0, k0⟩ := Go.Deep.hone_of hone 0 f0 rfl
    obtain ⟨o1, k1⟩ := Go.Deep.hone_of hone 1 f1 rfl
    obtain ⟨o2, k2⟩ := Go.Deep.hone_of hone 2 f2 rfl
    obtain ⟨o3, k3⟩ := Go.Deep.hone_of hone 3 f3 rfl
    obtain ⟨o4, k4⟩ := Go.Deep.hone_of hone 4 f4 rfl
    have h0 := hel 0 f0 rfl
    have h1 := hel 1 f1 rfl
    have h2 := hel 2 f2 rfl
    have h3 := hel 3 f3 rfl
    have h4 := hel 4 f4 rfl
    simp only [Prod.mk.injEq] at hx
    exact ⟨c0, c1, c2, c3, c4, y0, y1, y2, y3, y4, n, rfl, by rw [hx.1]; rfl, by simpa [Value.cells, o0, k0] using h0, by simpa [Value.cells, o1, k1] using h1, by simpa [Value.cells, o2, k2] using h2, by simpa [Value.cells, o3, k3] using h3, by simpa [Value.cells, o4, k4] using h4⟩
/-- a list of numbers, as one cell -/
theorem openInts_cell {H : Type} {enc : TypeId × Value → H} {W : World} {v : Value} {y : DataW H × List MemPlace} {n : Nat}
    (h : DataW.trod enc Tryd.prog W 0 (fun _ => true) true n 23 [v] = some y) (hw : ∀ n ∈ DataW.weights Tryd.prog 23 y.1, n ≤ reachBytes) :
    ∃ a l cap ns, v = .slice a l cap ∧ l = List.length ns ∧ RowI W a ns ∧ l ≤ cap ∧ cap ≤ 17592186043904 ∧ (a = none → cap = 0) ∧ ∀ n ∈ ns, -9223372036854775808 ≤ n ∧ n ≤ 9223372036854775807 := by
  rcases open_ints Tryd.underlying23 Tryd.underlying3 cellsInt h with ⟨hcs, hx⟩ | ⟨ad, l, c, zs, hcs, _, hl, hm, hz, hx, hcell, hwz⟩
  · simp at hcs
    subst hcs
    exact ⟨none, 0, 0, [], rfl, rfl, .inl rfl, Nat.le_refl _, by omega, fun _ => rfl, fun n hn => by cases hn⟩
  · simp at hcs
    subst hcs
    have hz' : zs.length = c := by simpa using hz
    have hcap : c ≤ 17592186043904 := by
      rw [hx] at hw
      have := hw (((lits .i64 (zs.take l) : List (DataW H)).length + (lits .i64 (zs.drop l) : List (DataW H)).length) * Tryd.prog.bytesOf 3) (by simp [DataW.weights, Tryd.underlying23])
      rw [bytesInt] at this
      simp only [reachBytes, lits, List.length_map, List.length_take, List.length_drop] at this
      omega
    refine ⟨some ad, l, c, zs.take l, rfl, by rw [List.length_take]; omega, ?_, hl, hcap, (fun e => by cases e), fun n hn => bounds_i64 (hwz n (List.mem_of_mem_take hn))⟩
    by_cases h0 : l = 0
    · left; simp [h0]
    · right
      obtain ⟨b, off, rfl⟩ := addr_off (hcell 0 (by omega))
      refine ⟨b, off, rfl, fun j m hj => ?_⟩
      have hjl : j < l := by have := (List.getElem?_eq_some_iff.1 hj).1; rw [List.length_take] at this; omega
      have hc := hcell j (by omega)
      rw [add_off] at hc
      rw [hc]
      rw [List.getElem?_take_of_lt hjl] at hj
      rw [List.getD_eq_getElem?_getD, hj]; rfl
end Go.Proofs.YtkoakingmnjdoabDoor

/- How parameters, two lists of bytes, a list of numbers and a number come in as one; facts for the frames of the laws; nothing of the program is proved here. -/
namespace Go.Proofs.YtkoakingmnjdoabDoor
open Go.ChangeShapes Go.WideShapes Go.ChangeAt Go.RowKit Gf Go.Joins
set_option linter.unusedVariables false
set_option maxRecDepth 20000
theorem array6 {α : Type} {cs : Array α} (h : cs.size = 6) : ∃ c0 c1 c2 c3 c4 c5, cs = #[c0, c1, c2, c3, c4, c5] := by
  obtain ⟨l⟩ := cs
  match l, h with
  | [c0, c1, c2, c3, c4, c5], _ => exact ⟨c0, c1, c2, c3, c4, c5, rfl⟩
theorem open_agg6 {H : Type} {enc : TypeId × Value → H} {P : Program} {w : World} {base : Nat} {spare : Nat → Bool} {held : Bool} {r : Reach} {b0 : Nat} {t : TypeId} {f0 f1 f2 f3 f4 f5 : Field} {v : Value} {d : DataW H} {p : List MemPlace} (hs : P.underlying t = some (.struct #[f0, f1, f2, f3, f4, f5])) (hone : Go.Deep.oneCellFields P #[f0, f1, f2, f3, f4, f5] = true) (hC : P.cellsOf t = 6)
    (hv : Value.okWide P w r b0 t v) (h : DataW.Trod enc P w base spare held t v d p) :
    ∃ (v0 v1 v2 v3 v4 v5 : Value) (y0 y1 y2 y3 y4 y5 : DataW H × List MemPlace) (n : Nat), v = .agg #[v0, v1, v2, v3, v4, v5] ∧ d = .agg [y0.1, y1.1, y2.1, y3.1, y4.1, y5.1] ∧
      DataW.trod enc P w base spare held n f0.type [v0] = some y0 ∧ DataW.trod enc P w base spare held n f1.type [v1] = some y1 ∧ DataW.trod enc P w base spare held n f2.type [v2] = some y2 ∧ DataW.trod enc P w base spare held n f3.type [v3] = some y3 ∧ DataW.trod enc P w base spare held n f4.type [v4] = some y4 ∧ DataW.trod enc P w base spare held n f5.type [v5] = some y5 := by
  obtain ⟨cs, rfl, hsz⟩ := okWide_struct hs hv
  obtain ⟨c0, c1, c2, c3, c4, c5, rfl⟩ := array6 (hsz.trans hC)
  obtain ⟨fuel, hf⟩ := h
  obtain ⟨xs, n, _, hx, hl, hlen, hel⟩ := DataW.trod_struct hs hf
  match xs, hlen with
  | [y0, y1, y2, y3, y4, y5], _ =>
    obtain ⟨o0, k0⟩ := Go.Deep.hone_of hone 0 f0 rfl
    obtain ⟨o1, k1⟩ := Go.Deep.hone_of hone 1 f1 rfl
    obtain ⟨o2, k2⟩ := Go.Deep.hone_of hone 2 f2 rfl
    obtain ⟨o3, k3⟩ := Go.Deep.hone_of hone 3 f3 rfl
    obtain ⟨o4, k4⟩ := Go.Deep.hone_of hone 4 f4 rfl
    obtain ⟨o5, k5⟩ := Go.Deep.hone_of hone 5 f5 rfl
    have h0 := hel 0 f0 rfl
    have h1 := hel 1 f1 rfl
    have h2 := hel 2 f2 rfl
    have h3 := hel 3 f3 rfl
    have h4 := hel 4 f4 rfl
    have h5 := hel 5 f5 rfl
    simp only [Prod.mk.injEq] at hx
    exact ⟨c0, c1, c2, c3, c4, c5, y0, y1, y2, y3, y4, y5, n, rfl, by rw [hx.1]; rfl, by simpa [Value.cells, o0, k0] using h0, by simpa [Value.cells, o1, k1] using h1, by simpa [Value.cells, o2, k2] using h2, by simpa [Value.cells, o3, k3] using h3, by simpa [Value.cells, o4, k4] using h4, by simpa [Value.cells, o5, k5] using h5⟩
end Go.Proofs.YtkoakingmnjdoabDoor

/- Plain algebra of stage 7: what a half is, byte by byte, of the data halves; no program is spoken of. -/
namespace Go.Proofs.YtkoakingmnjdoabDoor
open Go.RowKit Gf
set_option linter.unusedVariables false
set_option maxRecDepth 20000
/-- byte b of half h, of the data halves' bytes D -/
def imgF (k : Nat) (car : Nat → Nat) (D : Nat → Nat → F) (h b : Nat) : F := sumF (fun v => gm (halfF k car h v) (D v b)) (2 * k)
/-- half h -/
def imgL (k : Nat) (car : Nat → Nat) (H : Nat) (D : Nat → Nat → F) (h : Nat) : List F := rowF H (imgF k car D h)
theorem imgL_len (k : Nat) (car : Nat → Nat) (H : Nat) (D : Nat → Nat → F) (h : Nat) : (imgL k car H D h).length = H := rowF_len _ _
theorem img_congr {k H h : Nat} {car : Nat → Nat} {D E : Nat → Nat → F} (hD : ∀ v b, v < 2 * k → b < H → D v b = E v b) : imgL k car H D h = imgL k car H E h :=
  rowF_congr fun b hb => sumF_congr fun v hv => by rw [hD v b hv hb]
/-- a data half is itself -/
theorem img_data {k h : Nat} {car : Nat → Nat} {D : Nat → Nat → F} (hh : h < 2 * k) (b : Nat) : imgF k car D h b = D h b := by
  unfold imgF
  rw [sumF_pick _ h _ hh]
  · have : halfF k car h h = 1 := by
      simp only [halfF, if_true]
      rw [genF, if_pos (by omega), if_pos rfl]
    rw [this, F.one_mul]
  · intro v hv hne
    have : halfF k car h v = 0 := by
      simp only [halfF]
      by_cases hm : v % 2 = h % 2
      · rw [if_pos hm, genF, if_pos (by omega), if_neg (by omega)]
      · rw [if_neg hm, if_neg (by omega)]
    rw [this, F.zero_mul]
/-- what Image adds up for a parity's half: data shard j's part -/
def parS (k i p : Nat) (car : Nat → Nat) (D : Nat → Nat → F) (b j : Nat) : F := ga (gm (cyN (k + i) j) (D (2 * j + p) b)) (if p = 1 ∧ car j = i then D (2 * j) b else 0)
theorem img_par {k i p b : Nat} {car : Nat → Nat} {D : Nat → Nat → F} (hp : p < 2) : imgF k car D (2 * (k + i) + p) b = sumF (parS k i p car D b) k := by
  unfold imgF
  rw [sumF_two]
  refine sumF_congr fun j hj => ?_
  have hd : (2 * (k + i) + p) / 2 = k + i := by omega
  have hm : (2 * (k + i) + p) % 2 = p := by omega
  unfold parS
  rcases (show p = 0 ∨ p = 1 by omega) with rfl | rfl
  · have e1 : halfF k car (2 * (k + i) + 0) (2 * j) = cyN (k + i) j := by
      simp only [halfF]
      rw [if_pos (by omega), hd, show 2 * j / 2 = j by omega, genF, if_neg (by omega)]
    have e2 : halfF k car (2 * (k + i) + 0) (2 * j + 1) = 0 := by
      simp only [halfF]
      rw [if_neg (by omega), if_neg (by omega)]
    rw [e1, e2, F.zero_mul, if_neg (by omega)]
    rfl
  · have e1 : halfF k car (2 * (k + i) + 1) (2 * j + 1) = cyN (k + i) j := by
      simp only [halfF]
      rw [if_pos (by omega), hd, show (2 * j + 1) / 2 = j by omega, genF, if_neg (by omega)]
    have e2 : halfF k car (2 * (k + i) + 1) (2 * j) = if car j = i then 1 else 0 := by
      simp only [halfF]
      rw [if_neg (by omega), hd, show 2 * j / 2 = j by omega]
      by_cases e : car j = i
      · rw [if_pos e, if_pos ⟨by omega, by omega, by omega⟩]
      · rw [if_neg e, if_neg (fun h => e (by omega))]
    rw [e1, e2, F.add_comm]
    congr 1
    by_cases e : car j = i
    · rw [if_pos e, if_pos ⟨rfl, e⟩, F.one_mul]
    · rw [if_neg e, if_neg (fun h => e h.2), F.zero_mul]
theorem parS_step {k i p b j : Nat} {car : Nat → Nat} {D : Nat → Nat → F} {s : F} : ga (ga s (gm (cyN (k + i) j) (D (2 * j + p) b))) (if p = 1 ∧ car j = i then D (2 * j) b else 0) = ga s (parS k i p car D b j) := F.add_assoc _ _ _
end Go.Proofs.YtkoakingmnjdoabDoor

/- What Half and Stripes of package shards answer, of all numbers; nothing that was there turns. -/
namespace Go.Proofs.YtkoakingmnjdoabDoor
open Go.RowKit Gf
set_option linter.unusedVariables false
set_option maxRecDepth 20000
/-- the error of a number -/
def evV (E : Nat → Addr) (n : Nat) : Value := if n = 0 then .nilIface else errAt (E (n - 1))
theorem evV_zero (E : Nat → Addr) : evV E 0 = .nilIface := rfl
theorem evV_succ (E : Nat → Addr) (n : Nat) : evV E (n + 1) = errAt (E n) := rfl
/-- what stage 6 names -/
def ErrsE (w : World) (E : Nat → Addr) : Prop :=
  w.cell? ⟨0, 0, none⟩ = some (errAt (E 0)) ∧ w.cell? ⟨2, 0, none⟩ = some (errAt (E 11)) ∧ w.cell? ⟨3, 0, none⟩ = some (errAt (E 19))
theorem errsE_below {w w' : World} {E : Nat → Addr} (h : ErrsE w E) (hb : Below w.heap.size w w') : ErrsE w' E := ⟨cell_later hb h.1, cell_later hb h.2.1, cell_later hb h.2.2⟩
theorem scheck_ok (k : Nat) (w : World) (h1 : 1 ≤ k) (h2 : k ≤ 14) :
    Calls Tryd.prog 25 #[.int .i64 k] w fun e w' => e = .returned .nilIface ∧ w = w' := by
  have a1 : (1 : Int) ≤ k := by omega
  have a2 : (k : Int) ≤ 14 := by omega
  clear h1 h2
  go_enter Tryd.func25, Tryd.ntmps25
  go_wp2
  go_ret
  exact ⟨rfl, rfl⟩
theorem scheck_bad (k : Int) (w : World) (s : Addr) (hs : w.cell? ⟨0, 0, none⟩ = some (errAt s)) (h : ¬ OkK k) :
    Calls Tryd.prog 25 #[.int .i64 k] w fun e w' => e = .returned (errAt s) ∧ w = w' := by
  have hg : 0 < w.heap.size := by
    have := World.block_lt_of_cell? w _ hs; simpa using this
  unfold errAt at *
  by_cases h1 : k < 1
  · go_enter Tryd.func25, Tryd.ntmps25
    go_wp2
    go_ret
    exact ⟨rfl, rfl⟩
  · have h2 : 14 < k := by simp only [OkK] at h; omega
    clear h
    go_enter Tryd.func25, Tryd.ntmps25
    go_wp2
    go_ret
    exact ⟨rfl, rfl⟩
theorem most_F (k : Nat) (w : World) (h2 : k ≤ 14) :
    Calls Tryd.prog 26 #[.int .i64 k] w fun e w' => e = .returned (.int .i64 ((128 * k : Nat) : Int)) ∧ w = w' := by
  have E : Hid ((2 : Int) * k * 64 = ((128 * k : Nat) : Int)) := by show _ = _; omega
  go_enter Tryd.func26, Tryd.ntmps26
  go_wp2
  go_ret
  exact ⟨by rw [E.out]; rfl, rfl⟩
theorem half_F (k size : Int) (w : World) (E : Nat → Addr) (hE : ErrsE w E) (hs0 : -9223372036854775808 ≤ size) (hs1 : size ≤ 9223372036854775807) :
    Calls Tryd.prog 11 #[.int .i64 k, .int .i64 size] w fun e w' => e = .returned (.tuple #[.int .i64 (halfV k size), evV E (halfE k size)]) ∧ Below w.heap.size w w' := by
  have HE : Hid _ := hE
  clear hE
  by_cases hk : OkK k
  · obtain ⟨b1, b2⟩ := hk
    obtain ⟨a, rfl⟩ := Int.eq_ofNat_of_zero_le (show 0 ≤ k by omega)
    have c1 : 1 ≤ a := by omega
    have c2 : a ≤ 14 := by omega
    clear b1 b2
    by_cases h1 : size < 1
    · have e1 : halfE a size = 12 := by unfold halfE; rw [if_pos (show OkK a from ⟨by omega, by omega⟩), if_pos h1]
      rw [halfV_no (by rw [e1]; decide), e1, evV_succ]
      have h0 := HE.out.2.1
      have hg := World.block_lt_of_cell? w _ h0
      simp at hg
      clear e1
      unfold errAt at *
      go_enter Tryd.func11, Tryd.ntmps11
      go_wp2_with fail
      refine (scheck_ok _ _ c1 c2).mono ?_
      rintro e w' ⟨rfl, rfl⟩
      go_wp2
      go_region
      go_wp2
      go_ret2
      exact ⟨rfl, (Below.refl _ _).drew⟩
    · by_cases h2 : 128 * (a : Int) < size
      · have e1 : halfE a size = 20 := by unfold halfE; rw [if_pos (show OkK a from ⟨by omega, by omega⟩), if_neg h1, if_pos h2]
        rw [halfV_no (by rw [e1]; decide), e1, evV_succ]
        have h0 := HE.out.2.2
        have hg := World.block_lt_of_cell? w _ h0
        simp at hg
        have h3 : ((128 * a : Nat) : Int) < size := by omega
        clear e1 h2
        unfold errAt at *
        go_enter Tryd.func11, Tryd.ntmps11
        go_wp2_with fail
        refine (scheck_ok _ _ c1 c2).mono ?_
        rintro e w' ⟨rfl, rfl⟩
        go_wp2_with fail
        refine (most_F _ _ c2).mono ?_
        rintro e w' ⟨rfl, rfl⟩
        go_wp2
        go_region
        go_wp2
        go_ret2
        exact ⟨rfl, (Below.refl _ _).drew⟩
      · obtain ⟨n, rfl⟩ := Int.eq_ofNat_of_zero_le (show 0 ≤ size by omega)
        have d1 : 1 ≤ n := by omega
        have d2 : n ≤ 128 * a := by omega
        rw [halfV_ok c1 c2 d1 d2, halfE_ok c1 c2 d1 d2, evV_zero]
        have h3 : (n : Int) ≤ ((128 * a : Nat) : Int) := by omega
        have E2 : Hid (((n : Int) + 2 * a - 1) / (2 * a) = (cntN (2 * a) n : Nat)) := by
          have : (n : Int) + 2 * a - 1 = ((n + 2 * a - 1 : Nat) : Int) := by omega
          show _ = _
          rw [this, cntN]
          simp
        clear h1 h2
        go_enter Tryd.func11, Tryd.ntmps11
        go_wp2_with fail
        refine (scheck_ok _ _ c1 c2).mono ?_
        rintro e w' ⟨rfl, rfl⟩
        go_wp2_with fail
        refine (most_F _ _ c2).mono ?_
        rintro e w' ⟨rfl, rfl⟩
        go_wp2_with fail
        rw [E2.out]
        go_ret2
        exact ⟨rfl, Below.refl _ _⟩
  · have e1 : halfE k size = 1 := by unfold halfE; rw [if_neg hk]
    rw [halfV_no (by rw [e1]; decide), e1, evV_succ]
    have HK : Hid _ := hk
    clear hk e1
    go_enter Tryd.func11, Tryd.ntmps11
    go_wp2_with fail
    refine (scheck_bad _ _ _ HE.out.1 HK.out).mono ?_
    unfold errAt
    rintro e w' ⟨rfl, rfl⟩
    go_wp2_with fail
    go_ret2
    exact ⟨rfl, Below.refl _ _⟩
/-- sizes as the memory has them -/
def strV (m n i : Nat) : List Value := (strL m n i).map (Value.int .i64)
theorem strV_succ {m n i : Nat} {x : Int} (h : x = ((min (n - i * m) m : Nat) : Int)) : strV m n i ++ [.int .i64 x] = strV m n (i + 1) := by rw [h, strV, strV, strL_succ]; simp
theorem ownS_slice {w : World} {B i : Nat} {v : Value} {ns : List Int} (ho : w.ownsRow B 3 1 v i (ns.map (Value.int .i64))) : ∃ a cap, v = .slice a i cap ∧ RowI w a ns ∧ i = ns.length := by
  have hl := ho.1
  simp only [List.length_map, Nat.mul_one] at hl
  rcases ho.2 with ⟨rfl, h0⟩ | ⟨g, cap, cur, rfl, hg⟩
  · subst h0
    obtain rfl : ns = [] := List.eq_nil_of_length_eq_zero (by omega)
    exact ⟨none, 0, rfl, .inl rfl, rfl⟩
  · exact ⟨some ⟨g, 0, none⟩, cap, rfl, rowI_own ho, by omega⟩
end Go.Proofs.YtkoakingmnjdoabDoor

/- What Split of package shards answers, of all lists of bytes; nothing that was there turns. -/
namespace Go.Proofs.YtkoakingmnjdoabDoor
open Go.RowKit Gf
set_option linter.unusedVariables false
set_option maxRecDepth 20000
/-- halves as values: pieces of one block, one behind the other; the first i are there -/
def hvV (g H c i : Nat) : Array Value := ((List.range c).map fun v => if v < i then Value.slice (some ⟨g, v * H, none⟩) H H else .slice none 0 0).toArray
theorem hvV_at {g H c i v : Nat} (hv : v < i) (hc : i ≤ c) : (hvV g H c i)[v]? = some (.slice (some ⟨g, v * H, none⟩) H H) := by
  simp only [hvV, List.getElem?_toArray, List.getElem?_map]
  rw [List.getElem?_range (by omega)]
  simp [hv]
theorem hvV_next {g H c i : Nat} (hc : i < c) : (hvV g H c i)[i]? = some (.slice none 0 0) := by
  simp only [hvV, List.getElem?_toArray, List.getElem?_map]
  rw [List.getElem?_range (by omega)]
  simp
theorem hvV_set {g H c i : Nat} (hc : i < c) : (hvV g H c i).setIfInBounds i (.slice (some ⟨g, i * H, none⟩) H H) = hvV g H c (i + 1) := by
  apply Array.ext_getElem?
  intro j
  rw [Array.getElem?_setIfInBounds]
  by_cases hj : i = j
  · subst hj
    rw [if_pos rfl, if_pos (by simp [hvV]; omega), hvV_at (by omega) (by omega)]
  · rw [if_neg hj]
    simp only [hvV, List.getElem?_toArray, List.getElem?_map]
    by_cases hjc : j < c
    · rw [List.getElem?_range hjc]
      simp only [Option.map_some]
      by_cases h1 : j < i
      · rw [if_pos h1, if_pos (by omega)]
      · rw [if_neg h1, if_neg (by omega)]
    · rw [List.getElem?_eq_none (by simp; omega)]; rfl
theorem run_makeH (g H n : Nat) (hn : n ≤ 64) (w : World) :
    (Instr.makeSlice 38 (.int .i64 (n : Int)) (.int .i64 (n : Int))).run Tryd.prog w = .ok (.slice (some ⟨w.heap.size, 0, none⟩) n n) (w.alloc (.cells (hvV g H n 0) 22)) := by
  obtain ⟨i, hi, h1, h2, h3⟩ := infoS
  have := run_make (P := Tryd.prog) w 38 22 i _ Tryd.underlying38 hi h3 .i64 .i64 n n (by omega) (by omega) (by rw [h2]; omega) (by omega)
  rw [this, h1]
  have e : madeCells (Value.slice none 0 0).cells n = hvV g H n 0 := by
    apply Array.ext_getElem?
    intro i
    by_cases h : i < n <;> simp [madeCells, hvV, Value.cells, h, Nat.mod_one]
  simp only [Int.toNat_natCast, Nat.mul_one, e]
/-- the error's ways -/
theorem split_bad (k : Int) (a : Option Addr) (la ca : Nat) (w : World) (E : Nat → Addr) (hE : ErrsE w E) (hla : la ≤ 140737488355328) (h : halfE k la ≠ 0) :
    Calls Tryd.prog 17 #[.int .i64 k, .slice a la ca] w fun e w' => e = .returned (.tuple #[.slice none 0 0, evV E (halfE k la)]) ∧ Below w.heap.size w w' := by
  have HF : Hid _ := half_F k la w E hE (by omega) (by omega)
  have hv := halfV_no h
  rw [hv] at HF
  obtain ⟨s, hs⟩ : ∃ s, evV E (halfE k la) = errAt s := ⟨E (halfE k la - 1), by unfold evV; rw [if_neg h]⟩
  rw [hs] at HF ⊢
  clear hv hs h hE
  unfold errAt at *
  go_enter Tryd.func17, Tryd.ntmps17
  go_wp2_with fail
  refine Calls.mono HF.out ?_
  rintro e w1 ⟨rfl, hb⟩
  have HB : Hid _ := hb
  clear hb
  go_wp2_with fail
  go_ret2
  exact ⟨rfl, HB.out⟩
set_option maxHeartbeats 1000000 in
theorem split_ok (k n ca : Nat) (a : Option Addr) (xs : List F) (w : World) (E : Nat → Addr) (hE : ErrsE w E) (h1 : 1 ≤ k) (h2 : k ≤ 14) (h3 : 1 ≤ n) (h4 : n ≤ 128 * k) (hn : n = xs.length) (hx : Row8 w a xs) :
    Calls Tryd.prog 17 #[.int .i64 k, .slice a n ca] w fun e w' => ∃ hb g c H, e = .returned (.tuple #[.slice (some ⟨hb, 0, none⟩) c c, .nilIface]) ∧ c = 2 * k ∧ H = cntN (2 * k) n ∧ w.heap.size ≤ hb ∧ w.heap.size ≤ g ∧ g ≠ hb ∧
      w'.heap[hb]? = some (.cells (hvV g H c c) 22 (0, 0)) ∧ w'.heap[g]? = some (.cells (vfs (padF (c * H) xs)) 5 (0, 0)) ∧ Below w.heap.size w w' := by
  have HF : Hid _ := half_F k n w E hE (by omega) (by omega)
  rw [halfV_ok h1 h2 h3 h4, halfE_ok h1 h2 h3 h4, evV_zero] at HF
  obtain ⟨k1, k2, k3, k4⟩ := cnt_half h1 h2 h3 h4
  obtain ⟨c, hc⟩ : ∃ c, c = 2 * k := ⟨_, rfl⟩
  rw [← hc] at HF k1 k2 k3 k4
  generalize hH : cntN c n = H at *
  have hcH : c * H ≤ 1792 := Nat.le_trans (Nat.mul_le_mul (show c ≤ 28 by omega) k2) (by decide)
  obtain ⟨m, hm⟩ : ∃ m, m = c * H := ⟨_, rfl⟩
  have HKC : Hid ((2 : Int) * k = c) := by show _ = _; omega
  have HCM : Hid ((c : Int) * H = m) := by show _ = _; rw [hm]; simp
  have HMM : Hid _ := hm
  have HHH : Hid _ := hH
  have HCC : Hid _ := hc
  rw [← hm] at hcH k3
  have hc28 : c ≤ 28 := by omega
  have HK4 : Hid _ := k4
  have HXL : Hid _ := hn
  have HX : Hid _ := hx
  have hmkA := run_makeH (g := 0) (H := 0) c (by omega)
  clear hE h3 h4 hc hm hH k4 hn hx hmkA
  have H28 : Hid _ := fun g w => run_makeH g H c (by omega) w
  have H8 : Hid _ := fun w => run_make8 m (by omega) w
  go_enter Tryd.func17, Tryd.ntmps17
  go_wp2_with fail
  refine Calls.mono HF.out ?_
  rintro e w1 ⟨rfl, hb⟩
  have HB : Hid _ := hb
  clear hb
  have m1 := H28.out (w1.heap.size + 1) w1
  have m2 := H8.out (w1.alloc (.cells (hvV (w1.heap.size + 1) H c 0) 22))
  have hkc := HKC.out
  have hcm := HCM.out
  have hcp := run_copy8 (w1.heap.size + 1) m m a n ca (zeros m) xs ((w1.alloc (.cells (hvV (w1.heap.size + 1) H c 0) 22)).alloc (.cells (vfs (zeros m)) 5)) 3 (by rw [zeros_len]) HXL.out (by rw [zeros_len, ← HXL.out]; exact k3) (by simpa using heap_alloc_last (w1.alloc (.cells (hvV (w1.heap.size + 1) H c 0) 22)) (.cells (vfs (zeros m)) 5)) (row8_alloc (row8_alloc (row8_below HX.out HB.out) _) _)
  rw [pad_eq (by rw [← HXL.out]; exact k3)] at hcp
  have hB0 : Below w.heap.size w ((w1.alloc (.cells (hvV (w1.heap.size + 1) H c 0) 22)).alloc (.cells (vfs (zeros m)) 5)) := (HB.out.alloc HB.out.size _).alloc (by have := HB.out.size; simp; omega) _
  have z1 : w.heap.size ≤ w1.heap.size := HB.out.size
  obtain ⟨W3, hW3⟩ : ∃ W3, W3 = (((w1.alloc (.cells (hvV (w1.heap.size + 1) H c 0) 22)).alloc (.cells (vfs (zeros m)) 5)).setRow (w1.heap.size + 1) (vfs (padF m xs))) := ⟨_, rfl⟩
  rw [← hW3] at hcp
  have B1 : Hid (W3.heap[w1.heap.size]? = some (.cells (hvV (w1.heap.size + 1) H c 0) 22 (0, 0))) := by
    show _ = _
    rw [hW3, setRow_heap_other _ _ _ _ (by omega)]
    exact (Below.heap_alloc _ _ _ (by simp)).trans (heap_alloc_last w1 _)
  have B2 : Hid (W3.heap[w1.heap.size + 1]? = some (.cells (vfs (padF m xs)) 5 (0, 0))) := by
    show _ = _
    rw [hW3]
    exact setRow_heap _ _ _ _ _ _ (by simpa using heap_alloc_last (w1.alloc (.cells (hvV (w1.heap.size + 1) H c 0) 22)) (.cells (vfs (zeros m)) 5))
  have B3 : Hid (Below w.heap.size w W3) := by
    show Below _ _ _
    rw [hW3]
    exact below_row hB0 (by omega) _
  clear hW3 hB0
  have hsz : (w1.alloc (.cells (hvV (w1.heap.size + 1) H c 0) 22)).heap.size = w1.heap.size + 1 := by simp
  go_wp2
  clear hcp m1 m2
  generalize hN : w1.heap.size = N at *
  clear hN hsz
  go_loopw [36] (fun t wr => ∃ v : Nat, v ≤ c ∧ t = .int .i64 v ∧ W3.grownBy wr (some N) ∧ wr.heap[N]? = some (.cells (hvV (N + 1) H c v) 22 (0, 0))) (fun t _ => c - (intOf t).toNat)
  case atStart => exact ⟨0, by omega, rfl, World.grownBy.refl _ _, B1.out⟩
  case round =>
    obtain ⟨v, hv, rfl, hgb, hs⟩ := hrel
    have HG : Hid _ := hgb
    have HS : Hid _ := hs
    by_cases hlt : v < c
    · obtain ⟨p, hp⟩ : ∃ p, p = v * H := ⟨_, rfl⟩
      have hpm : p + H ≤ m := by
        rw [hp, HMM.out]
        have := Nat.mul_le_mul_right H (show v + 1 ≤ c from hlt)
        rw [Nat.succ_mul] at this; omega
      have m4 : (v : Int) * (H : Int) = (p : Int) := by rw [hp]; simp
      have m3 : ((v : Int) + 1) * (H : Int) = (p : Int) + (H : Int) := by rw [Int.add_mul, Int.one_mul, m4]
      have HP : Hid _ := hp
      have c1 := cellAt hs v _ (hvV_next (g := N + 1) (H := H) hlt)
      have c2 : wr.frozen? ⟨N, v, none⟩ = false := frozen_of_row _ _ _ _ _ hs
      have HT : Hid ((wr.setCell ⟨N, v, none⟩ (.slice (some ⟨N + 1, p, none⟩) H H)).heap[N]? = some (.cells (hvV (N + 1) H c (v + 1)) 22 (0, 0))) := by
        show _ = _
        rw [heap_setCell_same _ _ _ _ _ _ hs, hp, hvV_set hlt]
      clear hp hgb hs hkc hcm
      go_wp2
      exact ⟨⟨v + 1, by omega, by go_num, grownBy_setCell HG.out _, HT.out⟩, by simp [intOf]; omega⟩
    · obtain rfl : v = c := by omega
      clear hgb hs
      go_wp2
      go_ret2
      exact ⟨N, N + 1, v, H, rfl, HCC.out, by rw [← HCC.out]; exact HHH.out.symm, by omega, by omega, by omega, HS.out, by rw [← HMM.out]; exact grown_block HG.out B2.out (by omega), below_grown B3.out HG.out (by omega)⟩
/-- what Split tells of a list -/
def SplitAs (k : Int) (n : Nat) (xs : List F) (E : Nat → Addr) (w' : World) (B : Nat) (b : Option Addr) (l cap : Nat) (ev : Value) : Prop :=
  (halfE k n ≠ 0 ∧ b = none ∧ l = 0 ∧ cap = 0 ∧ ev = errAt (E (halfE k n - 1))) ∨
  (halfE k n = 0 ∧ ev = .nilIface ∧ ∃ a hb g H : Nat, k = a ∧ 1 ≤ a ∧ a ≤ 14 ∧ 1 ≤ n ∧ n ≤ 128 * a ∧ b = some ⟨hb, 0, none⟩ ∧ l = 2 * a ∧ cap = 2 * a ∧ H = cntN (2 * a) n ∧ B ≤ hb ∧ B ≤ g ∧ g ≠ hb ∧
    w'.heap[hb]? = some (.cells (hvV g H (2 * a) (2 * a)) 22 (0, 0)) ∧ w'.heap[g]? = some (.cells (vfs (padF (2 * a * H) xs)) 5 (0, 0)))
theorem split_G (k : Int) (n ca : Nat) (a : Option Addr) (xs : List F) (w : World) (E : Nat → Addr) (hE : ErrsE w E) (hn9 : n ≤ 140737488355328) (hn : n = xs.length) (hx : Row8 w a xs) :
    Calls Tryd.prog 17 #[.int .i64 k, .slice a n ca] w fun e w' => ∃ b l cap ev, e = .returned (.tuple #[.slice b l cap, ev]) ∧ SplitAs k n xs E w' w.heap.size b l cap ev ∧ Below w.heap.size w w' := by
  by_cases h : halfE k n = 0
  · obtain ⟨c, m, rfl, hm, h1, h2, h3, h4⟩ := half_ok h
    obtain rfl : n = m := by omega
    exact (split_ok c n ca a xs w E hE h1 h2 h3 h4 hn hx).mono fun e w' ⟨hb, g, d, H, he, hd, hH, l1, l2, l3, q1, q2, hB⟩ => by
      subst hd
      exact ⟨_, _, _, _, he, .inr ⟨h, rfl, c, hb, g, H, rfl, h1, h2, h3, h4, rfl, rfl, rfl, hH, l1, l2, l3, q1, q2⟩, hB⟩
  · refine (split_bad k a n ca w E hE hn9 h).mono fun e w' ⟨he, hB⟩ => ⟨_, _, _, _, he, .inl ⟨h, rfl, rfl, rfl, ?_⟩, hB⟩
    unfold evV; rw [if_neg h]
end Go.Proofs.YtkoakingmnjdoabDoor

/- What the document's own Half and Stripes answer, of all numbers; nothing that was there turns. -/
namespace Go.Proofs.YtkoakingmnjdoabDoor
open Go.RowKit Gf
set_option linter.unusedVariables false
set_option maxRecDepth 20000
end Go.Proofs.YtkoakingmnjdoabDoor

/- The chapter's worked answers of package shards hold: the function 'alive' of the statements returns true; a half lies within its block. -/
namespace Go.Proofs.YtkoakingmnjdoabDoor
open Go.RowKit Gf
set_option linter.unusedVariables false
set_option maxRecDepth 20000
theorem row8_half {w : World} {g H c v : Nat} {xs : List F} {t : TypeId} {fr : Nat × Nat} (h : w.heap[g]? = some (.cells (vfs (padF (c * H) xs)) t fr)) (hv : v < c) : Row8 w (some ⟨g, v * H, none⟩) (hf H xs v) :=
  .inr ⟨g, v * H, rfl, fun j hj => by
    rw [hf_len] at hj
    have hlt := place_lt (c := H) hv hj
    rw [cell_of_row _ _ _ _ _ _ h, vfs_get _ _ (by rw [padF_len]; exact hlt), at8_padF hlt, hf, at8_rowF hj]⟩
theorem heap_alloc_any (w : World) (o : Obj) : (w.alloc o).heap[w.heap.size]? = some o := by show (w.heap.push o)[w.heap.size]? = _; simp
theorem alive6_1 : hf 2 [97, 98, 99, 100, 101] 1 = [99, 100] := by decide +kernel
theorem alive6_2 : hf 2 [97, 98, 99, 100, 101] 2 = [101, 0] := by decide +kernel
end Go.Proofs.YtkoakingmnjdoabDoor

/- What Join of package shards answers, of all lists of halves; nothing that was there turns. -/
namespace Go.Proofs.YtkoakingmnjdoabDoor
open Go.RowKit Gf
set_option linter.unusedVariables false
set_option maxRecDepth 20000
/-- halves in form -/
def FitP (c h : Nat) (L : List (List F)) : Prop := L.length = c ∧ ∀ xs ∈ L, xs.length = h
theorem rows8_at {w : World} {a : Option Addr} {L : List (List F)} {j : Nat} (h : Rows8 w a L) (hj : j < L.length) : ∃ b off, a = some ⟨b, off, none⟩ ∧ b < w.heap.size ∧ ∀ j xs, L[j]? = some xs → ∃ a' cap', w.cell? ⟨b, off + j, none⟩ = some (.slice a' xs.length cap') ∧ Row8 w a' xs := by
  rcases h with rfl | ⟨b, off, rfl, h⟩
  · simp at hj
  · obtain ⟨a', cap', h1, _⟩ := h j _ (List.getElem?_eq_getElem hj)
    exact ⟨b, off, rfl, by simpa using World.block_lt_of_cell? w _ h1, h⟩
set_option maxHeartbeats 1000000 in
theorem fit_F (k h l cap : Nat) (a : Option Addr) (L : List (List F)) (w : World) (hk : k ≤ 14) (hl : l = L.length) (hl9 : l ≤ 140737488355328) (hL : Rows8 w a L) :
    Calls Tryd.prog 31 #[.int .i64 k, .int .i64 h, .slice a l cap] w fun e w' => ∃ b : Bool, e = .returned (.bool b) ∧ (b = true ∧ FitP (2 * k) h L ∨ b = false ∧ ¬ FitP (2 * k) h L) ∧ w = w' := by
  have HL : Hid _ := hl
  have HR : Hid _ := hL
  by_cases h2 : l = 2 * k
  · have h2' : 2 * (k : Int) = l := by omega
    have H2 : Hid _ := h2
    clear hl hL h2
    go_enter Tryd.func31, Tryd.ntmps31
    go_wp2
    go_loopw [16] (fun t wr => ∃ j : Nat, j ≤ l ∧ t = .int .i64 j ∧ wr = w ∧ Hid (∀ i xs, i < j → L[i]? = some xs → xs.length = h)) (fun t _ => l - (intOf t).toNat)
    case atStart => exact ⟨0, by omega, rfl, rfl, fun i xs h => absurd h (by omega)⟩
    case round =>
      obtain ⟨j, hj, rfl, rfl, HI⟩ := hrel
      by_cases hlt : j < l
      · obtain ⟨b, off, rfl, hb, hc⟩ := rows8_at HR.out (show j < L.length by rw [← HL.out]; exact hlt)
        obtain ⟨xs, hxs⟩ : ∃ xs, L[j]? = some xs := ⟨_, List.getElem?_eq_getElem (by rw [← HL.out]; exact hlt)⟩
        obtain ⟨a', cap', c1, _⟩ := hc j xs hxs
        have HX : Hid _ := hxs
        clear hc hxs
        by_cases he : xs.length = h
        · subst he
          clear h2'
          go_wp2
          refine ⟨⟨j + 1, by omega, by go_num, trivial, fun i ys hi hy => ?_⟩, by simp [intOf]; omega⟩
          by_cases e : i = j
          · subst e
            obtain rfl := Option.some.inj (HX.out.symm.trans hy)
            rfl
          · exact HI.out i ys (by omega) hy
        · have he' : ¬ (xs.length : Int) = h := by omega
          have HN : Hid _ := he
          clear h2' he
          go_wp2
          go_ret
          exact ⟨false, rfl, .inr ⟨rfl, fun hf => HN.out (hf.2 xs (List.mem_of_getElem? HX.out))⟩, rfl⟩
      · obtain rfl : j = l := by omega
        go_wp2
        go_ret
        refine ⟨true, rfl, .inl ⟨rfl, by rw [← HL.out, H2.out], fun xs hx => ?_⟩, rfl⟩
        obtain ⟨i, hi, e⟩ := List.getElem_of_mem hx
        exact HI.out i xs (by rw [HL.out]; exact hi) (by rw [List.getElem?_eq_getElem hi, e])
  · have h2' : ¬ (l : Int) = 2 * k := by omega
    have H2 : Hid _ := h2
    clear hl hL h2
    go_enter Tryd.func31, Tryd.ntmps31
    go_wp2
    go_ret
    exact ⟨false, rfl, .inr ⟨rfl, fun hf => H2.out (by rw [HL.out]; exact hf.1)⟩, rfl⟩
theorem run_make8_cap (n : Nat) (hn : n ≤ 140737488351232) (w : World) :
    (Instr.makeSlice 22 (.int .i64 0) (.int .i64 (n : Int))).run Tryd.prog w = .ok (.slice (some ⟨w.heap.size, 0, none⟩) 0 n) (w.alloc (.cells (vfs (zeros n)) 5)) := by
  obtain ⟨i, hi, h1, h2, h3⟩ := info8
  have := run_make (P := Tryd.prog) w 22 5 i _ Tryd.underlying22 hi h3 .i64 .i64 0 (n : Int) (by omega) (by omega) (by rw [h2]; omega) (by omega)
  rw [this, h1]
  simp only [Int.toNat_natCast, Nat.mul_one, made8, Int.toNat_zero]
/-- the first halves, one behind the other, and room -/
theorem joinP_step {c k : Nat} {L : List (List F)} {xs : List F} (h : ∀ xs ∈ L, xs.length = c) (hx : L[k]? = some xs) :
    (L.take k).flatten ++ xs ++ (zeros ((L.length - k) * c)).drop xs.length = ofP c L (k + 1) ∧ (L.take k).flatten.length = k * c := by
  have hk : k < L.length := (List.getElem?_eq_some_iff.1 hx).1
  have hl : (L.take k).flatten.length = k * c := by
    rw [flat_len (c := c) (fun x hx => h x (List.mem_of_mem_take hx)), List.length_take, Nat.min_eq_left (by omega)]
  have hxl : xs.length = c := h xs (List.mem_of_getElem? hx)
  have hd : L[k] = xs := (List.getElem?_eq_some_iff.1 hx).2
  refine ⟨?_, hl⟩
  rw [zeros_drop, ofP, List.take_succ_eq_append_getElem hk, List.flatten_append, hd, hxl]
  simp only [List.flatten_cons, List.flatten_nil, List.append_nil]
  congr 2
  rw [show L.length - k = (L.length - (k + 1)) + 1 from by omega, Nat.succ_mul]; omega
theorem join_bad (k size : Int) (l cap : Nat) (a : Option Addr) (w : World) (E : Nat → Addr) (hE : ErrsE w E) (hs0 : -9223372036854775808 ≤ size) (hs1 : size ≤ 9223372036854775807) (h : halfE k size ≠ 0) :
    Calls Tryd.prog 16 #[.int .i64 k, .int .i64 size, .slice a l cap] w fun e w' => e = .returned (.tuple #[.slice none 0 0, evV E (halfE k size)]) ∧ Below w.heap.size w w' := by
  have HF : Hid _ := half_F k size w E hE hs0 hs1
  rw [halfV_no h] at HF
  obtain ⟨s, hs⟩ : ∃ s, evV E (halfE k size) = errAt s := ⟨E (halfE k size - 1), by unfold evV; rw [if_neg h]⟩
  rw [hs] at HF ⊢
  clear hs h hE
  unfold errAt at *
  go_enter Tryd.func16, Tryd.ntmps16
  go_wp2_with fail
  refine Calls.mono HF.out ?_
  rintro e w1 ⟨rfl, hb⟩
  have HB : Hid _ := hb
  clear hb
  go_wp2_with fail
  go_ret2
  exact ⟨rfl, HB.out⟩
set_option maxHeartbeats 1000000 in
theorem join_no (k n l cap : Nat) (a : Option Addr) (L : List (List F)) (w : World) (E : Nat → Addr) (hE : ErrsE w E) (hD : w.cell? ⟨1, 0, none⟩ = some (errAt (E 4))) (h1 : 1 ≤ k) (h2 : k ≤ 14) (h3 : 1 ≤ n) (h4 : n ≤ 128 * k)
    (hl : l = L.length) (hl9 : l ≤ 140737488355328) (hL : Rows8 w a L) (hno : ¬ FitP (2 * k) (cntN (2 * k) n) L) :
    Calls Tryd.prog 16 #[.int .i64 k, .int .i64 n, .slice a l cap] w fun e w' => e = .returned (.tuple #[.slice none 0 0, errAt (E 4)]) ∧ Below w.heap.size w w' := by
  have HF : Hid _ := half_F k n w E hE (by omega) (by omega)
  rw [halfV_ok h1 h2 h3 h4, halfE_ok h1 h2 h3 h4, evV_zero] at HF
  have HD : Hid _ := hD
  have HFI : Hid _ := fun u (hb : Below w.heap.size w u) => fit_F k (cntN (2 * k) n) l cap a L u h2 hl hl9 (rows8_below hL hb)
  have HNO : Hid _ := hno
  generalize cntN (2 * k) n = H at *
  clear hE hD hl hL hno h3 h4
  unfold errAt at *
  go_enter Tryd.func16, Tryd.ntmps16
  go_wp2_with fail
  refine Calls.mono HF.out ?_
  rintro e w1 ⟨rfl, hb⟩
  have HB : Hid _ := hb
  clear hb
  go_wp2_with fail
  refine Calls.mono (HFI.out _ HB.out) ?_
  rintro e w2 ⟨b, rfl, hbb, rfl⟩
  have hbf : b = false := by
    rcases hbb with ⟨_, h⟩ | ⟨h, _⟩
    · exact absurd h HNO.out
    · exact h
  subst hbf
  have c0 := cell_later HB.out HD.out
  have hg := World.block_lt_of_cell? _ _ c0
  simp at hg
  clear hbb
  go_wp2
  go_region
  go_wp2
  go_ret2
  exact ⟨rfl, HB.out.drew⟩
set_option maxHeartbeats 2000000 in
theorem join_ok (k n l cap : Nat) (a : Option Addr) (L : List (List F)) (w : World) (E : Nat → Addr) (hE : ErrsE w E) (h1 : 1 ≤ k) (h2 : k ≤ 14) (h3 : 1 ≤ n) (h4 : n ≤ 128 * k)
    (hl : l = L.length) (hL : Rows8 w a L) (hok : FitP (2 * k) (cntN (2 * k) n) L) :
    Calls Tryd.prog 16 #[.int .i64 k, .int .i64 n, .slice a l cap] w fun e w' => ∃ g ys, e = .returned (.tuple #[.slice (some ⟨g, 0, none⟩) n n, .nilIface]) ∧ w.heap.size ≤ g ∧ Hid (L.flatten.take n ++ ys = L.flatten) ∧
      (L.flatten.take n).length = n ∧ w'.heap[g]? = some (.cells (vfs L.flatten) 5 (0, 0)) ∧ Below w.heap.size w w' := by
  have HF : Hid _ := half_F k n w E hE (by omega) (by omega)
  rw [halfV_ok h1 h2 h3 h4, halfE_ok h1 h2 h3 h4, evV_zero] at HF
  obtain ⟨k1, k2, k3, k4⟩ := cnt_half h1 h2 h3 h4
  have hl9 : l ≤ 28 := by rw [hl, hok.1]; omega
  have HFI : Hid _ := fun u (hb : Below w.heap.size w u) => fit_F k (cntN (2 * k) n) l cap a L u h2 hl (by omega) (rows8_below hL hb)
  obtain ⟨c, hc⟩ : ∃ c, c = 2 * k := ⟨_, rfl⟩
  rw [← hc] at HF HFI k1 k2 k3 k4 hok
  generalize cntN c n = H at *
  have hcH : c * H ≤ 1792 := Nat.le_trans (Nat.mul_le_mul (show c ≤ 28 by omega) k2) (by decide)
  obtain ⟨m, hm⟩ : ∃ m, m = c * H := ⟨_, rfl⟩
  have HKC : Hid ((2 : Int) * k = c) := by show _ = _; omega
  have HCM : Hid ((c : Int) * H = m) := by show _ = _; rw [hm]; simp
  have HMM : Hid _ := hm
  rw [← hm] at hcH k3
  have HC : Hid _ := hok.1
  have HA : Hid _ := hok.2
  have hlc : l = c := by rw [hl, hok.1]
  subst hlc
  have HOK : Hid _ := hok
  have HR : Hid _ := hL
  have H8 : Hid _ := fun w => run_make8_cap m (by omega) w
  have HK3 : Hid _ := k3
  have HK4 : Hid _ := k4
  clear hE h3 h4 hc hm hl hL hok k4
  go_enter Tryd.func16, Tryd.ntmps16
  go_wp2_with fail
  refine Calls.mono HF.out ?_
  rintro e w1 ⟨rfl, hb⟩
  have HB : Hid _ := hb
  clear hb
  go_wp2_with fail
  refine Calls.mono (HFI.out _ HB.out) ?_
  rintro e w2 ⟨b, rfl, hbb, rfl⟩
  have hbf : b = true := by
    rcases hbb with ⟨h, _⟩ | ⟨_, h⟩
    · exact h
    · exact absurd HOK.out h
  subst hbf
  have m1 := H8.out w1
  have hkc := HKC.out
  have hcm := HCM.out
  clear hbb
  go_wp2
  have B1 : Hid _ := heap_alloc_last w1 (.cells (vfs (zeros m)) 5)
  have B3 : Hid _ := HB.out.alloc HB.out.size (.cells (vfs (zeros m)) 5)
  have z1 : w.heap.size ≤ w1.heap.size := HB.out.size
  clear m1 hkc hcm
  generalize hN : w1.heap.size = N at *
  generalize (w1.alloc (.cells (vfs (zeros m)) 5)) = W3 at *
  clear hN
  go_loopw [10, 35] (fun s t wr => ∃ j q : Nat, j ≤ l ∧ t = .int .i64 j ∧ s = .slice (some ⟨N, 0, none⟩) q m ∧ Hid (q = j * H) ∧ W3.grownBy wr (some N) ∧ wr.heap[N]? = some (.cells (vfs (ofP H L j)) 5 (0, 0))) (fun _ t _ => l - (intOf t).toNat)
  case atStart => exact ⟨0, 0, by omega, rfl, rfl, by show _ = _; omega, World.grownBy.refl _ _, by rw [ofP_zero, HC.out, ← HMM.out]; exact B1.out⟩
  case round =>
    obtain ⟨j, q, hj, rfl, rfl, HQ, hgb, hs⟩ := hrel
    have HG : Hid _ := hgb
    have HS : Hid _ := hs
    have hW : Below w.heap.size w wr := below_grown B3.out hgb (by omega)
    by_cases hlt : j < l
    · obtain ⟨b, off, rfl, hb, hcl⟩ := rows8_at (rows8_below HR.out hW) (show j < L.length by rw [HC.out]; exact hlt)
      obtain ⟨xs, hxs⟩ : ∃ xs, L[j]? = some xs := ⟨_, List.getElem?_eq_getElem (by rw [HC.out]; exact hlt)⟩
      obtain ⟨a', cap', c1, c2⟩ := hcl j xs hxs
      have hxl : xs.length = H := HA.out xs (List.mem_of_getElem? hxs)
      obtain ⟨e1, e2⟩ := joinP_step HA.out hxs
      have hqm : q + H ≤ m := by
        rw [HQ.out, HMM.out]
        have := Nat.mul_le_mul_right H (show j + 1 ≤ l from hlt)
        rw [Nat.succ_mul] at this; omega
      have hrun := run_append8_room (w := wr) (g := N) (n := q) (cap := m) (xs := (L.take j).flatten) (old := zeros ((L.length - j) * H)) (ys := xs) (a := a') (m := H) (c := cap') 22 hs (by rw [e2]; exact HQ.out) hqm hxl.symm (by
        rw [zeros_len, hxl]
        exact Nat.le_mul_of_pos_left H (by rw [HC.out]; omega)) c2 (fun e => by
          rcases c2 with e' | ⟨_, _, e', _⟩
          · rw [e'] at hxl; simp at hxl; omega
          · rw [e] at e'; cases e')
      rw [e1] at hrun
      rw [hxl] at c1
      have HRun : Hid _ := hrun
      have HT : Hid _ := setRow_heap _ _ _ (vfs (ofP H L (j + 1))) _ _ hs
      have HQ2 : Hid (q + H = (j + 1) * H) := by show _ = _; rw [Nat.succ_mul, HQ.out]
      clear hrun hgb hs hW hcl hxs c2 hxl e1 e2
      go_wp2_with (at_builtin; refine wpList_append_run rfl _ _ 22 rfl _ _ _ _ rfl rfl HRun.out ?_)
      exact ⟨⟨j + 1, q + H, by omega, by go_num, rfl, HQ2.out, grownBy_setRow HG.out _, HT.out⟩, by simp [intOf]; omega⟩
    · obtain rfl : j = l := by omega
      have hq : q = m := by rw [HQ.out, HMM.out]
      subst hq
      have hfl : ofP H L j = L.flatten := by
        have := ofP_done H L
        rw [HC.out] at this
        exact this
      rw [hfl] at HS
      have hlen : L.flatten.length = q := by rw [flat_len HA.out, HC.out, ← HQ.out]
      have HLE : Hid (n ≤ L.flatten.length) := by show n ≤ _; rw [hlen]; exact k3
      clear hgb hs hlen hfl
      go_wp2
      go_ret2
      exact ⟨N, L.flatten.drop n, rfl, by omega, List.take_append_drop _ _, by rw [List.length_take]; exact Nat.min_eq_left HLE.out, HS.out, hW⟩
end Go.Proofs.YtkoakingmnjdoabDoor

/- Plain algebra of stage 7: lists of bytes as functions; all halves of a stripe. -/
namespace Go.Proofs.YtkoakingmnjdoabDoor
open Go.RowKit Gf
set_option linter.unusedVariables false
set_option maxRecDepth 20000
/-- the bytes of lists of bytes -/
def bytesD (L : List (List F)) : Nat → Nat → F := fun v b => at8 (L.getD v []) b
/-- a stripe's data halves' bytes -/
def strD (H : Nat) (xs : List F) : Nat → Nat → F := fun v b => at8 xs (v * H + b)
theorem img_stripe {k H h c : Nat} {car : Nat → Nat} {xs : List F} (hc : 2 * k ≤ c) : imgL k car H (bytesD ((List.range c).map (hf H xs))) h = imgL k car H (strD H xs) h :=
  img_congr fun v b hv hb => by
    simp only [bytesD, List.getD_eq_getElem?_getD, List.getElem?_map]
    rw [List.getElem?_range (by omega)]
    exact at8_rowF hb
/-- all halves of a stripe -/
def encL (k r H : Nat) (xs : List F) : List (List F) := (List.range (2 * (k + r))).map (imgL k (carN (groupN k r)) H (strD H xs))
theorem encL_len (k r H : Nat) (xs : List F) : (encL k r H xs).length = 2 * (k + r) := by simp [encL]
theorem encL_all {k r H : Nat} {xs ys : List F} (h : ys ∈ encL k r H xs) : ys.length = H := by
  obtain ⟨v, _, rfl⟩ := List.mem_map.1 h
  exact imgL_len _ _ _ _ _
theorem encL_at {k r H h : Nat} {xs : List F} (hh : h < 2 * (k + r)) : (encL k r H xs)[h]? = some (imgL k (carN (groupN k r)) H (strD H xs) h) := by simp [encL, hh]
end Go.Proofs.YtkoakingmnjdoabDoor

/- What Zero of package tesseraref02, and square of the statements, answer; nothing that was there turns. -/
namespace Go.Proofs.YtkoakingmnjdoabDoor
open Go.RowKit Gf
set_option linter.unusedVariables false
set_option maxRecDepth 20000
/-- n bytes: those that are there, noughts behind -/
def padTo (n : Nat) (xs : List F) : List F := xs.take n ++ zeros (n - xs.length)
theorem padTo_len (n : Nat) (xs : List F) : (padTo n xs).length = n := by
  rw [padTo, List.length_append, zeros_len, List.length_take]; omega
theorem run_copyPad (g n : Nat) (a : Option Addr) (la ca : Nat) (xs : List F) (w : World) (ty : TypeId) (hla : la = xs.length)
    (hg : w.heap[g]? = some (.cells (vfs (zeros n)) 5 (0, 0))) (hx : Row8 w a xs) :
    (Builtin.copy_ #[22, 22] ty #[.slice (some ⟨g, 0, none⟩) n n, .slice a la ca]).run Tryd.prog w = .ok (goInt ((min xs.length n : Nat) : Int)) (w.setRow g (vfs (padTo n xs))) := by
  have hs : (Tryd.prog.info? 5).map (·.size) = some 1 := by kernel_rfl
  subst hla
  rcases hx with rfl | ⟨b, off, rfl, hx⟩
  · rw [List.length_nil, run_copy_none w _ _ _ _ _ _ _ _ _ _ Tryd.underlying22 hs (by simp)]
    have e : padTo n [] = zeros n := by simp [padTo]
    rw [e, setRow_self w g _ _ _ hg, Nat.zero_min]; rfl
  · have hlen : ((xs.take n).map vf).length = Nat.min xs.length n := by rw [List.length_map, List.length_take]; show min _ _ = min _ _; omega
    have he : (List.take 0 (vfs (zeros n)).toList ++ (xs.take n).map vf ++ List.drop (0 + ((xs.take n).map vf).length) (vfs (zeros n)).toList).toArray = vfs (padTo n xs) := by
      rw [hlen]
      simp only [List.take_zero, List.nil_append, Nat.zero_add, padTo, vfs, List.map_append, List.toList_toArray, zeros, List.map_replicate, List.drop_replicate]
      congr 3
      show n - min _ _ = _
      omega
    rw [run_copy_row (P := Tryd.prog) w 22 22 ty 5 g 0 n n ⟨b, off, none⟩ xs.length ca (vfs (zeros n)) 5 ((xs.take n).map vf) Tryd.underlying22 hs hg hlen
      (fun j v hv => by
        simp only [List.getElem?_map, Option.map_eq_some_iff] at hv
        obtain ⟨x, hx1, rfl⟩ := hv
        have hj' := (List.getElem?_eq_some_iff.1 hx1).1
        rw [List.length_take] at hj'
        have hj : j < xs.length := by omega
        rw [List.getElem?_take_of_lt (by omega)] at hx1
        have e : at8 xs j = x := by simp [at8, hx1]
        have hadd : (⟨b, off, none⟩ : Addr).add j = ⟨b, off + j, none⟩ := by unfold Addr.add; split <;> simp_all
        rw [hadd, hx j hj, e]; rfl)
      (by rw [hlen, vfs_size, zeros_len]; show 0 + min _ _ ≤ _; omega)
      (fun v hv => by
        simp only [List.mem_map] at hv
        obtain ⟨x, _, rfl⟩ := hv
        rfl)]
    rw [he, hlen]
end Go.Proofs.YtkoakingmnjdoabDoor

/- The walk of the statement GfPowers: it returns true of all elements and numbers. -/
namespace Go.Proofs.YtkoakingmnjdoabDoor
open Go.RowKit Gf
set_option maxRecDepth 20000
theorem powF_ne {x : F} (h : x ≠ 0) (n : Int) : powF x n = npow x (n % 255).toNat := by
  by_cases hn : n = 0
  · subst hn; simp [powF]
  · simp [powF, h, hn]
theorem powF_add {x : F} (h : x ≠ 0) (n m : Int) : gm (powF x n) (powF x m) = powF x (n + m) := by
  rw [powF_ne h, powF_ne h, powF_ne h, ← npow_add, ← npow_mod h ((n % 255).toNat + (m % 255).toNat)]
  congr 1; omega
theorem powF_neg {x : F} (h : x ≠ 0) (n : Int) : gm (powF x n) (powF x (-n)) = 1 := by
  rw [powF_add h, Int.add_right_neg]; rfl
theorem powF_one (x : F) : powF x 1 = x := by
  by_cases h : x = 0
  · simp [powF, h]
  · rw [powF_ne h]; exact npow_one x
theorem powF_log {x : F} (h : x ≠ 0) : powF gen ((logT x.toNat : Nat) : Int) = x := by
  have hl := F.log_lt h
  rw [powF_ne (by decide +kernel : gen ≠ 0), show (((logT x.toNat : Nat) : Int) % 255).toNat = logT x.toNat from by omega]
  exact log_miss x h
theorem pow_2 {x : F} (h : x ≠ 0) (w : World) : Calls Tryd.prog 58 #[.int .u8 2, .int .i64 ((logT x.toNat : Nat) : Int)] w fun e w' => e = .returned (.int .u8 x.toNat) ∧ w = w' := by
  have hl := F.log_lt h
  have := pow_F gen ((logT x.toNat : Nat) : Int) w (by omega) (by omega)
  rw [powF_log h] at this
  exact this
theorem pow_1 (x : F) (w : World) : Calls Tryd.prog 58 #[.int .u8 x.toNat, .int .i64 1] w fun e w' => e = .returned (.int .u8 x.toNat) ∧ w = w' := by
  have := pow_F x 1 w (by decide) (by decide)
  rw [powF_one] at this
  exact this
theorem pow_0 (x : F) (w : World) : Calls Tryd.prog 58 #[.int .u8 x.toNat, .int .i64 0] w fun e w' => e = .returned (.int .u8 1) ∧ w = w' := pow_F x 0 w (by decide) (by decide)
theorem mul_pn {x : F} (h : x ≠ 0) (n : Int) (w : World) : Calls Tryd.prog 61 #[.int .u8 (powF x n).toNat, .int .u8 (powF x (-n)).toNat] w fun e w' => e = .returned (.int .u8 1) ∧ w = w' := by
  have := mul_F (powF x n) (powF x (-n)) w
  rw [powF_neg h, show (((1 : F).toNat : Nat) : Int) = 1 from rfl] at this
  exact this
theorem tmod_bd (n : Int) : -1099511627776 < n.tmod 1099511627776 ∧ n.tmod 1099511627776 < 1099511627776 :=
  ⟨by
    by_cases h : 0 ≤ n
    · rw [Int.tmod_eq_emod_of_nonneg h]; omega
    · have e : n.tmod 1099511627776 = -((-n) % 1099511627776) := by
        rw [← Int.tmod_eq_emod_of_nonneg (by omega), Int.neg_tmod, Int.neg_neg]
      rw [e]; omega, Int.tmod_lt_of_pos _ (by decide)⟩
end Go.Proofs.YtkoakingmnjdoabDoor

/- What the document's own product of package gf's chapter comes to: polynomials multiplied bit by bit and reduced agree with the product by doubling; no program is spoken of. -/
namespace Go.Proofs.YtkoakingmnjdoabDoor.Gf
set_option maxRecDepth 20000
def cl (a b : Nat) : Nat → Nat
  | 0 => 0
  | i + 1 => cl a b i ^^^ (a / 2 ^ i % 2 * (b * 2 ^ i))
def clIn (a b i j : Nat) : Nat := cl a b i ^^^ (a / 2 ^ i % 2 * (b % 2 ^ j * 2 ^ i))
def rdS (k q : Nat) : Nat := q ^^^ (q / 2 ^ (14 - k) % 2 * (285 * 2 ^ (6 - k)))
def rd (p : Nat) : Nat → Nat
  | 0 => p
  | k + 1 => rdS k (rd p k)
theorem rdS_xor (k x y : Nat) : rdS k (x ^^^ y) = rdS k x ^^^ rdS k y := by
  unfold rdS
  rw [bit_xor, bit_mul _ _ _ (Nat.mod_lt _ (by decide)) (Nat.mod_lt _ (by decide))]
  ac_rfl
theorem rd_xor (x y : Nat) : ∀ k, rd (x ^^^ y) k = rd x k ^^^ rd y k
  | 0 => rfl
  | k + 1 => by simp only [rd]; rw [rd_xor x y k, rdS_xor]
theorem rd_zero : rd 0 7 = 0 := by decide +kernel
theorem rd_base : ∀ b < 256, ∀ i < 8, rd (b * 2 ^ i) 7 = aTo b i := by decide +kernel
theorem rd_cl' (a b : Nat) (hb : b < 256) : ∀ i, i ≤ 8 → rd (cl a b i) 7 = pTo b a i
  | 0, _ => rd_zero
  | i + 1, h => by
    simp only [cl, pTo]
    rw [rd_xor, rd_cl' a b hb i (by omega)]
    have e : a / 2 ^ i % 2 = 0 ∨ a / 2 ^ i % 2 = 1 := by omega
    rcases e with e | e <;> rw [e]
    · rw [Nat.zero_mul, Nat.zero_mul, rd_zero]
    · rw [Nat.one_mul, Nat.one_mul, rd_base b hb i (by omega)]
theorem rd_cl (x y : F) : rd (cl x.toNat y.toNat 8) 7 = (gm x y).toNat := by
  rw [rd_cl' _ _ (bl y) 8 (Nat.le_refl _), F.mul_comm, F.val_mul]; rfl
theorem xor_lt {a b n : Nat} (ha : a < 2 ^ n) (hb : b < 2 ^ n) : a ^^^ b < 2 ^ n := Nat.xor_lt_two_pow ha hb
theorem sh_lt : ∀ b < 256, ∀ i < 8, b * 2 ^ i < 2 ^ 15 := by decide +kernel
theorem bit_lt {x n : Nat} (a : Nat) (h : x < 2 ^ n) : a % 2 * x < 2 ^ n := by
  have e : a % 2 = 0 ∨ a % 2 = 1 := by omega
  rcases e with e | e <;> rw [e] <;> omega
theorem cl_lt (a : Nat) {b : Nat} (hb : b < 256) : ∀ i, i ≤ 8 → cl a b i < 2 ^ 15
  | 0, _ => Nat.two_pow_pos 15
  | i + 1, h => xor_lt (cl_lt a hb i (by omega)) (bit_lt _ (sh_lt b hb i (by omega)))
theorem clIn_lt (a : Nat) {b : Nat} (hb : b < 256) (i j : Nat) (hi : i < 8) : clIn a b i j < 2 ^ 15 :=
  xor_lt (cl_lt a hb i (by omega)) (bit_lt _ (sh_lt _ (Nat.lt_of_le_of_lt (Nat.mod_le _ _) hb) i hi))
theorem rdS_lt (k : Nat) {q : Nat} (h : q < 2 ^ 15) (hk : k < 7) : rdS k q < 2 ^ 15 := by
  refine xor_lt h (bit_lt _ ?_)
  have : k = 0 ∨ k = 1 ∨ k = 2 ∨ k = 3 ∨ k = 4 ∨ k = 5 ∨ k = 6 := by omega
  rcases this with rfl | rfl | rfl | rfl | rfl | rfl | rfl <;> decide
theorem rd_lt {p : Nat} (h : p < 2 ^ 15) : ∀ k, k ≤ 7 → rd p k < 2 ^ 15
  | 0, _ => h
  | k + 1, hk => rdS_lt k (rd_lt h k (by omega)) (by omega)
theorem in_bit : ∀ b < 256, ∀ i < 8, ∀ j < 8, b / 2 ^ j % 2 = 1 → b % 2 ^ (j + 1) * 2 ^ i = (b % 2 ^ j * 2 ^ i) ^^^ 2 ^ (i + j) := by decide +kernel
theorem clIn_zero (a b i : Nat) : clIn a b i 0 = cl a b i := by simp [clIn, Nat.mod_one]
theorem clIn_end (a : Nat) {b : Nat} (hb : b < 256) (i : Nat) : clIn a b i 8 = cl a b (i + 1) := by
  unfold clIn; rw [Nat.mod_eq_of_lt (by omega : b < 2 ^ 8)]; rfl
theorem clIn_yes {a b i j : Nat} (hb : b < 256) (hi : i < 8) (hj : j < 8) (h1 : a / 2 ^ i % 2 = 1) (h2 : b / 2 ^ j % 2 = 1) : clIn a b i (j + 1) = clIn a b i j ^^^ 2 ^ (i + j) := by
  unfold clIn; rw [h1, Nat.one_mul, Nat.one_mul, in_bit b hb i hi j hj h2, Nat.xor_assoc]
theorem clIn_no1 {a b i j : Nat} (h1 : a / 2 ^ i % 2 = 0) : clIn a b i (j + 1) = clIn a b i j := by
  unfold clIn; rw [h1, Nat.zero_mul, Nat.zero_mul]
theorem clIn_no2 {a b i j : Nat} (h2 : b / 2 ^ j % 2 = 0) : clIn a b i (j + 1) = clIn a b i j := by
  unfold clIn; rw [Nat.pow_succ, Nat.mod_mul, h2, Nat.mul_zero, Nat.add_zero]
end Go.Proofs.YtkoakingmnjdoabDoor.Gf

/- What the document's own Mul, Inv, Div, Pow and Log of package gf's chapter return, of all elements and numbers: the same as package gf's. -/
namespace Go.Proofs.YtkoakingmnjdoabDoor
open Go.RowKit Gf
set_option maxRecDepth 20000
theorem i64_xor_nat (a b : Nat) (ha : a < 2 ^ 15) (hb : b < 2 ^ 15) : bits .xor .i64 (a : Int) (b : Int) = ((a ^^^ b : Nat) : Int) := by
  have hx : a ^^^ b < 2 ^ 15 := Nat.xor_lt_two_pow ha hb
  show IntKind.i64.wrap ((BitVec.ofInt 64 (a : Int) ^^^ BitVec.ofInt 64 (b : Int)).toNat : Int) = _
  rw [BitVec.ofInt_natCast, BitVec.ofInt_natCast, BitVec.toNat_xor, BitVec.toNat_ofNat, BitVec.toNat_ofNat, Nat.mod_eq_of_lt (by omega), Nat.mod_eq_of_lt (by omega), IntKind.wrap_i64]
  omega
theorem u8_and1 (m k : Nat) (hm : m < 256) : bits .and .u8 ((m : Int) / 2 ^ k) 1 = ((m / 2 ^ k % 2 : Nat) : Int) := by
  have e : ((m : Int) / 2 ^ k) = ((m / 2 ^ k : Nat) : Int) := by norm_cast
  have hd : m / 2 ^ k < 256 := Nat.lt_of_le_of_lt (Nat.div_le_self _ _) hm
  rw [e, show (1 : Int) = ((1 : Nat) : Int) from rfl, u8_and_nat _ _ hd (by decide), Nat.and_one_is_mod]
theorem bit_yes {m k : Nat} (hm : m < 256) (h : m / 2 ^ k % 2 = 1) : (bits .and .u8 ((m : Int) / 2 ^ k) 1 == 1) = true := by rw [u8_and1 m k hm, h]; rfl
theorem bit_no {m k : Nat} (hm : m < 256) (h : m / 2 ^ k % 2 = 0) : (bits .and .u8 ((m : Int) / 2 ^ k) 1 == 1) = false := by rw [u8_and1 m k hm, h]; rfl
theorem wrap_pow {n : Nat} (h : n < 15) : wrap64 ((2 : Int) ^ n) = ((2 ^ n : Nat) : Int) := by
  have e : (2 : Int) ^ n = ((2 ^ n : Nat) : Int) := by norm_cast
  have l : 2 ^ n ≤ 2 ^ 14 := Nat.pow_le_pow_right (by decide) (by omega)
  rw [e]; generalize 2 ^ n = t at l; unfold wrap64; omega
theorem cl_step {a b i j : Nat} (hb : b < 256) (hi : i < 8) (hj : j < 8) (h1 : a / 2 ^ i % 2 = 1) (h2 : b / 2 ^ j % 2 = 1) :
    bits .xor .i64 ((clIn a b i j : Nat) : Int) (wrap64 (2 ^ (i + j))) = ((clIn a b i (j + 1) : Nat) : Int) := by
  rw [wrap_pow (by omega), i64_xor_nat _ _ (clIn_lt a hb i j hi) (Nat.pow_lt_pow_right (by decide) (by omega)), clIn_yes hb hi hj h1 h2]
theorem i64_bit (q m : Nat) (hq : q < 2 ^ 15) : bits .and .i64 ((q : Int) / 2 ^ m) 1 = ((q / 2 ^ m % 2 : Nat) : Int) := by
  have e : ((q : Int) / 2 ^ m) = ((q / 2 ^ m : Nat) : Int) := by norm_cast
  have hd : q / 2 ^ m ≤ q := Nat.div_le_self _ _
  rw [e]
  have h := bits_mask .i64 62 (by decide) (fun n a b => by rw [IntKind.wrap_i64]; omega) 1 (by decide) ((q / 2 ^ m : Nat) : Int) (Int.natCast_nonneg _) (by omega)
  simpa using h
theorem rd_yes {p m : Nat} (hp : p < 2 ^ 15) (h8 : 8 ≤ m) (h14 : m ≤ 14) (h : rd p (14 - m) / 2 ^ m % 2 = 1) :
    bits .xor .i64 ((rd p (14 - m) : Nat) : Int) (wrap64 (285 * 2 ^ (m - 8))) = ((rd p (14 - m + 1) : Nat) : Int) := by
  have hr := rd_lt hp (14 - m) (by omega)
  have e : wrap64 (285 * 2 ^ (m - 8)) = ((285 * 2 ^ (m - 8) : Nat) : Int) ∧ 285 * 2 ^ (m - 8) < 2 ^ 15 := by
    have : m = 8 ∨ m = 9 ∨ m = 10 ∨ m = 11 ∨ m = 12 ∨ m = 13 ∨ m = 14 := by omega
    rcases this with rfl | rfl | rfl | rfl | rfl | rfl | rfl <;> decide +kernel
  rw [e.1, i64_xor_nat _ _ hr e.2]
  simp only [rd, rdS]
  rw [show 14 - (14 - m) = m from by omega, h, Nat.one_mul, show 6 - (14 - m) = m - 8 from by omega]
theorem rd_no {p m : Nat} (h14 : m ≤ 14) (h : rd p (14 - m) / 2 ^ m % 2 = 0) : rd p (14 - m) = rd p (14 - m + 1) := by
  simp only [rd, rdS]
  rw [show 14 - (14 - m) = m from by omega, h, Nat.zero_mul, Nat.xor_zero]
theorem f_eq1_no {x : F} (h : x ≠ 1) : ((x.toNat : Int) == 1) = false := eqv_no h
theorem f_eq1_yes {x : F} (h : x = 1) : ((x.toNat : Int) == 1) = true := eqv_yes h
end Go.Proofs.YtkoakingmnjdoabDoor

/- What the document's own One, Transpose and Product of package mat's chapter answer, of all matrices in form; nothing that was there turns. -/
namespace Go.Proofs.YtkoakingmnjdoabDoor
open Go.RowKit Gf
set_option linter.unusedVariables false
set_option maxRecDepth 20000
/-- a grid, made row by row, as far as place j of row i -/
def gridP (c : Nat) (f : Nat → Nat → F) (r i j : Nat) : List F := grid c (fun a b => if a < i ∨ a = i ∧ b < j then f a b else 0) r
theorem gridP_len (c : Nat) (f : Nat → Nat → F) (r i j : Nat) : (gridP c f r i j).length = r * c := grid_len _ _ _
theorem gridP_zero (c : Nat) (f : Nat → Nat → F) (r : Nat) : zeros (r * c) = gridP c f r 0 0 := by rw [zeros_grid]; exact grid_congr fun i j _ _ => by rw [if_neg (by omega)]
theorem gridP_done (c : Nat) (f : Nat → Nat → F) (r : Nat) : gridP c f r r 0 = grid c f r := grid_congr fun a b h _ => by rw [if_pos (by omega)]
theorem gridP_row (c : Nat) (f : Nat → Nat → F) (r i : Nat) : gridP c f r i c = gridP c f r (i + 1) 0 := grid_congr fun a b _ h => by
  by_cases e : a < i + 1
  · rw [if_pos (by omega), if_pos (by omega)]
  · rw [if_neg (by omega), if_neg (by omega)]
theorem gridP_step {c r i j : Nat} {f : Nat → Nat → F} (hi : i < r) (hj : j < c) : (gridP c f r i j).set (i * c + j) (f i j) = gridP c f r i (j + 1) := by
  rw [gridP, grid_set hi hj]
  refine grid_congr fun a b ha hb => ?_
  by_cases e : a = i ∧ b = j
  · rw [if_pos e, if_pos (by omega), e.1, e.2]
  · rw [if_neg e]
    by_cases e2 : a < i ∨ a = i ∧ b < j
    · rw [if_pos e2, if_pos (by omega)]
    · rw [if_neg e2, if_neg (by omega)]
theorem grownBy_drewN {w w' : World} {r : Option Nat} (h : w.grownBy w' r) : ∀ n, w.grownBy (w'.drewN n) r
  | 0 => h
  | n + 1 => grownBy_drew (grownBy_drewN h n)
theorem row8_get {w : World} {a : Option Addr} {xs : List F} {j : Nat} (h : Row8 w a xs) (hj : j < xs.length) : ∃ b off, a = some ⟨b, off, none⟩ ∧ b < w.heap.size ∧ ∀ i, i < xs.length → w.cell? ⟨b, off + i, none⟩ = some (.int .u8 ((at8 xs i).toNat : Int)) := by
  rcases h with e | ⟨b, off, rfl, h⟩
  · rw [e] at hj; simp at hj
  · have := World.block_lt_of_cell? w _ (h j hj)
    exact ⟨b, off, rfl, by simpa using this, h⟩
end Go.Proofs.YtkoakingmnjdoabDoor

/- What the document's own Of and Row of package mat's chapter answer; nothing that was there turns. -/
namespace Go.Proofs.YtkoakingmnjdoabDoor
open Go.RowKit Gf
set_option linter.unusedVariables false
set_option maxRecDepth 20000
/-- bytes laid behind a list of one's own, whatever they are -/
theorem appendB {w : World} {B n m c : Nat} {v : Value} {zs ys : List F} {a : Option Addr} (ty : TypeId) (ho : w.ownsRow B 5 1 v n (zs.map vf)) (hm : m = ys.length) (hb : n + m ≤ 1000000) (hy : Row8 w a ys) (hnil : a = none → c = 0) (hB : B ≤ w.heap.size) :
    ∃ v' w', (Builtin.append_ #[22, 22] ty #[v, .slice a m c]).run Tryd.prog w = .ok v' w' ∧ w'.ownsRow B 5 1 v' (n + m) ((zs ++ ys).map vf) ∧ w.grownBy w' v.ownBlock := by
  obtain ⟨i, hi, h1, h2, h3⟩ := info8
  rcases hy with rfl | ⟨b, off, rfl, hy⟩
  · obtain rfl : m = 0 := hm
    cases a with
    | none =>
      obtain rfl := hnil rfl
      refine ⟨v, w, ?_, by simpa using ho, grownBy_refl _ _⟩
      rcases ho.2 with ⟨rfl, rfl⟩ | ⟨g, cap, cur, rfl, _, hg, hle, _⟩
      · simp [Builtin.append_, run_underlying Tryd.underlying22, sizeOf, typeInfo, hi, Builtin.lenOf, Builtin.firstCells]
      · simp [Builtin.append_, run_underlying Tryd.underlying22, sizeOf, typeInfo, hi, Builtin.lenOf, Builtin.firstCells, loadCells, hle, storeCells]
    | some ad =>
      obtain ⟨v', w', h4, h5, h6, _⟩ := run_append_own_at (P := Tryd.prog) w B 22 ty 5 i _ 1 1 Tryd.underlying22 hi h3 h1 h2 rfl (by decide) v n _ ho ad 0 c [] rfl (fun j u h => by simp at h) (fun u h => by cases h) (by simp only [maxLen]; omega) (by omega) hB
      exact ⟨v', w', h4, by simpa using h5, h6⟩
  · obtain ⟨v', w', h4, h5, h6, _⟩ := run_append_own_at (P := Tryd.prog) w B 22 ty 5 i _ 1 1 Tryd.underlying22 hi h3 h1 h2 rfl (by decide) v n _ ho ⟨b, off, none⟩ m c (ys.map vf) (by rw [List.length_map]; omega)
      (fun j u hv => by
        simp only [List.getElem?_map, Option.map_eq_some_iff] at hv
        obtain ⟨x, hx1, rfl⟩ := hv
        have hj : j < ys.length := (List.getElem?_eq_some_iff.1 hx1).1
        have e : at8 ys j = x := by simp [at8, hx1]
        have hadd : (⟨b, off, none⟩ : Addr).add j = ⟨b, off + j, none⟩ := by unfold Addr.add; split <;> simp_all
        rw [hadd, hy j hj, e]; rfl) (fun u hv => by
        simp only [List.mem_map] at hv
        obtain ⟨x, _, rfl⟩ := hv
        rfl) (by simp only [maxLen]; omega) (by omega) hB
    exact ⟨v', w', h4, by rw [List.map_append]; exact h5, h6⟩
theorem ownB_slice {w : World} {B n : Nat} {v : Value} {zs : List F} (ho : w.ownsRow B 5 1 v n (zs.map vf)) : ∃ a cap, v = .slice a n cap ∧ Row8 w a zs ∧ n = zs.length ∧ (a = none → cap = 0) := by
  have hl := ho.1
  rw [List.length_map] at hl
  rcases ho.2 with ⟨rfl, e⟩ | ⟨g, cap, cur, rfl, h2⟩
  · exact ⟨none, 0, by rw [e], .inl (List.eq_nil_of_length_eq_zero (by omega)), by omega, fun _ => rfl⟩
  · refine ⟨_, _, rfl, .inr ⟨g, 0, rfl, fun j hj => ?_⟩, by omega, fun h => by cases h⟩
    rw [Nat.zero_add, ho.cellAt j (by omega), List.getElem?_map, List.getElem?_eq_getElem hj]
    simp [at8, hj, vf]
theorem own_mono {w : World} {B B' size n : Nat} {v : Value} {e : TypeId} {xs : List Value} (h : w.ownsRow B e size v n xs) (hb : B' ≤ B) : w.ownsRow B' e size v n xs :=
  ⟨h.1, h.2.imp id fun ⟨g, cap, cur, h1, h2, h3⟩ => ⟨g, cap, cur, h1, Nat.le_trans hb h2, h3⟩⟩
theorem rows_cap_later {w w' : World} {a : Option Addr} {L : List (List F)} (hX : Rows8 w a L) (hb : Below w.heap.size w w')
    (hcp : ∀ b off, a = some ⟨b, off, none⟩ → ∀ j n a' cap', w.cell? ⟨b, off + j, none⟩ = some (.slice a' n cap') → j < L.length → a' = none → cap' = 0) :
    ∀ b off, a = some ⟨b, off, none⟩ → ∀ j n a' cap', w'.cell? ⟨b, off + j, none⟩ = some (.slice a' n cap') → j < L.length → a' = none → cap' = 0 := by
  intro b off e j n a' cap' hc hj ha
  rcases hX with e0 | ⟨b2, off2, e2, hrows⟩
  · rw [e0] at hj; simp at hj
  · rw [e] at e2
    cases e2
    obtain ⟨a1, cap1, h1, _⟩ := hrows j _ (List.getElem?_eq_getElem hj)
    have h2 := cell_later hb h1
    rw [hc] at h2
    simp only [Option.some.injEq, Value.slice.injEq] at h2
    obtain ⟨q1, q2, q3⟩ := h2
    rw [q3]
    exact hcp b off e j _ a1 cap1 h1 hj (by rw [← q1]; exact ha)
end Go.Proofs.YtkoakingmnjdoabDoor

/- Facts for the statement MatPlaces: refusals of Take, two lists apart, the document's own Row, an append in a drawn region. -/
namespace Go.Proofs.YtkoakingmnjdoabDoor
open Go.RowKit Gf
set_option linter.unusedVariables false
set_option maxRecDepth 20000
set_option maxHeartbeats 1000000 in
theorem take_bad (r c : Int) (a an : Option Addr) (l cap ln cn : Nat) (w : World) (s : Addr) (hs : w.cell? ⟨5, 0, none⟩ = some (errAt s)) (h : ¬ (0 ≤ r ∧ r ≤ 64 ∧ 0 ≤ c ∧ c ≤ 64 ∧ (l : Int) = r * c)) :
    Calls Tryd.prog 29 #[.agg #[.int .i64 r, .int .i64 c, .slice a l cap], .slice an ln cn] w fun e w' => e = .returned (.tuple #[.agg #[.int .i64 0, .int .i64 0, .slice none 0 0], errAt s]) ∧ Below w.heap.size w w' := by
  have hlt := World.block_lt_of_cell? w _ hs
  simp at hlt
  have H : Hid _ := h
  clear h
  have HS : Hid _ := cell?_alloc_old (.cells #[.int .i64 0, .int .i64 0, .slice none 0 0] 42) (cell?_alloc_old (.cells #[.int .i64 r, .int .i64 c, .slice a l cap] 42) hs)
  unfold errAt at *
  go_enter Tryd.func29, Tryd.ntmps29
  go_wp2_with fail
  refine Calls.mono (check_bad r c a l cap _ _ HS.out H.out) ?_
  rintro e w1 ⟨rfl, hb1⟩
  have k1 := heap_later (heap_alloc2_new w (.cells #[.int .i64 r, .int .i64 c, .slice a l cap] 42) (.cells #[.int .i64 0, .int .i64 0, .slice none 0 0] 42)) hb1
  have c4 := cellAt k1 0 _ rfl
  have c5 := cellAt k1 1 _ rfl
  have c6 := cellAt k1 2 _ rfl
  have d4 : w1.frozen? ⟨w.heap.size + 1, 0, none⟩ = false := frozen_of_row _ _ _ _ _ k1
  have d5 : w1.frozen? ⟨w.heap.size + 1, 1, none⟩ = false := frozen_of_row _ _ _ _ _ k1
  have d6 : w1.frozen? ⟨w.heap.size + 1, 2, none⟩ = false := frozen_of_row _ _ _ _ _ k1
  have c9 := cell_later hb1 HS.out
  have HB1 : Hid (Below w.heap.size w w1) := (((Below.refl w.heap.size w).alloc (Nat.le_refl _) _).alloc (by simp) _).trans (hb1.mono (by simp; omega))
  clear hb1 k1
  go_wp2
  go_region
  go_wp2
  refine bodyPost_ret (v := .tuple #[.agg #[.int .i64 0, .int .i64 0, .slice none 0 0], .iface 102 (.pointer (some s))]) (by simp [results, Tryd.results29, go_sem, c4, c5, c6]) rfl ⟨rfl, ?_⟩
  exact (((HB1.out.setCell (by simp) _).setCell (by simp) _).setCell (by simp) _).drew
set_option maxHeartbeats 1000000 in
theorem take_long (r c : Nat) (a an : Option Addr) (l cap ln cn : Nat) (w : World) (s : Addr) (hs : w.cell? ⟨5, 0, none⟩ = some (errAt s)) (hr : r ≤ 64) (hc : c ≤ 64) (hl : l = r * c) (hn : 64 < ln) :
    Calls Tryd.prog 29 #[.agg #[.int .i64 r, .int .i64 c, .slice a l cap], .slice an ln cn] w fun e w' => e = .returned (.tuple #[.agg #[.int .i64 0, .int .i64 0, .slice none 0 0], errAt s]) ∧ Below w.heap.size w w' := by
  have hlt := World.block_lt_of_cell? w _ hs
  simp at hlt
  have HL : Hid _ := hl
  clear hl
  have HS : Hid _ := cell?_alloc_old (.cells #[.int .i64 0, .int .i64 0, .slice none 0 0] 42) (cell?_alloc_old (.cells #[.int .i64 r, .int .i64 c, .slice a l cap] 42) hs)
  unfold errAt at *
  go_enter Tryd.func29, Tryd.ntmps29
  go_wp2_with fail
  refine Calls.mono (check_ok r c a l cap _ hr hc HL.out) ?_
  rintro e w1 ⟨rfl, hb1⟩
  have k1 := heap_later (heap_alloc2_new w (.cells #[.int .i64 r, .int .i64 c, .slice a l cap] 42) (.cells #[.int .i64 0, .int .i64 0, .slice none 0 0] 42)) hb1
  have c4 := cellAt k1 0 _ rfl
  have c5 := cellAt k1 1 _ rfl
  have c6 := cellAt k1 2 _ rfl
  have d4 : w1.frozen? ⟨w.heap.size + 1, 0, none⟩ = false := frozen_of_row _ _ _ _ _ k1
  have d5 : w1.frozen? ⟨w.heap.size + 1, 1, none⟩ = false := frozen_of_row _ _ _ _ _ k1
  have d6 : w1.frozen? ⟨w.heap.size + 1, 2, none⟩ = false := frozen_of_row _ _ _ _ _ k1
  have c9 := cell_later hb1 HS.out
  have HB1 : Hid (Below w.heap.size w w1) := (((Below.refl w.heap.size w).alloc (Nat.le_refl _) _).alloc (by simp) _).trans (hb1.mono (by simp; omega))
  clear hb1 k1
  go_wp2
  go_region
  go_wp2
  refine bodyPost_ret (v := .tuple #[.agg #[.int .i64 0, .int .i64 0, .slice none 0 0], .iface 102 (.pointer (some s))]) (by simp [results, Tryd.results29, go_sem, c4, c5, c6]) rfl ⟨rfl, ?_⟩
  exact (((HB1.out.setCell (by simp) _).setCell (by simp) _).setCell (by simp) _).drew

theorem wanted_append_run {P : Program} {w : World} {o : Oper} {a : Act} {K : Act → World → Prop} {Q : Exit → Act → World → Prop} {ys : Nat → Option Bool} {L : Prop} (hgd : o.guard = none) (s x : Operand) (t : TypeId)
    (ho : o.op = .call { callee := .builtin .append, args := #[s, x], argTypes := #[t, t] }) (v u r : Value) (w' : World) (hs : a.eval s = v) (hx : a.eval x = u)
    (hr : (Builtin.append_ #[t, t] o.type #[v, u]).run P w = .ok r w') (h : K (a.put o.dst r) w') : if Region.wanted o ys = true then Oper.wp P o a w K Q else L := by
  rw [if_pos (by simp [Region.wanted, hgd])]
  unfold Oper.wp execOp
  simp only [ho, resolve, invoke, builtin, Sem.run_bind, Sem.run_pure, Result.andThen_ok, List.map_toArray, List.map_cons, List.map_nil, hs, hx, hr]
  exact h
theorem kind_ne {w : World} {a b : Nat} {cs ds : Array Value} {t u : TypeId} {f1 f2 : Nat × Nat} (h1 : w.heap[a]? = some (.cells cs t f1)) (h2 : w.heap[b]? = some (.cells ds u f2)) (h : t ≠ u) : a ≠ b := fun e => by
  subst e; rw [h1] at h2; cases h2; exact h rfl
theorem grown_some {w w' : World} (g : Nat) (h : w.grownBy w' none) : w.grownBy w' (some g) := ⟨h.os, h.tape, h.output, h.size, fun k hk _ => h.block k hk (by simp)⟩
theorem grown_keep {w w' : World} {r : Option Nat} {k : Nat} {o : Obj} (h : w.grownBy w' r) (hk : w.heap[k]? = some o) (hne : some k ≠ r) : w'.heap[k]? = some o := (h.block k (Array.getElem?_eq_some_iff.1 hk).1 hne).trans hk

theorem has8_take {w : World} {g cap : Nat} {xs : List F} (h : Has8 w g xs cap) (m : Nat) : Has8 w g (xs.take m) cap := by
  obtain ⟨cur, hg, hs, hl, hm, ht⟩ := h
  refine ⟨cur, hg, hs, by rw [List.length_take]; omega, hm, ?_⟩
  rw [List.map_take, ← ht, List.take_take, List.length_take]
theorem row8_grown {w w' : World} {r : Option Nat} {g : Nat} {xs : List F} (h : Row8 w (some ⟨g, 0, none⟩) xs) (hb : w.grownBy w' r) (hg : g < w.heap.size) (hne : some g ≠ r) : Row8 w' (some ⟨g, 0, none⟩) xs := by
  rcases h with e | ⟨b, off, e, h⟩
  · exact .inl e
  · cases e
    refine .inr ⟨g, 0, rfl, fun j hj => ?_⟩
    rw [← h j hj]
    simp only [World.cell?, hb.block g hg hne]
theorem append8_both {w : World} {g n cap : Nat} {xs ys : List F} {ad : Addr} {m c : Nat} (ty : TypeId) (h : Has8 w g xs cap) (hn : n = xs.length) (hm : m = ys.length) (hb : n + m ≤ 140737488355328)
    (hy : ∀ j, j < ys.length → w.cell? (ad.add j) = some (.int .u8 ((at8 ys j).toNat : Int))) :
    ∃ g' cap' w', (Builtin.append_ #[22, 22] ty #[.slice (some ⟨g, 0, none⟩) n cap, .slice (some ad) m c]).run Tryd.prog w = .ok (.slice (some ⟨g', 0, none⟩) (n + m) cap') w' ∧
      Has8 w' g' (xs ++ ys) cap' ∧ w.grownBy w' (some g) ∧ (g' = g ∨ w.heap.size ≤ g' ∧ w.grownBy w' none) := by
  by_cases hroom : n + m ≤ cap
  · subst hn hm
    obtain ⟨i, hi, h1, h2, h3⟩ := info8
    obtain ⟨cur, hg, hs, hl, hmx, ht⟩ := h
    have hown : w.ownsRow 0 5 1 (.slice (some ⟨g, 0, none⟩) xs.length cap) xs.length (xs.map vf) :=
      ⟨by simp, .inr ⟨g, cap, cur, rfl, Nat.zero_le _, hg, hl, hmx, by omega, by rw [Nat.mul_one]; exact ht⟩⟩
    obtain ⟨w', hrun, ho, hgr⟩ := run_append_fits (P := Tryd.prog) w 0 22 ty 5 i 1 Tryd.underlying22 hi h1 g xs.length cap _ hown ad ys.length c (ys.map vf) (by simp) (fun j v hv => by
        simp only [List.getElem?_map, Option.map_eq_some_iff] at hv
        obtain ⟨x, hx1, rfl⟩ := hv
        have hj : j < ys.length := (List.getElem?_eq_some_iff.1 hx1).1
        have e : at8 ys j = x := by simp [at8, hx1]
        rw [hy j hj, e]; rfl) (fun v hv => by
        simp only [List.mem_map] at hv
        obtain ⟨x, _, rfl⟩ := hv
        rfl) hroom
    rcases ho.2 with ⟨hv, _⟩ | ⟨g', cap', cur', hv, _, hg', hl', hm', hs', ht'⟩
    · cases hv
    · cases hv
      exact ⟨g, cap, w', hrun, ⟨cur', hg', by omega, by simpa using hl', hm', by rw [List.length_append, List.map_append, ← ht', Nat.mul_one]⟩, hgr, .inl rfl⟩
  · obtain ⟨g', cap', w', h1, h2, h3, h4⟩ := append8_grows (cap := cap) (m := m) (c := c) ty (row8_has h) hn hm (by omega) hb hy
    exact ⟨g', cap', w', h1, h2, ⟨h3.os, h3.tape, h3.output, h3.size, fun k hk _ => h3.block k hk (by simp)⟩, .inr ⟨h4, h3⟩⟩
/-- the second list nil -/
theorem append8_nil (w : World) {ys : List F} {ad : Addr} {m c : Nat} (ty : TypeId) (hm : m = ys.length) (h0 : 0 < m) (hb : m ≤ 140737488355328)
    (hy : ∀ j, j < ys.length → w.cell? (ad.add j) = some (.int .u8 ((at8 ys j).toNat : Int))) :
    ∃ g' cap' w', (Builtin.append_ #[22, 22] ty #[.slice none 0 0, .slice (some ad) m c]).run Tryd.prog w = .ok (.slice (some ⟨g', 0, none⟩) m cap') w' ∧
      Has8 w' g' ys cap' ∧ w.grownBy w' none ∧ w.heap.size ≤ g' := by
  subst hm
  obtain ⟨i, hi, h1, h2, h3⟩ := info8
  obtain ⟨v', w', hrun, ho, hgr, hnil, hat⟩ := run_append_own_at (P := Tryd.prog) w w.heap.size 22 ty 5 i _ 1 1 Tryd.underlying22 hi h3 h1 h2 rfl (by decide)
    (.slice none 0 0) 0 [] ⟨rfl, .inl ⟨rfl, rfl⟩⟩ ad ys.length c (ys.map vf) (by simp) (fun j v hv => by
      simp only [List.getElem?_map, Option.map_eq_some_iff] at hv
      obtain ⟨x, hx1, rfl⟩ := hv
      have hj : j < ys.length := (List.getElem?_eq_some_iff.1 hx1).1
      have e : at8 ys j = x := by simp [at8, hx1]
      rw [hy j hj, e]; rfl) (fun v hv => by
      simp only [List.mem_map] at hv
      obtain ⟨x, _, rfl⟩ := hv
      rfl) (by simp only [maxLen]; omega) (by omega) (Nat.le_refl _)
  rcases ho.2 with ⟨hv, hn⟩ | ⟨g', cap', cur', hv, hg, hg', hl', hm', hs', ht'⟩
  · have := (hnil.1 hv).2
    omega
  · subst hv
    refine ⟨g', cap', w', by rw [hrun, Nat.zero_add], ⟨cur', hg', by omega, by simpa using hl', hm', ?_⟩, hgr, hg⟩
    rw [← List.nil_append (ys.map vf), ← ht', Nat.mul_one, Nat.zero_add]
end Go.Proofs.YtkoakingmnjdoabDoor

/- What combine of package code answers, of all matrices in form and as many lists of one size as columns; nothing that was there turns. -/
namespace Go.Proofs.YtkoakingmnjdoabDoor
open Go.RowKit Gf
set_option linter.unusedVariables false
set_option maxRecDepth 20000
/-- lists as values, each in a block of its own -/
def rowsP (H : Nat) (gs : List (Nat × Nat)) : List Value := gs.map fun p => .slice (some ⟨p.1, 0, none⟩) H p.2
theorem rowsP_len (H : Nat) (gs : List (Nat × Nat)) : (rowsP H gs).length = gs.length := by simp [rowsP]
theorem rowsP_snoc (H : Nat) (gs : List (Nat × Nat)) (g cap : Nat) : rowsP H gs ++ [.slice (some ⟨g, 0, none⟩) H cap] = rowsP H (gs ++ [(g, cap)]) := by simp [rowsP]
theorem rowsP_at {H i : Nat} {gs : List (Nat × Nat)} {p : Nat × Nat} (h : gs[i]? = some p) : (rowsP H gs)[i]? = some (.slice (some ⟨p.1, 0, none⟩) H p.2) := by simp [rowsP, h]
/-- what row i of a combination is, byte by byte -/
def combL (c H : Nat) (xs : List F) (L : List (List F)) (i : Nat) : List F := rowF H (fun b => sumF (fun v => gm (at8 xs (i * c + v)) (bytesD L v b)) c)
theorem combL_len (c H : Nat) (xs : List F) (L : List (List F)) (i : Nat) : (combL c H xs L i).length = H := rowF_len _ _
/-- rows in blocks of their own, the later the higher -/
def RowsP (w : World) (B : Nat) (gs : List (Nat × Nat)) (f : Nat → List F) : Prop :=
  (∀ (i : Nat) (p : Nat × Nat), gs[i]? = some p → B ≤ p.1 ∧ Has8 w p.1 (f i) p.2) ∧ ∀ (i j : Nat) (p q : Nat × Nat), i < j → gs[i]? = some p → gs[j]? = some q → p.1 < q.1
theorem rowsP_nil (w : World) (B : Nat) (f : Nat → List F) : RowsP w B [] f := ⟨fun i p h => by simp at h, fun i j p q _ h => by simp at h⟩
theorem has8_later {w w' : World} {g cap : Nat} {xs : List F} (h : Has8 w g xs cap) (hb : Below w.heap.size w w') : Has8 w' g xs cap := by
  obtain ⟨cur, h1, h2⟩ := h
  exact ⟨cur, heap_later h1 hb, h2⟩
theorem has8_set_other {w : World} {g cap M j : Nat} {xs : List F} {v : Value} (h : Has8 w g xs cap) (hne : g ≠ M) : Has8 (w.setCell ⟨M, j, none⟩ v) g xs cap := by
  obtain ⟨cur, h1, h2⟩ := h
  exact ⟨cur, (heap_setCell_other _ _ _ _ hne).trans h1, h2⟩
theorem has8_lt {w : World} {g cap : Nat} {xs : List F} (h : Has8 w g xs cap) : g < w.heap.size := by
  obtain ⟨cur, h1, _⟩ := h
  exact ltHeap h1
theorem rowsP_below {w w' : World} {B : Nat} {gs : List (Nat × Nat)} {f : Nat → List F} (h : RowsP w B gs f) (hb : Below w.heap.size w w') : RowsP w' B gs f :=
  ⟨fun i p hp => ⟨(h.1 i p hp).1, has8_later (h.1 i p hp).2 hb⟩, h.2⟩
theorem rowsP_step {w w' : World} {B M g cap : Nat} {v : Value} {gs : List (Nat × Nat)} {f : Nat → List F} (h : RowsP w B gs f) (hb : Below w.heap.size w w') (hg : w.heap.size ≤ g) (hB : B ≤ g) (hM : M < w.heap.size) (hMg : ∀ (i : Nat) (p : Nat × Nat), gs[i]? = some p → p.1 ≠ M) (hr : Has8 w' g (f gs.length) cap) :
    RowsP (w'.setCell ⟨M, gs.length, none⟩ v) B (gs ++ [(g, cap)]) f := by
  refine ⟨fun i p hp => ?_, fun i j p q hij hp hq => ?_⟩
  · by_cases hi : i < gs.length
    · rw [List.getElem?_append_left hi] at hp
      exact ⟨(h.1 i p hp).1, has8_set_other (has8_later (h.1 i p hp).2 hb) (hMg i p hp)⟩
    · have e := (List.getElem?_eq_some_iff.1 hp).1
      simp at e
      obtain rfl : i = gs.length := by omega
      rw [List.getElem?_append_right (Nat.le_refl _), Nat.sub_self] at hp
      obtain rfl := Option.some.inj hp
      exact ⟨hB, has8_set_other hr (by show g ≠ M; omega)⟩
  · have ej := (List.getElem?_eq_some_iff.1 hq).1
    simp at ej
    rw [List.getElem?_append_left (by omega)] at hp
    by_cases hj : j < gs.length
    · rw [List.getElem?_append_left hj] at hq
      exact h.2 i j p q hij hp hq
    · obtain rfl : j = gs.length := by omega
      rw [List.getElem?_append_right (Nat.le_refl _), Nat.sub_self] at hq
      obtain rfl := Option.some.inj hq
      have := has8_lt (h.1 i p hp).2
      show p.1 < g
      omega
theorem rowsP_rows {w : World} {B M H R : Nat} {gs : List (Nat × Nat)} {f : Nat → List F} (h : RowsP w B gs f) (hl : gs.length = R) (hf : ∀ i, (f i).length = H) (hM : w.heap[M]? = some (.cells (slW (rowsP H gs) R) 22 (0, 0))) : Rows8 w (some ⟨M, 0, none⟩) ((List.range R).map f) := by
  refine .inr ⟨M, 0, rfl, fun j xs hj => ?_⟩
  have hjR : j < R := by have := (List.getElem?_eq_some_iff.1 hj).1; simpa using this
  rw [List.getElem?_map, List.getElem?_range hjR] at hj
  obtain rfl := Option.some.inj hj
  have hg : gs[j]? = some gs[j] := List.getElem?_eq_getElem (by omega)
  refine ⟨some ⟨gs[j].1, 0, none⟩, gs[j].2, ?_, row8_has (h.1 j _ hg).2⟩
  rw [Nat.zero_add, hf]
  exact cellAt hM j _ (slW_at (rowsP_at hg))
theorem comb_row {R c H i : Nat} {xs : List F} {L : List (List F)} (hi : i < R) (hL : L.length = c) (hLH : ∀ ys ∈ L, ys.length = H) : rowAt H (mulM c H xs L.flatten R) i = combL c H xs L i := by
  rw [mulM, rowAt_grid hi]
  refine rowF_congr fun b hb => sumF_congr fun v hv => ?_
  rw [bytesD, flat_at hLH (by omega) hb]
set_option maxHeartbeats 4000000 in
theorem ccomb_F (R c H l cap lh ch : Nat) (a ah : Option Addr) (xs : List F) (L : List (List F)) (w : World) (hR : R ≤ 64) (hc1 : 1 ≤ c) (hc : c ≤ 64) (hH : H ≤ 64) (hl : l = R * c) (hx : xs.length = R * c) (hcap : l ≤ cap) (hX : Row8 w a xs)
    (hlh : lh = c) (hL : L.length = c) (hLH : ∀ ys ∈ L, ys.length = H) (hLX : Rows8 w ah L) :
    Calls Tryd.prog 18 #[.agg #[.int .i64 R, .int .i64 c, .slice a l cap], .slice ah lh ch] w fun e w' => ∃ M gs, e = .returned (.tuple #[.slice (some ⟨M, 0, none⟩) R R, .nilIface]) ∧ w.heap.size ≤ M ∧ gs.length = R ∧
      w'.heap[M]? = some (.cells (slW (rowsP H gs) R) 22 (0, 0)) ∧ RowsP w' w.heap.size gs (combL c H xs L) ∧ Below w.heap.size w w' := by
  have HL : Hid (l = R * c) := hl
  have HX : Hid (xs.length = R * c) := hx
  have HRX : Hid (Row8 w a xs) := hX
  have HLL : Hid (L.length = c) := hL
  have HLH : Hid (∀ ys ∈ L, ys.length = H) := hLH
  have HLX : Hid (Rows8 w ah L) := hLX
  have HLc : Hid (lh = c) := hlh
  obtain ⟨b, off, rfl, hb0, hcl⟩ := rows8_at hLX (show 0 < L.length by omega)
  obtain ⟨a0, cap0, e0, -⟩ := hcl 0 _ (List.getElem?_eq_getElem (by omega))
  rw [hLH _ (List.getElem_mem _), Nat.add_zero] at e0
  have hlh0 : 0 < lh := by omega
  have hmk := run_makeS R hR
  rw [slW_nil] at hmk
  have hA := holds_new (holds_nil w) #[.int .i64 R, .int .i64 c, .slice a l cap] 42
  have HB1 : Hid (Below w.heap.size w (w.alloc (.cells #[.int .i64 R, .int .i64 c, .slice a l cap] 42))) := (Below.refl w.heap.size w).alloc (Nat.le_refl _) _
  have e1 := cell_later HB1.out e0
  have HA : Hid _ := hA
  clear hl hx hX hL hLH hLX hcl e0 hA hlh
  go_enter Tryd.func18, Tryd.ntmps18
  go_wp2_with fail
  refine Calls.mono (of_F H lh ch _ L _ hH (by have h1 := HLL.out; have h2 := HLc.out; omega) (by have := HLc.out; omega) HLH.out (rows8_below HLX.out HB1.out)) ?_
  rintro e w2 ⟨g2, n2, rfl, hn2, hg2, hh2, hb2⟩
  have HB2 : Hid (Below w.heap.size w w2) := HB1.out.trans (hb2.mono HB1.out.size)
  have HA2 : Hid _ := holds_cons (holds_later HA.out hb2) hh2
  have HN2 : Hid (n2 = lh * H) := hn2
  clear hb2 hh2 hn2 e1 HA HB1
  have c0 := cellAt (holds_at HA2.out 1 rfl) 0 _ rfl
  have c1 := cellAt (holds_at HA2.out 1 rfl) 1 _ rfl
  have c2 := cellAt (holds_at HA2.out 1 rfl) 2 _ rfl
  have HA3 : Hid _ := holds_new HA2.out #[.int .i64 lh, .int .i64 H, .slice (some ⟨g2, 0, none⟩) n2 n2] 42
  have HB3 : Hid _ := HB2.out.alloc HB2.out.size (.cells #[.int .i64 lh, .int .i64 H, .slice (some ⟨g2, 0, none⟩) n2 n2] 42)
  have z2 := ltHeap (holds_at HA2.out 1 rfl)
  have HFL : Hid (L.flatten.length = c * H) := by show _ = _; rw [flat_len HLH.out, HLL.out]
  clear HA2 HB2
  go_wp2_with fail
  obtain rfl : lh = c := HLc.out
  refine Calls.mono (product_F R lh H l cap n2 n2 a (some ⟨g2, 0, none⟩) xs L.flatten _ hR hc hH HL.out HX.out hcap (row8_below HRX.out HB3.out) HN2.out HFL.out (Nat.le_refl _) (holds_row HA3.out 1 rfl)) ?_
  rintro e w4 ⟨g4, n4, rfl, hn4, hg4, hh4, hb4⟩
  have HB4 : Hid (Below w.heap.size w w4) := HB3.out.trans (hb4.mono HB3.out.size)
  have HH4 : Hid (w4.heap[g4]? = some (.cells (vfs (mulM lh H xs L.flatten R)) 5 (0, 0))) := hh4
  have HN4 : Hid (n4 = R * H) := hn4
  clear hb4 hh4 hn4 c0 c1 c2 z2 HA3 HB3 hg2 hg4 HN2 HFL
  go_wp2
  have hz4 := HB4.out.size
  have hA5 := holds_new (holds_new (holds_cons (holds_nil w4) HH4.out) #[.int .i64 R, .int .i64 H, .slice (some ⟨g4, 0, none⟩) n4 n4] 42) (slW [] R) 22
  rw [World.size_alloc] at hA5
  have HB5 : Hid (Below w.heap.size w ((w4.alloc (.cells #[.int .i64 R, .int .i64 H, .slice (some ⟨g4, 0, none⟩) n4 n4] 42)).alloc (.cells (slW [] R) 22))) := (HB4.out.alloc hz4 _).alloc (by simp; omega) _
  have HA5 : Hid _ := hA5
  clear hA5 HB4 HH4 hmk
  generalize ((w4.alloc (.cells #[.int .i64 R, .int .i64 H, .slice (some ⟨g4, 0, none⟩) n4 n4] 42)).alloc (.cells (slW [] R) 22)) = W5 at *
  generalize hP : w4.heap.size = P at *
  generalize hM : P + 1 = M at *
  have hM0 : w.heap.size ≤ M := by omega
  have hPM : P ≠ M := by omega
  have hgM : g4 ≠ M := kind_ne (holds_at HA5.out 2 rfl) (holds_at HA5.out 0 rfl) (by decide)
  clear hP hM
  go_loopw [37] (fun i wr => ∃ j : Nat, ∃ gs : List (Nat × Nat), j ≤ R ∧ i = .int .i64 j ∧ gs.length = j ∧ Below w.heap.size w wr ∧
    Holds wr [(M, .cells (slW (rowsP H gs) R) 22 (0, 0)), (P, .cells #[.int .i64 R, .int .i64 H, .slice (some ⟨g4, 0, none⟩) n4 n4] 42 (0, 0)), (g4, .cells (vfs (mulM lh H xs L.flatten R)) 5 (0, 0))] ∧
    RowsP wr w.heap.size gs (combL lh H xs L)) (fun i _ => R - (intOf i).toNat)
  case atStart => exact ⟨0, [], by omega, rfl, rfl, HB5.out, HA5.out, rowsP_nil _ _ _⟩
  case round =>
    obtain ⟨j, gs, hj, rfl, hgs, hb, hh, hrows⟩ := hrel
    have HB : Hid _ := hb
    have HH : Hid _ := hh
    have HR : Hid (RowsP wr w.heap.size gs (combL lh H xs L)) := hrows
    have HGS : Hid (gs.length = j) := hgs
    clear hb hh hrows hgs
    by_cases hlt : j < R
    · have c0 := cellAt (holds_at HH.out 1 rfl) 0 _ rfl
      have c1 := cellAt (holds_at HH.out 1 rfl) 1 _ rfl
      have c2 := cellAt (holds_at HH.out 1 rfl) 2 _ rfl
      go_wp2_with fail
      refine Calls.mono (row_F R H n4 n4 j (some ⟨g4, 0, none⟩) (mulM lh H xs L.flatten R) _ hR hH HN4.out (mulM_len _ _ _ _ _) (Nat.le_refl _) (holds_row HH.out 2 rfl) (fun h => by cases h) hlt) ?_
      rintro e w6 ⟨a6, cap6, rfl, _, _, hg6, hb6⟩
      obtain ⟨g6, rfl, hg6, hr6⟩ := hg6 (by simp)
      rw [comb_row hlt HLL.out HLH.out] at hr6
      have hz := HB.out.size
      have hlM := ltHeap (holds_at HH.out 0 rfl)
      have hs6 := heap_later (holds_at HH.out 0 rfl) hb6
      have hg6M : g6 ≠ M := by omega
      have hS := HGS.out
      have c7 : w6.cell? ⟨M, j, none⟩ = some (.slice none 0 0) := cellAt hs6 j _ (by have e := slW_next (vs := rowsP H gs) (r := R) (by rw [rowsP_len, hS]; exact hlt); rwa [rowsP_len, hS] at e)
      have c8 : w6.frozen? ⟨M, j, none⟩ = false := frozen_of_row _ _ _ _ _ hs6
      have HRX' : Hid (RowsP (w6.setCell ⟨M, j, none⟩ (.slice (some ⟨g6, 0, none⟩) H cap6)) w.heap.size (gs ++ [(g6, cap6)]) (combL lh H xs L)) := by
        have := rowsP_step (v := .slice (some ⟨g6, 0, none⟩) H cap6) (M := M) (cap := cap6) HR.out hb6 hg6 (by omega) hlM (fun i p hp => by
          obtain ⟨cur, h1, _⟩ := (HR.out.1 i p hp).2
          exact kind_ne h1 (holds_at HH.out 0 rfl) (by decide)) (by rw [hS]; exact hr6)
        rwa [hS] at this
      have HT6 : Hid ((w6.setCell ⟨M, j, none⟩ (.slice (some ⟨g6, 0, none⟩) H cap6)).heap[M]? = some (.cells (slW (rowsP H (gs ++ [(g6, cap6)])) R) 22 (0, 0))) := by
        show _ = _
        have e := slW_set (.slice (some ⟨g6, 0, none⟩) H cap6) (vs := rowsP H gs) (r := R) (by rw [rowsP_len, hS]; exact hlt)
        rw [rowsP_len, hS, rowsP_snoc] at e
        rw [heap_setCell_same _ _ _ _ _ _ hs6, e]
      have hX0 := holds_later HH.out hb6
      have HHX : Hid (Holds (w6.setCell ⟨M, j, none⟩ (.slice (some ⟨g6, 0, none⟩) H cap6)) [(M, .cells (slW (rowsP H (gs ++ [(g6, cap6)])) R) 22 (0, 0)), (P, .cells #[.int .i64 R, .int .i64 H, .slice (some ⟨g4, 0, none⟩) n4 n4] 42 (0, 0)), (g4, .cells (vfs (mulM lh H xs L.flatten R)) 5 (0, 0))]) :=
        holds_cons (holds_cons (holds_cons (holds_nil _) ((heap_setCell_other _ _ _ _ hgM).trans (holds_at hX0 2 rfl))) ((heap_setCell_other _ _ _ _ hPM).trans (holds_at hX0 1 rfl))) HT6.out
      have HBX : Hid (Below w.heap.size w (w6.setCell ⟨M, j, none⟩ (.slice (some ⟨g6, 0, none⟩) H cap6))) := (HB.out.trans (hb6.mono HB.out.size)).setCell (by show w.heap.size ≤ M; omega) _
      clear hs6 hb6 hr6 hX0 c0 c1 c2 hS
      go_wp2
      exact ⟨⟨j + 1, gs ++ [(g6, cap6)], by omega, by go_num, by simp [HGS.out], HBX.out, HHX.out, HRX'.out⟩, by simp [intOf]; omega⟩
    · obtain rfl : j = R := by omega
      go_wp2
      go_ret2
      exact ⟨M, gs, rfl, hM0, HGS.out, holds_at HH.out 0 rfl, HR.out, HB.out⟩
end Go.Proofs.YtkoakingmnjdoabDoor

/- What small numbers in decimal, and names of halves, answer: the library's Itoa, nameOf, Name, Parse of package half, the document's own Number and Name; nothing that was there turns. -/
namespace Go.Proofs.YtkoakingmnjdoabDoor
open Go.RowKit Gf
set_option linter.unusedVariables false
set_option maxRecDepth 20000
/-- a number below a hundred in decimal -/
def numB (n : Nat) : List UInt8 := if n < 10 then [UInt8.ofNat (48 + n)] else [UInt8.ofNat (48 + n / 10), UInt8.ofNat (48 + n % 10)]
/-- bytes as a string -/
def strB (l : List UInt8) : ByteArray := ⟨l.toArray⟩
theorem numB_dec {n : Nat} (h : n < 100) : Lib.decDigits n = numB n := by
  by_cases h1 : n < 10
  · rw [Lib.decDigits_one h1, numB, if_pos h1]
  · rw [Lib.decDigits_two h1 h, numB, if_neg h1]
theorem small_ba (x : ByteArray) (l : List UInt8) (h : x.data.toList = l) : x = strB l := by
  subst h
  cases x
  simp [strB]
theorem extr_data (x : ByteArray) (i j : Nat) : (x.extract i j).data.toList = (x.data.toList.drop i).take (j - i) := by
  simp [ByteArray.data_extract]
/-- a half's name -/
def nameB (k h : Nat) : List UInt8 := (if h / 2 < k then 100 :: numB (h / 2) else 112 :: numB (h / 2 - k)) ++ [if h % 2 = 0 then 97 else 98]
theorem ab0 : (⟨#[97, 98]⟩ : ByteArray).extract 0 1 = strB [97] := by decide +kernel
theorem ab1 : (⟨#[97, 98]⟩ : ByteArray).extract 1 2 = strB [98] := by decide +kernel
theorem strB_app (a b : List UInt8) : strB a ++ strB b = strB (a ++ b) := by
  apply ByteArray.ext
  simp [strB]
theorem strB_size (l : List UInt8) : (strB l).size = l.length := by simp [strB, ByteArray.size]
theorem numB_size (n : Nat) : (strB (numB n)).size ≤ 2 := by
  rw [strB_size, numB]
  split <;> simp
theorem strB_one (c : UInt8) : (⟨#[c]⟩ : ByteArray) = strB [c] := rfl
theorem strB_nil : (⟨#[]⟩ : ByteArray) = strB [] := rfl
theorem strB_inj {a b : List UInt8} (h : strB a = strB b) : a = b := by
  have := congrArg (fun x => x.data.toList) h
  simpa [strB] using this
def dig (d : Nat) : UInt8 := UInt8.ofNat (48 + d)
theorem numB_one {n : Nat} (h : n < 10) : numB n = [dig n] := if_pos h
theorem numB_two {n : Nat} (h : ¬ n < 10) : numB n = [dig (n / 10), dig (n % 10)] := if_neg h
theorem strB_list (l : List UInt8) : (strB l).toList = l := by simp [strB]
theorem strB_some {l : List UInt8} (h : l ≠ []) : (strB l).toList.isEmpty = false := by rw [strB_list]; cases l with | nil => exact absurd rfl h | cons => rfl
theorem numB_ne (n : Nat) : numB n ≠ [] := by rw [numB]; split <;> simp
def emptyN : Value → Nat | .string b => if b.size = 0 then 1 else 0 | _ => 0
theorem vf_digit {d : Nat} (h : d < 10) : Value.int .u8 (48 + (d : Int)) = vf (dig d) := by
  have : (UInt8.ofNat (48 + d)).toNat = 48 + d := by rw [UInt8.toNat_ofNat']; omega
  simp only [vf, dig, this]
  simp
theorem conv_digit {d : Nat} (h : d < 10) (w : World) : (convert 22 9 (.slice (some ⟨w.heap.size, 0, none⟩) 1 1)).run Tryd.prog (w.alloc (.cells #[.int .u8 (48 + (d : Int))] 5)) = .ok (.string (strB [dig d])) (w.alloc (.cells #[.int .u8 (48 + (d : Int))] 5)) := by
  rw [vf_digit h]
  exact conv8 (xs := [dig d]) rfl (row8_own (heap_alloc_last w (.cells (vfs [dig d]) 5)))
end Go.Proofs.YtkoakingmnjdoabDoor

/- What Name and Parse of package half answer, at all numbers and texts; unlike halves have unlike names; nothing that was there turns. -/
namespace Go.Proofs.YtkoakingmnjdoabDoor
open Go.RowKit Gf
set_option linter.unusedVariables false
set_option maxRecDepth 20000
theorem strB_eq {a b : List UInt8} (h : a = b) : ((strB a).toList == (strB b).toList) = true := by rw [h]; exact beq_self_eq_true _
theorem strB_ne {a b : List UInt8} (h : ¬ a = b) : ((strB a).toList == (strB b).toList) = false := by rw [strB_list, strB_list]; exact beq_eq_false_iff_ne.2 h
theorem nameB_inj : ∀ k < 15, ∀ h < 32, ∀ j < 32, nameB k h = nameB k j → h = j := by decide +kernel
theorem nameB_len : ∀ k < 15, ∀ h < 32, 3 ≤ (nameB k h).length ∧ (nameB k h).length ≤ 4 := by decide +kernel
/-- which half a name is -/
def ParsedAs (k n : Nat) (l : List UInt8) (s : Addr) (v : Value) : Prop :=
  (∃ h : Nat, h < n ∧ nameB k h = l ∧ v = .tuple #[.int .i64 h, .nilIface]) ∨ (∀ h, h < n → nameB k h ≠ l) ∧ v = .tuple #[.int .i64 0, errAt s]
end Go.Proofs.YtkoakingmnjdoabDoor

/- What Row of package half answers, and Rows of numbers that aren't legal; alive of stage 5; nothing that was there turns. -/
namespace Go.Proofs.YtkoakingmnjdoabDoor
open Go.RowKit Gf
set_option linter.unusedVariables false
set_option maxRecDepth 20000
set_option maxHeartbeats 1000000 in
theorem hrows_bad (k r : Int) (w : World) (s : Addr) (hs : w.cell? ⟨0, 0, none⟩ = some (errAt s)) (hk0 : -9223372036854775808 ≤ k) (hk1 : k ≤ 9223372036854775807) (hr0 : -9223372036854775808 ≤ r) (hr1 : r ≤ 9223372036854775807) (h : ¬ LegalP k r) :
    Calls Tryd.prog 10 #[.int .i64 k, .int .i64 r] w fun e w' => e = .returned (.tuple #[.agg #[.int .i64 0, .int .i64 0, .slice none 0 0], errAt s]) ∧ Below w.heap.size w w' := by
  have HB0 : Hid _ := (Below.refl w.heap.size w).alloc (Nat.le_refl _) (.cells #[.int .i64 0, .int .i64 0, .slice none 0 0] 42)
  have HA0 : Hid _ := holds_new (holds_nil w) #[.int .i64 0, .int .i64 0, .slice none 0 0] 42
  have HS : Hid _ := cell_later HB0.out hs
  have H : Hid _ := h
  clear h hs
  unfold errAt at *
  go_enter Tryd.func10, Tryd.ntmps10
  go_wp2_with fail
  refine Calls.mono (generator_bad k r _ s HS.out hk0 hk1 hr0 hr1 H.out) ?_
  unfold errAt
  rintro e w1 ⟨rfl, hb1⟩
  have HA1 : Hid _ := holds_alloc (holds_later HA0.out hb1) (.cells #[.int .i64 0, .int .i64 0, .slice none 0 0] 42)
  have hB1 := HB0.out.trans (hb1.mono HB0.out.size)
  have HB1 : Hid _ := hB1.alloc hB1.size (.cells #[.int .i64 0, .int .i64 0, .slice none 0 0] 42)
  have zz := hb1.size
  have k2 := holds_at (holds_later HA0.out hb1) 0 rfl
  have d4 : w1.frozen? ⟨w.heap.size, 0, none⟩ = false := frozen_of_row _ _ _ _ _ k2
  have d5 : w1.frozen? ⟨w.heap.size, 1, none⟩ = false := frozen_of_row _ _ _ _ _ k2
  have d6 : w1.frozen? ⟨w.heap.size, 2, none⟩ = false := frozen_of_row _ _ _ _ _ k2
  have c4 := cellAt k2 0 _ rfl
  have c5 := cellAt k2 1 _ rfl
  have c6 := cellAt k2 2 _ rfl
  have z4 := ltHeap k2
  have hbX : Hid _ := hb1
  clear hb1 hB1 k2
  go_wp2
  refine bodyPost_ret (v := .tuple #[.agg #[.int .i64 0, .int .i64 0, .slice none 0 0], .iface 102 (.pointer (some s))]) (by simp [results, Tryd.results10, go_sem, c4, c5, c6, z4]) rfl ⟨rfl, ?_⟩
  have hX := (((HB0.out.trans (hbX.out.mono HB0.out.size)).setCell (p := ⟨w.heap.size, 0, none⟩) (Nat.le_refl _) (.int .i64 0)).setCell (p := ⟨w.heap.size, 1, none⟩) (Nat.le_refl _) (.int .i64 0)).setCell (p := ⟨w.heap.size, 2, none⟩) (Nat.le_refl _) (.slice none 0 0)
  exact hX.alloc hX.size _
theorem rowAt_half {k r h : Nat} (hh : h < 2 * (k + r)) : rowAt (2 * k) (halfM k r) h = rowF (2 * k) (halfF k (carN (groupN k r)) h) := rowAt_grid hh
theorem alive5_row : rowF (2 * 1) (halfF 1 (carN (groupN 1 2)) 5) = [1, 142] := by decide +kernel
theorem alive5_name : strB (nameB 4 9) = ⟨#[112, 48, 98]⟩ := by decide +kernel
end Go.Proofs.YtkoakingmnjdoabDoor

/- What SameLists answers of two lists that are the same, and what Apart answers of two pieces of memory that lie apart: the second one is written over. -/
namespace Go.Proofs.YtkoakingmnjdoabDoor
open Go.RowKit Gf
set_option linter.unusedVariables false
set_option maxRecDepth 20000
/-- turned as far as byte o + k -/
theorem flTo_len' (xs : List F) (k : Nat) : (flTo xs k).length = xs.length := flTo_len xs k
theorem append8_growsAt {w : World} {g o n cap : Nat} {xs ys : List F} {ad : Addr} {m c : Nat} (ty : TypeId) (hx : Row8 w (some ⟨g, o, none⟩) xs) (hn : n = xs.length) (hm : m = ys.length) (hcap : cap < n + m) (hb : n + m ≤ 140737488355328)
    (hy : ∀ j, j < ys.length → w.cell? (ad.add j) = some (.int .u8 ((at8 ys j).toNat : Int))) :
    ∃ g' cap' w', (Builtin.append_ #[22, 22] ty #[.slice (some ⟨g, o, none⟩) n cap, .slice (some ad) m c]).run Tryd.prog w = .ok (.slice (some ⟨g', 0, none⟩) (n + m) cap') w' ∧
      Has8 w' g' (xs ++ ys) cap' ∧ w.grownBy w' none ∧ w.heap.size ≤ g' := by
  subst hn hm
  obtain ⟨i, hi, h1, h2, h3⟩ := info8
  obtain ⟨v', w', hrun, ho, hgr⟩ := run_append_arg_grows (P := Tryd.prog) w 22 ty 5 i _ 1 1 Tryd.underlying22 hi h3 h1 h2 rfl (by decide)
    ⟨g, o, none⟩ xs.length cap (xs.map vf) (by simp) (fun j v hv => by
      simp only [List.getElem?_map, Option.map_eq_some_iff] at hv
      obtain ⟨x, hx1, rfl⟩ := hv
      have hj : j < xs.length := (List.getElem?_eq_some_iff.1 hx1).1
      have e : at8 xs j = x := by simp [at8, hx1]
      rcases hx with e' | ⟨b, off, e', hx⟩
      · rw [e'] at hj; simp at hj
      · cases e'
        have hadd : (⟨g, o, none⟩ : Addr).add j = ⟨g, o + j, none⟩ := by unfold Addr.add; split <;> simp_all
        rw [hadd, hx j hj, e]; rfl)
    ad ys.length c (ys.map vf) (by simp) (fun j v hv => by
      simp only [List.getElem?_map, Option.map_eq_some_iff] at hv
      obtain ⟨x, hx1, rfl⟩ := hv
      have hj : j < ys.length := (List.getElem?_eq_some_iff.1 hx1).1
      have e : at8 ys j = x := by simp [at8, hx1]
      rw [hy j hj, e]; rfl) hcap (by simp only [maxLen]; omega) (by omega)
  rcases ho.2 with ⟨hv, h0⟩ | ⟨g', cap', cur', hv, hge, hg', hl', hm', hs', ht'⟩
  · omega
  · subst hv
    refine ⟨g', cap', w', hrun, ⟨cur', hg', by omega, by simpa using hl', hm', ?_⟩, hgr, hge⟩
    rw [List.length_append, List.map_append, ← ht', Nat.mul_one]
theorem add_zero_at (g j : Nat) : (⟨g, 0, none⟩ : Addr).add j = ⟨g, j, none⟩ := by unfold Addr.add; split <;> simp_all
theorem row8_piece {w : World} {g o m : Nat} {xs : List F} {t : TypeId} {fr : Nat × Nat} (h : w.heap[g]? = some (.cells (vfs xs) t fr)) (ho : o + m ≤ xs.length) : Row8 w (some ⟨g, o, none⟩) ((xs.drop o).take m) :=
  .inr ⟨g, o, rfl, fun j hj => by
    rw [List.length_take, List.length_drop] at hj
    rw [cell_of_row _ _ _ _ _ _ h, vfs_get _ _ (by omega), at8_take (by omega), at8_drop]⟩
end Go.Proofs.YtkoakingmnjdoabDoor

/- What Encode of package code answers, of all numbers and lists of bytes; nothing that was there turns. -/
namespace Go.Proofs.YtkoakingmnjdoabDoor
open Go.RowKit Gf
set_option linter.unusedVariables false
set_option maxRecDepth 20000
/-- which error Encode tells -/
def encE (k r n : Int) : Nat := if LegalP k r then halfE k n else 1
theorem encE_ok {k r n : Int} (h : encE k r n = 0) : ∃ a b m : Nat, k = a ∧ r = b ∧ n = m ∧ 1 ≤ a ∧ 2 ≤ b ∧ a + b ≤ 16 ∧ 1 ≤ m ∧ m ≤ 128 * a := by
  unfold encE at h
  split at h
  · rename_i hL
    obtain ⟨a, b, rfl, rfl, h1, h2, h3⟩ := legal_nat hL
    obtain ⟨c, m, hc, rfl, _, _, h4, h5⟩ := half_ok h
    exact ⟨a, b, m, rfl, rfl, rfl, h1, h2, h3, h4, by omega⟩
  · omega
theorem encE_of {k r n : Nat} (h1 : 1 ≤ k) (h2 : 2 ≤ r) (h3 : k + r ≤ 16) (h4 : 1 ≤ n) (h5 : n ≤ 128 * k) : encE k r n = 0 := by
  unfold encE; rw [if_pos (show LegalP k r from ⟨by omega, by omega, by omega⟩), halfE_ok h1 (by omega) h4 h5]
theorem halfE_25 (k n : Int) : halfE k n ≤ 25 := by unfold halfE; split <;> (try split) <;> (try split) <;> omega
theorem encE_le (k r n : Int) : encE k r n ≤ 25 := by unfold encE; split; exact halfE_25 _ _; omega
/-- the errors that Encode and Fits name -/
def ErrsF (w : World) (E : Nat → Addr) : Prop := ErrsE w E ∧ w.cell? ⟨5, 0, none⟩ = some (errAt (E 1))
theorem errsF_below {w w' : World} {E : Nat → Addr} (h : ErrsF w E) (hb : Below w.heap.size w w') : ErrsF w' E := ⟨errsE_below h.1 hb, cell_later hb h.2⟩
theorem comb_half {k r H : Nat} {L : List (List F)} {i : Nat} (hi : i < 2 * (k + r)) : combL (2 * k) H (halfM k r) L i = imgL k (carN (groupN k r)) H (bytesD L) i :=
  rowF_congr fun b _ => sumF_congr fun v hv => by rw [halfM, at8_grid hi hv]
theorem rowsP_congr {w : World} {B : Nat} {gs : List (Nat × Nat)} {f g : Nat → List F} (h : RowsP w B gs f) (e : ∀ i, i < gs.length → f i = g i) : RowsP w B gs g :=
  ⟨fun i p hp => ⟨(h.1 i p hp).1, by rw [← e i (List.getElem?_eq_some_iff.1 hp).1]; exact (h.1 i p hp).2⟩, h.2⟩
/-- all halves of a stripe in memory, each in a block of its own -/
def EncAt (w : World) (B M : Nat) (k r n : Nat) (xs : List F) (gs : List (Nat × Nat)) : Prop :=
  B ≤ M ∧ gs.length = 2 * (k + r) ∧ w.heap[M]? = some (.cells (slW (rowsP (cntN (2 * k) n) gs) (2 * (k + r))) 22 (0, 0)) ∧ RowsP w B gs (imgL k (carN (groupN k r)) (cntN (2 * k) n) (strD (cntN (2 * k) n) xs))
theorem encAt_below {w w' : World} {B M k r n : Nat} {xs : List F} {gs : List (Nat × Nat)} (h : EncAt w B M k r n xs gs) (hb : Below w.heap.size w w') : EncAt w' B M k r n xs gs := ⟨h.1, h.2.1, heap_later h.2.2.1 hb, rowsP_below h.2.2.2 hb⟩
theorem encAt_rows {w : World} {B M k r n : Nat} {xs : List F} {gs : List (Nat × Nat)} (h : EncAt w B M k r n xs gs) : Rows8 w (some ⟨M, 0, none⟩) (encL k r (cntN (2 * k) n) xs) :=
  rowsP_rows h.2.2.2 h.2.1 (fun i => imgL_len _ _ _ _ _) h.2.2.1
set_option maxHeartbeats 4000000 in
theorem encode_ok (k r n ca : Nat) (a : Option Addr) (xs : List F) (w : World) (E : Nat → Addr) (hE : ErrsF w E) (h1 : 1 ≤ k) (h2 : 2 ≤ r) (h3 : k + r ≤ 16) (h4 : 1 ≤ n) (h5 : n ≤ 128 * k) (hn : n = xs.length) (hx : Row8 w a xs) :
    Calls Tryd.prog 9 #[.int .i64 k, .int .i64 r, .slice a n ca] w fun e w' => ∃ (M c : Nat) (gs : List (Nat × Nat)), e = .returned (.tuple #[.slice (some ⟨M, 0, none⟩) c c, .nilIface]) ∧ c = 2 * (k + r) ∧
      EncAt w' w.heap.size M k r n xs gs ∧ Below w.heap.size w w' := by
  obtain ⟨k1, k2, _, _⟩ := cnt_half h1 (show k ≤ 14 by omega) h4 h5
  have HE : Hid (ErrsF w E) := hE
  have HX : Hid (Row8 w a xs) := hx
  have HN : Hid (n = xs.length) := hn
  clear hE hx hn
  obtain ⟨c2, hc2⟩ : ∃ c2, c2 = 2 * k := ⟨_, rfl⟩
  obtain ⟨cR, hcR⟩ : ∃ cR, cR = 2 * (k + r) := ⟨_, rfl⟩
  have HC2 : Hid (c2 = 2 * k) := hc2
  have HCR : Hid (cR = 2 * (k + r)) := hcR
  have HR : Hid _ := fun w s h => hrows_F k r w s h h1 h2 h3
  rw [← hc2, ← hcR] at HR
  have hcl : c2 ≤ 28 := by omega
  have hcl1 : 1 ≤ c2 := by omega
  have hRl : cR ≤ 32 := by omega
  clear hc2 hcR
  go_enter Tryd.func9, Tryd.ntmps9
  go_wp2_with fail
  refine Calls.mono (HR.out _ (E 1) HE.out.2) ?_
  rintro e w1 ⟨g1, m1, rfl, hm1, hg1, hh1, hb1⟩
  have HA1 : Hid _ := holds_new (holds_cons (holds_nil w1) hh1) #[.int .i64 cR, .int .i64 c2, .slice (some ⟨g1, 0, none⟩) m1 m1] 42
  have HB1 : Hid (Below w.heap.size w (w1.alloc (.cells #[.int .i64 cR, .int .i64 c2, .slice (some ⟨g1, 0, none⟩) m1 m1] 42))) := hb1.alloc hb1.size _
  have HM1 : Hid (m1 = cR * c2) := hm1
  clear hm1 hg1 hh1 hb1
  go_wp2_with fail
  refine Calls.mono (split_ok k n ca a xs _ E (errsE_below HE.out.1 HB1.out) h1 (by omega) h4 h5 HN.out (row8_below HX.out HB1.out)) ?_
  rintro e w2 ⟨hb2, g2, c, H, rfl, hc, hH, hz1, hz2, hne, hB2, hG2, hbl⟩
  obtain rfl : c = c2 := by rw [hc, HC2.out]
  have HH : Hid (H = cntN (2 * k) n) := hH
  have HR2 : Hid (Rows8 w2 (some ⟨hb2, 0, none⟩) ((List.range c).map (hf H xs))) := .inr ⟨hb2, 0, rfl, fun j ys hj => by
    have hjc : j < c := by have := (List.getElem?_eq_some_iff.1 hj).1; simpa using this
    rw [List.getElem?_map, List.getElem?_range hjc] at hj
    obtain rfl := Option.some.inj hj
    refine ⟨some ⟨g2, j * H, none⟩, H, ?_, row8_half hG2 hjc⟩
    rw [Nat.zero_add, hf_len]
    exact cellAt hB2 j _ (hvV_at hjc (Nat.le_refl _))⟩
  have HA2 : Hid _ := holds_later HA1.out hbl
  have HB2 : Hid (Below w.heap.size w w2) := HB1.out.trans (hbl.mono HB1.out.size)
  have hHl : H ≤ 64 := by rw [hH]; exact k2
  clear hc hH hz1 hz2 hne hB2 hG2 hbl HA1 HB1
  have c0 := cellAt (holds_at HA2.out 0 rfl) 0 _ rfl
  have c1 := cellAt (holds_at HA2.out 0 rfl) 1 _ rfl
  have c3 := cellAt (holds_at HA2.out 0 rfl) 2 _ rfl
  go_wp2_with fail
  refine Calls.mono (ccomb_F cR c H m1 m1 c c (some ⟨g1, 0, none⟩) (some ⟨hb2, 0, none⟩) (halfM k r) ((List.range c).map (hf H xs)) _ (by omega) hcl1 (by omega) hHl HM1.out (by rw [halfM_len, HCR.out, HC2.out]) (Nat.le_refl _) (holds_row HA2.out 1 rfl)
    rfl (by simp) (fun ys hy => by obtain ⟨v, _, rfl⟩ := List.mem_map.1 hy; exact hf_len _ _ _) HR2.out) ?_
  rintro e w3 ⟨M, gs, rfl, hM, hgs, hT, hrs, hb3⟩
  have HB3 : Hid (Below w.heap.size w w3) := HB2.out.trans (hb3.mono HB2.out.size)
  have HEnc : Hid (EncAt w3 w.heap.size M k r n xs gs) := by
    have hz := HB2.out.size
    refine ⟨by omega, by rw [hgs, HCR.out], by rw [← HH.out, ← HCR.out]; exact hT, ?_⟩
    have hr2 : RowsP w3 w.heap.size gs (combL c H (halfM k r) ((List.range c).map (hf H xs))) := ⟨fun i p hp => ⟨by have := (hrs.1 i p hp).1; omega, (hrs.1 i p hp).2⟩, hrs.2⟩
    refine rowsP_congr hr2 fun i hi => ?_
    rw [HC2.out, comb_half (by rw [← HCR.out, ← hgs]; exact hi), img_stripe (by omega), ← HH.out]
  clear hM hgs hT hrs hb3 c0 c1 c3
  go_wp2
  go_ret2
  exact ⟨M, cR, gs, rfl, HCR.out, HEnc.out, HB3.out⟩
set_option maxHeartbeats 2000000 in
theorem encode_bad (k r : Int) (n ca : Nat) (a : Option Addr) (w : World) (E : Nat → Addr) (hE : ErrsF w E) (hk0 : -9223372036854775808 ≤ k) (hk1 : k ≤ 9223372036854775807) (hr0 : -9223372036854775808 ≤ r) (hr1 : r ≤ 9223372036854775807) (hla : n ≤ 140737488355328) (h : encE k r n ≠ 0) :
    Calls Tryd.prog 9 #[.int .i64 k, .int .i64 r, .slice a n ca] w fun e w' => e = .returned (.tuple #[.slice none 0 0, evV E (encE k r n)]) ∧ Below w.heap.size w w' := by
  have HE : Hid (ErrsF w E) := hE
  clear hE
  by_cases hL : LegalP k r
  · obtain ⟨p, q, rfl, rfl, h1, h2, h3⟩ := legal_nat hL
    have he : encE p q n = halfE p n := by unfold encE; rw [if_pos hL]
    rw [he] at h ⊢
    have HS : Hid _ := fun u hu => split_bad p a n ca u E hu hla h
    obtain ⟨s, hs⟩ : ∃ s, evV E (halfE p n) = errAt s := ⟨E (halfE p n - 1), by unfold evV; rw [if_neg h]⟩
    rw [hs] at HS ⊢
    have HR : Hid _ := fun w s h => hrows_F p q w s h h1 h2 h3
    clear hs he h hL
    unfold errAt at HS ⊢
    go_enter Tryd.func9, Tryd.ntmps9
    go_wp2_with fail
    refine Calls.mono (HR.out _ (E 1) HE.out.2) ?_
    rintro e w1 ⟨g1, m1, rfl, hm1, hg1, hh1, hb1⟩
    have HB1 : Hid (Below w.heap.size w (w1.alloc (.cells #[.int .i64 (2 * (p + q) : Nat), .int .i64 (2 * p : Nat), .slice (some ⟨g1, 0, none⟩) m1 m1] 42))) := hb1.alloc hb1.size _
    clear hm1 hg1 hh1 hb1
    go_wp2_with fail
    refine Calls.mono (HS.out _ (errsE_below HE.out.1 HB1.out)) ?_
    rintro e w2 ⟨rfl, hb2⟩
    have HB2 : Hid (Below w.heap.size w w2) := HB1.out.trans (hb2.mono HB1.out.size)
    clear hb2
    go_wp2_with fail
    go_ret2
    exact ⟨rfl, HB2.out⟩
  · have he : encE k r n = 1 := by unfold encE; rw [if_neg hL]
    rw [he, evV_succ]
    have HR : Hid _ := fun u hu => hrows_bad k r u (E 0) hu hk0 hk1 hr0 hr1 hL
    clear he h hL
    unfold errAt at HR ⊢
    go_enter Tryd.func9, Tryd.ntmps9
    go_wp2_with fail
    refine Calls.mono (HR.out _ HE.out.1.1) ?_
    rintro e w1 ⟨rfl, hb1⟩
    have HB1 : Hid (Below w.heap.size w w1) := hb1
    clear hb1
    go_wp2_with fail
    go_ret2
    exact ⟨rfl, HB1.out.alloc HB1.out.size _⟩
end Go.Proofs.YtkoakingmnjdoabDoor

/- Shards in a block of one's own: three cells each. What Shards of package code answers, of all numbers and lists of bytes. -/
namespace Go.Proofs.YtkoakingmnjdoabDoor
open Go.RowKit Gf
set_option linter.unusedVariables false
set_option maxRecDepth 20000
abbrev Tri := Value × Value × Value
/-- three values to an element -/
def triL (T : List Tri) : List Value := T.flatMap fun t => [t.1, t.2.1, t.2.2]
def triC (T : List Tri) : Array Value := (triL T).toArray
def tri3 (t : Tri) : Nat → Value
  | 0 => t.1
  | 1 => t.2.1
  | _ => t.2.2
theorem triL_at : ∀ (T : List Tri) (j q : Nat), q < 3 → (triL T)[j * 3 + q]? = T[j]?.map fun t => tri3 t q
  | [], j, q, _ => by simp [triL]
  | t :: T, 0, q, h => by
    match q, h with
    | 0, _ => rfl
    | 1, _ => rfl
    | 2, _ => rfl
  | t :: T, j + 1, q, h => by
    have := triL_at T j q h
    rw [show (j + 1) * 3 + q = (j * 3 + q) + 3 by omega]
    exact this
theorem triL_set : ∀ (T : List Tri) (j : Nat) (a b c : Value), (((triL T).set (j * 3) a).set (j * 3 + 1) b).set (j * 3 + 2) c = triL (T.set j (a, b, c))
  | [], j, a, b, c => by simp [triL]
  | t :: T, 0, a, b, c => rfl
  | t :: T, j + 1, a, b, c => by
    have := triL_set T j a b c
    rw [show (j + 1) * 3 + 1 = (j * 3 + 1) + 3 by omega, show (j + 1) * 3 + 2 = (j * 3 + 2) + 3 by omega, show (j + 1) * 3 = (j * 3) + 3 by omega]
    show t.1 :: t.2.1 :: t.2.2 :: (((triL T).set (j * 3) a).set (j * 3 + 1) b).set (j * 3 + 2) c = _
    rw [this]; rfl
theorem triC_at {T : List Tri} {j q : Nat} {t : Tri} (h : T[j]? = some t) (hq : q < 3) : (triC T)[j * 3 + q]? = some (tri3 t q) := by
  show (triL T).toArray[j * 3 + q]? = _
  rw [List.getElem?_toArray, triL_at T j q hq, h]; rfl
theorem triC_set (T : List Tri) (j : Nat) (a b c : Value) : (((triC T).setIfInBounds (j * 3) a).setIfInBounds (j * 3 + 1) b).setIfInBounds (j * 3 + 2) c = triC (T.set j (a, b, c)) := by
  apply Array.toList_inj.1
  simp only [Array.toList_setIfInBounds, triC]
  exact triL_set T j a b c
/-- the zero of a shard -/
def zeroT : Tri := (.int .i64 0, .slice none 0 0, .slice none 0 0)
theorem infoT : ∃ i, Tryd.prog.info? 36 = some i ∧ i.size = 3 ∧ i.bytes = 56 ∧ i.zero = some (.agg #[.int .i64 0, .slice none 0 0, .slice none 0 0]) := by
  have hi : (Tryd.prog.info? 36).map (fun i => (i.size, i.bytes, i.zero)) = some (3, 56, some (.agg #[.int .i64 0, .slice none 0 0, .slice none 0 0])) := by kernel_rfl
  cases hq : Tryd.prog.info? 36 with
  | none => simp [hq] at hi
  | some i =>
    simp only [hq, Option.map_some, Option.some.injEq, Prod.mk.injEq] at hi
    exact ⟨i, rfl, hi.1, hi.2.1, hi.2.2⟩
theorem run_makeT (n : Nat) (hn : n ≤ 64) (w : World) :
    (Instr.makeSlice 26 (.int .i64 (n : Int)) (.int .i64 (n : Int))).run Tryd.prog w = .ok (.slice (some ⟨w.heap.size, 0, none⟩) n n) (w.alloc (.cells (triC (List.replicate n zeroT)) 36)) := by
  obtain ⟨i, hi, h1, h2, h3⟩ := infoT
  have := run_make (P := Tryd.prog) w 26 36 i _ Tryd.underlying26 hi h3 .i64 .i64 n n (by omega) (by omega) (by rw [h2]; omega) (by omega)
  rw [this, h1]
  have e : madeCells (Value.agg #[.int .i64 0, .slice none 0 0, .slice none 0 0]).cells (n * 3) = triC (List.replicate n zeroT) := by
    apply Array.ext_getElem?
    intro i
    have hz : (Value.agg #[.int .i64 0, .slice none 0 0, .slice none 0 0]).cells = #[.int .i64 0, .slice none 0 0, .slice none 0 0] := by rfl
    rw [hz]
    obtain ⟨j, q, rfl, hq⟩ : ∃ j q, i = j * 3 + q ∧ q < 3 := ⟨i / 3, i % 3, by omega, by omega⟩
    by_cases h : j < n
    · rw [triC_at (t := zeroT) (by rw [List.getElem?_replicate, if_pos h]) hq]
      simp only [madeCells, Array.getElem?_map]
      rw [Array.getElem?_range]
      rw [if_pos (by omega)]
      simp only [Option.map_some]
      rw [show (j * 3 + q) % (#[Value.int .i64 0, .slice none 0 0, .slice none 0 0] : Array Value).size = q by show (j * 3 + q) % 3 = q; omega]
      match q, hq with
      | 0, _ => rfl
      | 1, _ => rfl
      | 2, _ => rfl
    · have e9 : (triC (List.replicate n zeroT))[j * 3 + q]? = none := by
        show (triL _).toArray[j * 3 + q]? = _
        rw [List.getElem?_toArray, triL_at _ _ _ hq, List.getElem?_replicate, if_neg h]; rfl
      rw [e9]
      simp only [madeCells, Array.getElem?_map]
      rw [Array.getElem?_range, if_neg (by omega)]
      rfl
  simp only [Int.toNat_natCast, e]
/-- shard j of a list of halves -/
def shV (vs : List Value) (j : Nat) : Tri := (.int .i64 (j : Int), vs.getD (2 * j) (.slice none 0 0), vs.getD (2 * j + 1) (.slice none 0 0))
/-- the shards made as far as j -/
def shP (vs : List Value) (m j : Nat) : List Tri := (List.range m).map fun i => if i < j then shV vs i else zeroT
theorem shP_zero (vs : List Value) (m : Nat) : List.replicate m zeroT = shP vs m 0 := by
  apply List.ext_getElem?
  intro i
  simp only [shP, List.getElem?_map, List.getElem?_replicate]
  by_cases h : i < m
  · rw [if_pos h, List.getElem?_range h]; rfl
  · rw [if_neg h, List.getElem?_eq_none (by simp; omega)]; rfl
theorem shP_full (vs : List Value) (m : Nat) : shP vs m m = (List.range m).map (shV vs) := by
  apply List.map_congr_left
  intro i hi
  rw [if_pos (by simpa using hi)]
theorem shP_set {vs : List Value} {m j : Nat} (h : j < m) : (shP vs m j).set j (shV vs j) = shP vs m (j + 1) := by
  apply List.ext_getElem?
  intro i
  rw [List.getElem?_set]
  simp only [shP, List.getElem?_map, List.length_map, List.length_range]
  by_cases hi : j = i
  · subst hi
    rw [if_pos rfl, if_pos h, List.getElem?_range h]
    simp
  · rw [if_neg hi]
    by_cases hm : i < m
    · rw [List.getElem?_range hm]
      simp only [Option.map_some]
      by_cases h2 : i < j
      · rw [if_pos h2, if_pos (by omega)]
      · rw [if_neg h2, if_neg (by omega)]
    · rw [List.getElem?_eq_none (by simp; omega)]; rfl
/-- a stripe's shards in memory, each half in a block of its own -/
def ShAt (w : World) (B S : Nat) (k r n : Nat) (xs : List F) (gs : List (Nat × Nat)) : Prop :=
  B ≤ S ∧ gs.length = 2 * (k + r) ∧ w.heap[S]? = some (.cells (triC ((List.range (k + r)).map (shV (rowsP (cntN (2 * k) n) gs)))) 36 (0, 0)) ∧ RowsP w B gs (imgL k (carN (groupN k r)) (cntN (2 * k) n) (strD (cntN (2 * k) n) xs))
theorem shAt_below {w w' : World} {B S k r n : Nat} {xs : List F} {gs : List (Nat × Nat)} (h : ShAt w B S k r n xs gs) (hb : Below w.heap.size w w') : ShAt w' B S k r n xs gs := ⟨h.1, h.2.1, heap_later h.2.2.1 hb, rowsP_below h.2.2.2 hb⟩
theorem has8_grownT {w w' : World} {S g cap : Nat} {cs : Array Value} {fr : Nat × Nat} {xs : List F} (hg : w.grownBy w' (some S)) (h : Has8 w g xs cap) (hS : w.heap[S]? = some (.cells cs 36 fr)) : Has8 w' g xs cap := by
  obtain ⟨cur, h1, h2⟩ := h
  exact ⟨cur, grown_keep hg h1 (fun e => kind_ne h1 hS (by decide) (Option.some.inj e)), h2⟩
theorem tri_store {w : World} {S j : Nat} {T : List Tri} {a b c : Value} (h : w.heap[S]? = some (.cells (triC T) 36 (0, 0))) :
    (((w.setCell ⟨S, j * 3, none⟩ a).setCell ⟨S, j * 3 + 1, none⟩ b).setCell ⟨S, j * 3 + 2, none⟩ c).heap[S]? = some (.cells (triC (T.set j (a, b, c))) 36 (0, 0)) := by
  rw [heap_setCell_same _ _ _ _ _ _ (heap_setCell_same _ _ _ _ _ _ (heap_setCell_same _ _ _ _ _ _ h)), triC_set]
theorem tri_store_other {w : World} {S g j : Nat} {a b c : Value} {o : Obj} (hne : g ≠ S) (h : w.heap[g]? = some o) :
    (((w.setCell ⟨S, j * 3, none⟩ a).setCell ⟨S, j * 3 + 1, none⟩ b).setCell ⟨S, j * 3 + 2, none⟩ c).heap[g]? = some o :=
  (heap_setCell_other _ _ _ _ hne).trans ((heap_setCell_other _ _ _ _ hne).trans ((heap_setCell_other _ _ _ _ hne).trans h))
set_option maxHeartbeats 4000000 in
theorem shards_ok (k r n ca : Nat) (a : Option Addr) (xs : List F) (w : World) (E : Nat → Addr) (hE : ErrsF w E) (h1 : 1 ≤ k) (h2 : 2 ≤ r) (h3 : k + r ≤ 16) (h4 : 1 ≤ n) (h5 : n ≤ 128 * k) (hn : n = xs.length) (hx : Row8 w a xs) :
    Calls Tryd.prog 4 #[.int .i64 k, .int .i64 r, .slice a n ca] w fun e w' => ∃ (S m : Nat) (gs : List (Nat × Nat)), e = .returned (.tuple #[.slice (some ⟨S, 0, none⟩) m m, .nilIface]) ∧ m = k + r ∧
      ShAt w' w.heap.size S k r n xs gs ∧ Below w.heap.size w w' := by
  have HENC : Hid _ := encode_ok k r n ca a xs w E hE h1 h2 h3 h4 h5 hn hx
  obtain ⟨H, hH⟩ : ∃ H, H = cntN (2 * k) n := ⟨_, rfl⟩
  have HH : Hid (H = cntN (2 * k) n) := hH
  obtain ⟨m, hm⟩ : ∃ m, m = k + r := ⟨_, rfl⟩
  have HM : Hid (m = k + r) := hm
  have hm16 : m ≤ 16 := by omega
  have hmk := run_makeT m (by omega)
  clear hE hx hn hH hm
  go_enter Tryd.func4, Tryd.ntmps4
  go_wp2_with fail
  refine Calls.mono HENC.out ?_
  rintro e w1 ⟨M, c, gs, rfl, hc, hEnc, hb1⟩
  have HEN : Hid (EncAt w1 w.heap.size M k r n xs gs) := hEnc
  have HB1 : Hid (Below w.heap.size w w1) := hb1
  have hc2 : c = 2 * m := by rw [hc, HM.out]
  have hq : (c : Int).tdiv 2 = (m : Int) := by rw [Int.tdiv_eq_ediv_of_nonneg (by omega)]; omega
  have hq2 : (c : Int) / 2 = (m : Int) := by omega
  have HC : Hid (c = 2 * m) := hc2
  have HGL : Hid (gs.length = 2 * m) := by show _ = _; rw [hEnc.2.1, HM.out]
  clear hc hEnc hb1 hc2 HENC
  rw [shP_zero (rowsP H gs)] at hmk
  go_wp2
  have hA5 := holds_new (holds_cons (holds_nil w1) HEN.out.2.2.1) (triC (shP (rowsP H gs) m 0)) 36
  have HB5 : Hid (Below w.heap.size w (w1.alloc (.cells (triC (shP (rowsP H gs) m 0)) 36))) := HB1.out.alloc HB1.out.size _
  have HR5 : Hid (RowsP (w1.alloc (.cells (triC (shP (rowsP H gs) m 0)) 36)) w.heap.size gs (imgL k (carN (groupN k r)) H (strD H xs))) := by
    have := HEN.out.2.2.2
    rw [← HH.out] at this
    exact rowsP_below this ((Below.refl _ _).alloc (Nat.le_refl _) _)
  rw [← HH.out] at hA5
  have hSM := HB1.out.size
  have HA5 : Hid _ := hA5
  clear hA5 hmk HB1 HEN
  generalize (w1.alloc (.cells (triC (shP (rowsP H gs) m 0)) 36)) = W5 at *
  generalize hS : w1.heap.size = S at *
  clear hS
  have hSM2 : M ≠ S := kind_ne (holds_at HA5.out 1 rfl) (holds_at HA5.out 0 rfl) (by decide)
  go_loopw [28] (fun i wr => ∃ j : Nat, j ≤ m ∧ i = .int .i64 j ∧ Below w.heap.size w wr ∧ W5.grownBy wr (some S) ∧
    Holds wr [(S, .cells (triC (shP (rowsP H gs) m j)) 36 (0, 0)), (M, .cells (slW (rowsP H gs) (2 * (k + r))) 22 (0, 0))]) (fun i _ => m - (intOf i).toNat)
  case atStart => exact ⟨0, by omega, rfl, HB5.out, World.grownBy.refl _ _, HA5.out⟩
  case round =>
    obtain ⟨j, hj, rfl, hb, hg, hh⟩ := hrel
    have HB : Hid (Below w.heap.size w wr) := hb
    have HG : Hid (W5.grownBy wr (some S)) := hg
    have HH2 : Hid _ := hh
    clear hb hg hh
    by_cases hlt : j < m
    · obtain ⟨p0, hp0⟩ : ∃ p0, p0 = 2 * j := ⟨_, rfl⟩
      obtain ⟨p1, hp1⟩ : ∃ p1, p1 = 2 * j + 1 := ⟨_, rfl⟩
      have t1 : (2 : Int) * (j : Int) = (p0 : Int) := by omega
      have t2 : (p0 : Int) + 1 = (p1 : Int) := by omega
      have hp9 : (p1 : Int) ≤ 100 := by omega
      have hg0 : gs[p0]? = some gs[p0]! := by rw [getElem!_pos gs p0 (by rw [HGL.out]; omega)]; exact List.getElem?_eq_getElem (by rw [HGL.out]; omega)
      have hg1 : gs[p1]? = some gs[p1]! := by rw [getElem!_pos gs p1 (by rw [HGL.out]; omega)]; exact List.getElem?_eq_getElem (by rw [HGL.out]; omega)
      generalize gs[p0]! = q0 at hg0
      generalize gs[p1]! = q1 at hg1
      obtain ⟨g0, cap0⟩ := q0
      obtain ⟨g1, cap1⟩ := q1
      have d0 := cellAt (holds_at HH2.out 1 rfl) p0 _ (slW_at (rowsP_at hg0))
      have d1 := cellAt (holds_at HH2.out 1 rfl) p1 _ (slW_at (rowsP_at hg1))
      have l0 : p0 < c := by have := HC.out; omega
      have l1 : p1 < c := by have := HC.out; omega
      have hz : (shP (rowsP H gs) m j)[j]? = some zeroT := by simp [shP, hlt]
      have e0 := cellAt (holds_at HH2.out 0 rfl) (j * 3) _ (triC_at (q := 0) hz (by decide))
      have e1 := cellAt (holds_at HH2.out 0 rfl) (j * 3 + 1) _ (triC_at (q := 1) hz (by decide))
      have e2 := cellAt (holds_at HH2.out 0 rfl) (j * 3 + 2) _ (triC_at (q := 2) hz (by decide))
      have f0 : wr.frozen? ⟨S, j * 3, none⟩ = false := frozen_of_row _ _ _ _ _ (holds_at HH2.out 0 rfl)
      have f1 : wr.frozen? ⟨S, j * 3 + 1, none⟩ = false := frozen_of_row _ _ _ _ _ (holds_at HH2.out 0 rfl)
      have f2 : wr.frozen? ⟨S, j * 3 + 2, none⟩ = false := frozen_of_row _ _ _ _ _ (holds_at HH2.out 0 rfl)
      have HSH : Hid (shV (rowsP H gs) j = (.int .i64 (j : Int), .slice (some ⟨g0, 0, none⟩) H cap0, .slice (some ⟨g1, 0, none⟩) H cap1)) := by
        show _ = _
        unfold shV
        rw [← hp1, ← hp0, List.getD_eq_getElem?_getD, List.getD_eq_getElem?_getD, rowsP_at hg0, rowsP_at hg1]; rfl
      clear hp0 hp1 hg0 hg1 hz
      simp only [tri3, zeroT] at e0 e1 e2
      go_wp2
      go_region
      go_wp2
      refine ⟨⟨j + 1, by omega, by go_num, ?_, ?_, ?_⟩, by simp [intOf]; omega⟩
      · exact (((HB.out.setCell (by show w.heap.size ≤ S; omega) _).setCell (by show w.heap.size ≤ S; omega) _).setCell (by show w.heap.size ≤ S; omega) _).drew
      · exact grownBy_drew (grownBy_setCell (grownBy_setCell (grownBy_setCell HG.out _) _) _)
      · have k0 := tri_store (j := j) (a := .int .i64 (j : Int)) (b := .slice (some ⟨g0, 0, none⟩) H cap0) (c := .slice (some ⟨g1, 0, none⟩) H cap1) (holds_at HH2.out 0 rfl)
        have k1 := tri_store_other (j := j) (a := .int .i64 (j : Int)) (b := .slice (some ⟨g0, 0, none⟩) H cap0) (c := .slice (some ⟨g1, 0, none⟩) H cap1) hSM2 (holds_at HH2.out 1 rfl)
        rw [← HSH.out, shP_set hlt] at k0
        exact holds_cons (holds_cons (holds_nil _) k1) k0
    · obtain rfl : j = m := by omega
      go_wp2
      go_ret2
      refine ⟨S, j, gs, rfl, HM.out, ⟨hSM, by rw [HGL.out, HM.out], ?_, ?_⟩, HB.out⟩
      · have := holds_at HH2.out 0 rfl
        rw [shP_full] at this
        rw [← HM.out, ← HH.out]; exact this
      · rw [← HH.out]
        exact ⟨fun i p hp => ⟨(HR5.out.1 i p hp).1, has8_grownT HG.out (HR5.out.1 i p hp).2 (holds_at HA5.out 0 rfl)⟩, HR5.out.2⟩
theorem shards_bad (k r : Int) (n ca : Nat) (a : Option Addr) (w : World) (E : Nat → Addr) (hE : ErrsF w E) (hk0 : -9223372036854775808 ≤ k) (hk1 : k ≤ 9223372036854775807) (hr0 : -9223372036854775808 ≤ r) (hr1 : r ≤ 9223372036854775807) (hla : n ≤ 140737488355328) (h : encE k r n ≠ 0) :
    Calls Tryd.prog 4 #[.int .i64 k, .int .i64 r, .slice a n ca] w fun e w' => e = .returned (.tuple #[.slice none 0 0, evV E (encE k r n)]) ∧ Below w.heap.size w w' := by
  have HS : Hid _ := encode_bad k r n ca a w E hE hk0 hk1 hr0 hr1 hla h
  obtain ⟨s, hs⟩ : ∃ s, evV E (encE k r n) = errAt s := ⟨E (encE k r n - 1), by unfold evV; rw [if_neg h]⟩
  rw [hs] at HS ⊢
  clear hs h hE
  unfold errAt at HS ⊢
  go_enter Tryd.func4, Tryd.ntmps4
  go_wp2_with fail
  refine Calls.mono HS.out ?_
  rintro e w1 ⟨rfl, hb⟩
  have HB : Hid _ := hb
  clear hb
  go_wp2_with fail
  go_ret2
  exact ⟨rfl, HB.out⟩
end Go.Proofs.YtkoakingmnjdoabDoor

/- What the statements' own choice of numbers answers: so many numbers, rising, all below the bound; nothing that was there turns. -/
namespace Go.Proofs.YtkoakingmnjdoabDoor
open Go.RowKit Gf
set_option linter.unusedVariables false
set_option maxRecDepth 20000
/-- marks in memory -/
def bvs (n : Nat) (f : Nat → Bool) : Array Value := ((List.range n).map fun i => Value.bool (f i)).toArray
theorem bvs_size (n : Nat) (f : Nat → Bool) : (bvs n f).size = n := by simp [bvs]
theorem bvs_get {n i : Nat} {f : Nat → Bool} (h : i < n) : (bvs n f)[i]? = some (.bool (f i)) := by simp [bvs, h]
def upB (f : Nat → Bool) (i : Nat) : Nat → Bool := fun j => f j || decide (j = i)
theorem bvs_set {n i : Nat} {f : Nat → Bool} : (bvs n f).setIfInBounds i (.bool true) = bvs n (upB f i) := by
  apply Array.ext_getElem?
  intro j
  simp only [bvs, Array.getElem?_setIfInBounds, List.size_toArray, List.length_map, List.length_range, List.getElem?_toArray, List.getElem?_map, upB]
  by_cases h : i = j
  · subst h; by_cases h2 : i < n <;> simp [h2]
  · rw [if_neg h]
    by_cases h2 : j < n <;> simp [h2, Ne.symm h]
theorem madeB (n : Nat) : madeCells (Value.bool false).cells n = bvs n (fun _ => false) := by
  apply Array.ext_getElem?
  intro i
  by_cases h : i < n <;> simp [madeCells, bvs, Value.cells, h, Nat.mod_one]
theorem run_makeB (n : Nat) (hn : n ≤ 65536) (w : World) :
    (Instr.makeSlice 53 (.int .i64 (n : Int)) (.int .i64 (n : Int))).run Tryd.prog w = .ok (.slice (some ⟨w.heap.size, 0, none⟩) n n) (w.alloc (.cells (bvs n (fun _ => false)) 4)) := by
  have hi : (Tryd.prog.info? 4).map (fun i => (i.size, i.bytes, i.zero)) = some (1, 1, some (.bool false)) := by kernel_rfl
  cases hq : Tryd.prog.info? 4 with
  | none => simp [hq] at hi
  | some i =>
    simp only [hq, Option.map_some, Option.some.injEq, Prod.mk.injEq] at hi
    have := run_make (P := Tryd.prog) w 53 4 i _ Tryd.underlying53 hq hi.2.2 .i64 .i64 n n (by omega) (by omega) (by rw [hi.2.1]; omega) (by omega)
    rw [this, hi.1]
    simp only [Int.toNat_natCast, Nat.mul_one, madeB]
/-- how many are marked -/
def cntB (f : Nat → Bool) (n : Nat) : Nat := ((List.range n).filter f).length
theorem cntB_le (f : Nat → Bool) (n : Nat) : cntB f n ≤ n := by have := List.length_filter_le f (List.range n); simpa [cntB] using this
theorem cntB_succ (f : Nat → Bool) (n : Nat) : cntB f (n + 1) = cntB f n + if f n then 1 else 0 := by
  simp only [cntB, List.range_succ, List.filter_append, List.length_append, List.filter_cons, List.filter_nil]
  split <;> rfl
theorem cntB_same {f g : Nat → Bool} : ∀ {n : Nat}, (∀ i, i < n → f i = g i) → cntB f n = cntB g n
  | 0, _ => rfl
  | n + 1, h => by rw [cntB_succ, cntB_succ, cntB_same (n := n) (fun i hi => h i (by omega)), h n (by omega)]
theorem cntB_up {f : Nat → Bool} {i : Nat} (hf : f i = false) : ∀ {n : Nat}, i < n → cntB (upB f i) n = cntB f n + 1
  | 0, h => absurd h (Nat.not_lt_zero _)
  | n + 1, h => by
    rw [cntB_succ, cntB_succ]
    by_cases e : i = n
    · subst e
      rw [cntB_same (f := upB f i) (g := f) (fun j hj => by simp [upB, Nat.ne_of_lt hj]), hf]
      simp [upB]
    · rw [cntB_up hf (n := n) (by omega)]
      have : upB f i n = f n := by simp [upB, Ne.symm e]
      rw [this]; omega
theorem cntB_all {f : Nat → Bool} : ∀ {n : Nat}, (∀ i, i < n → f i = true) → cntB f n = n
  | 0, _ => rfl
  | n + 1, h => by rw [cntB_succ, cntB_all (n := n) (fun i hi => h i (by omega)), h n (by omega)]; rfl
theorem cntB_none (n : Nat) : cntB (fun _ => false) n = 0 := by simp [cntB]
/-- the marked numbers -/
def pickB (f : Nat → Bool) (n : Nat) : List Nat := (List.range n).filter f
theorem pickB_same {f g : Nat → Bool} {n : Nat} (h : ∀ i, i < n → f i = g i) : pickB f n = pickB g n := List.filter_congr fun i hi => h i (by simpa using hi)
theorem pickB_yes {f : Nat → Bool} {n : Nat} (h : f n = true) : pickB f (n + 1) = pickB f n ++ [n] := by simp [pickB, List.range_succ, h]
theorem pickB_no {f : Nat → Bool} {n : Nat} (h : f n = false) : pickB f (n + 1) = pickB f n := by simp [pickB, List.range_succ, h]
theorem pickB_up {f : Nat → Bool} {n : Nat} : pickB (upB f n) n = pickB f n := pickB_same fun i hi => by simp [upB, Nat.ne_of_lt hi]
theorem pickB_sorted (f : Nat → Bool) (n : Nat) : (pickB f n).Pairwise (· < ·) := List.pairwise_lt_range.filter _
theorem pickB_lt {f : Nat → Bool} {n : Nat} : ∀ x ∈ pickB f n, x < n := fun x hx => by simpa using (List.mem_filter.1 hx).1
/-- numbers as values -/
def nvs (L : List Nat) : List Value := L.map fun i => Value.int .i64 ((i : Nat) : Int)
theorem nvs_snoc (L : List Nat) (i : Nat) : nvs L ++ [.int .i64 (i : Int)] = nvs (L ++ [i]) := by simp [nvs]
theorem own_setCell {w : World} {B n g i : Nat} {v x : Value} {e : TypeId} {s : Nat} {xs : List Value} (h : w.ownsRow B e s v n xs) (hg : g < B) : (w.setCell ⟨g, i, none⟩ x).ownsRow B e s v n xs := by
  refine ⟨h.1, h.2.imp id fun ⟨b, cap, cur, h1, h2, h3, h4⟩ => ⟨b, cap, cur, h1, h2, (heap_setCell_other _ _ _ _ (by show b ≠ g; omega)).trans h3, h4⟩⟩
theorem mod_place (x : Int) {n : Nat} (hn : 1 ≤ n) : (-(n : Int) < x.tmod n ∧ x.tmod n < n) ∧ ∃ j : Nat, j < n ∧ x.tmod n % (n : Int) = j := by
  have h1 : -(n : Int) < x.tmod n := by
    rcases Int.le_total 0 x with h | h
    · have := Int.tmod_nonneg n h; omega
    · have h2 := Int.neg_tmod (a := -x) (b := (n : Int))
      have h3 := Int.tmod_lt_of_pos (-x) (show (0 : Int) < n by omega)
      rw [Int.neg_neg] at h2; omega
  have h2 := Int.tmod_lt_of_pos x (show (0 : Int) < n by omega)
  have h3 : 0 ≤ x.tmod n % (n : Int) := Int.emod_nonneg _ (by omega)
  have h4 := Int.emod_lt_of_pos (x.tmod n) (show (0 : Int) < n by omega)
  exact ⟨⟨h1, h2⟩, (x.tmod n % (n : Int)).toNat, by omega, by omega⟩
end Go.Proofs.YtkoakingmnjdoabDoor

/- What Carried of package half answers, at all numbers; nothing that was there turns. -/
namespace Go.Proofs.YtkoakingmnjdoabDoor
open Go.RowKit Gf
set_option linter.unusedVariables false
set_option maxRecDepth 20000
/-- what a parity carries -/
def carL (k g i : Nat) : List Nat := pickB (fun x => decide (carN g x = i)) k
def castL (L : List Nat) : List Int := L.map fun x => ((x : Nat) : Int)
theorem castL_len (L : List Nat) : (castL L).length = L.length := by simp [castL]
theorem nvs_cast (L : List Nat) : nvs L = (castL L).map (Value.int .i64) := by simp [nvs, castL]
theorem ownI_slice {w : World} {B n : Nat} {v : Value} {L : List Nat} (ho : w.ownsRow B 3 1 v n (nvs L)) : ∃ a cap, v = .slice a n cap ∧ RowI w a (castL L) ∧ n = L.length ∧ (a = none → cap = 0) := by
  have hl := ho.1
  rw [nvs, List.length_map] at hl
  rcases ho.2 with ⟨rfl, e⟩ | ⟨g, cap, cur, rfl, h2⟩
  · exact ⟨none, 0, by rw [e], .inl (by rw [List.eq_nil_of_length_eq_zero (l := L) (by omega)]; rfl), by omega, fun _ => rfl⟩
  · rw [nvs_cast] at ho
    exact ⟨_, _, rfl, rowI_own ho, by omega, fun h => by cases h⟩
end Go.Proofs.YtkoakingmnjdoabDoor

/- Plain algebra of stage 7: where the rows of 2k halves have full rank, each unit is a combination of them, and each table of lists is the image of one and only one list of data halves. -/
namespace Go.Proofs.YtkoakingmnjdoabDoor
open Go.RowKit Gf
set_option linter.unusedVariables false
set_option maxRecDepth 20000
/-- the rows of these halves -/
def numM (k : Nat) (car : Nat → Nat) (nl : List Nat) : Mt := fun i => halfF k car (nl.getD i 0)
def unitF (v : Nat) : Nat → F := fun j => if v = j then 1 else 0
theorem var_sol {c n v : Nat} {A : Mt} {x R D : Nat → F} (hv : v < c) (h : ∀ u, u < c → unitF v u = sumF (fun l => gm (A l u) (x l)) n) (hR : ∀ l, l < n → R l = sumF (fun u => gm (A l u) (D u)) c) :
    sumF (fun l => gm (x l) (R l)) n = D v := by
  rw [sumF_congr (fun l hl => by rw [hR l hl, sumF_mul_left]), sumF_swap (fun l u => gm (x l) (gm (A l u) (D u))) c n]
  rw [sumF_congr (g := fun u => gm (unitF v u) (D u)) (fun u hu => by
    rw [h u hu, sumF_mul_right]
    exact sumF_congr fun l _ => by rw [← F.mul_assoc, F.mul_comm (x l)])]
  rw [sumF_pick _ v c hv fun u _ hne => by simp [unitF, Ne.symm hne]]
  simp [unitF]
theorem full_units {A : Mt} {n : Nat} (h : (pivL A n n).length = n) : ∀ v, v < n → Dep (tr A) n n (unitF v) := fun v hv => by
  obtain ⟨R, h1, h2, _⟩ := red_ex A n n
  obtain ⟨e, he⟩ := h2 v hv
  refine ⟨e, fun i hi => ?_⟩
  have hu := h1.full_unit h v hv i hi
  show (if v = i then (1 : F) else 0) = _
  rw [← hu, he i hi]
  exact sumF_congr fun l _ => F.mul_comm _ _
theorem full_solve {A : Mt} {n : Nat} (h : (pivL A n n).length = n) (R : Nat → F) : ∃ D : Nat → F, ∀ i, i < n → R i = sumF (fun u => gm (A i u) (D u)) n := by
  have ht : (pivL (tr A) n n).length = n := by rw [rk_tr, h]
  have hz : ∀ v : Nat, ∃ x : Nat → F, v < n → ∀ i, i < n → unitF v i = sumF (fun l => gm (A i l) (x l)) n := fun v => by
    by_cases hv : v < n
    · obtain ⟨x, hx⟩ := full_units ht v hv
      exact ⟨x, fun _ i hi => hx i hi⟩
    · exact ⟨fun _ => 0, fun h => absurd h hv⟩
  obtain ⟨Z, hZ⟩ := Classical.axiomOfChoice hz
  refine ⟨fun u => sumF (fun v => gm (Z v u) (R v)) n, fun i hi => ?_⟩
  rw [sumF_congr (g := fun u => sumF (fun v => gm (A i u) (gm (Z v u) (R v))) n) (fun u _ => sumF_mul_left _ _ _)]
  rw [sumF_swap (fun u v => gm (A i u) (gm (Z v u) (R v))) n n]
  rw [sumF_congr (g := fun v => gm (unitF v i) (R v)) (fun v hv => by
    rw [hZ v hv i hi, sumF_mul_right]
    exact sumF_congr fun u _ => (F.mul_assoc _ _ _).symm)]
  rw [sumF_pick _ i n hi fun v _ hne => by simp [unitF, hne]]
  simp [unitF]
/-- the data halves of a table of lists -/
theorem full_table {A : Mt} {n : Nat} (h : (pivL A n n).length = n) (R : Nat → Nat → F) : ∃ D : Nat → Nat → F, ∀ i, i < n → ∀ b, R i b = sumF (fun u => gm (A i u) (D u b)) n := by
  obtain ⟨Y, hY⟩ := Classical.axiomOfChoice fun b : Nat => full_solve h fun i => R i b
  exact ⟨fun u b => Y b u, fun i hi b => hY b i hi⟩
theorem full_one {A : Mt} {n : Nat} (h : (pivL A n n).length = n) {R D E : Nat → F} (hD : ∀ i, i < n → R i = sumF (fun u => gm (A i u) (D u)) n) (hE : ∀ i, i < n → R i = sumF (fun u => gm (A i u) (E u)) n) : ∀ v, v < n → D v = E v := fun v hv => by
  obtain ⟨x, hx⟩ := full_units h v hv
  have h1 : ∀ u, u < n → unitF v u = sumF (fun l => gm (A l u) (x l)) n := fun u hu => hx u hu
  have e1 := var_sol (A := A) (x := x) (R := R) (D := D) hv h1 hD
  have e2 := var_sol (A := A) (x := x) (R := R) (D := E) hv h1 hE
  exact e1.symm.trans e2
/-- the rows of both halves of k shards have full rank -/
theorem num_rank {S : List Nat} {k n : Nat} {car : Nat → Nat} (hS : S.Nodup) (hl : S.length = k) (hn : ∀ x ∈ S, x < n) (hb : n ≤ 256) : (pivL (numM k car (bothH S)) (2 * k) (2 * k)).length = 2 * k :=
  half_rank hS hl hn hb
end Go.Proofs.YtkoakingmnjdoabDoor

/- Two numbers, two lists behind a list of one's own; shards in memory: a number and two halves each. -/
namespace Go.Proofs.YtkoakingmnjdoabDoor
open Go.RowKit Gf
set_option linter.unusedVariables false
set_option maxRecDepth 20000
theorem news_two {w : World} {b : Nat} {x y : Value} (hx : w.cell? ⟨b, 0, none⟩ = some x) (hy : w.cell? ⟨b, 1, none⟩ = some y) : ∀ j u, [x, y][j]? = some u → w.cell? ((⟨b, 0, none⟩ : Addr).add j) = some u := by
  intro j u h
  match j, h with
  | 0, h => obtain rfl := Option.some.inj h; simpa [Addr.add] using hx
  | 1, h => obtain rfl := Option.some.inj h; simpa [Addr.add] using hy
theorem appendS2 {w : World} {B n b c : Nat} {v x y : Value} {xs : List Value} (ty : TypeId) (ho : w.ownsRow B 22 1 v n xs) (hx : w.cell? ⟨b, 0, none⟩ = some x) (hy : w.cell? ⟨b, 1, none⟩ = some y) (h1 : x.oneCell' = true) (h2 : y.oneCell' = true) (hn : n ≤ 4096) (hB : B ≤ w.heap.size) :
    ∃ g cap w', (Builtin.append_ #[38, 38] ty #[v, .slice (some ⟨b, 0, none⟩) 2 c]).run Tryd.prog w = .ok (.slice (some ⟨g, 0, none⟩) (n + 2) cap) w' ∧
      w'.ownsRow B 22 1 (.slice (some ⟨g, 0, none⟩) (n + 2) cap) (n + 2) (xs ++ [x, y]) ∧ w.grownBy w' v.ownBlock ∧ (v.ownBlock = some g ∨ g = w.heap.size) ∧ g < w'.heap.size := by
  obtain ⟨i, hi, h2', h3, h4⟩ := infoS
  exact run_append_lies (P := Tryd.prog) w 38 ty B 22 i _ 1 24 Tryd.underlying38 hi h4 h2' h3 rfl (by decide) v n xs ho ⟨b, 0, none⟩ 2 c [x, y] rfl (news_two hx hy) (by simp [h1, h2]) (by decide) (by simp only [maxLen]; omega) (by omega) hB _ rfl
theorem appendI2 {w : World} {B n b c : Nat} {v : Value} {x y : Int} {xs : List Value} (ty : TypeId) (ho : w.ownsRow B 3 1 v n xs) (hx : w.cell? ⟨b, 0, none⟩ = some (.int .i64 x)) (hy : w.cell? ⟨b, 1, none⟩ = some (.int .i64 y)) (hn : n ≤ 1000000) (hB : B ≤ w.heap.size) :
    ∃ g cap w', (Builtin.append_ #[23, 23] ty #[v, .slice (some ⟨b, 0, none⟩) 2 c]).run Tryd.prog w = .ok (.slice (some ⟨g, 0, none⟩) (n + 2) cap) w' ∧
      w'.ownsRow B 3 1 (.slice (some ⟨g, 0, none⟩) (n + 2) cap) (n + 2) (xs ++ [.int .i64 x, .int .i64 y]) ∧ w.grownBy w' v.ownBlock ∧ (v.ownBlock = some g ∨ g = w.heap.size) ∧ g < w'.heap.size := by
  obtain ⟨i, hi, h2, h3, h4⟩ := infoI
  exact run_append_lies (P := Tryd.prog) w 23 ty B 3 i _ 1 8 Tryd.underlying23 hi h4 h2 h3 rfl (by decide) v n xs ho ⟨b, 0, none⟩ 2 c [.int .i64 x, .int .i64 y] rfl (news_two hx hy) (by simp [Value.oneCell']) (by decide) (by simp only [maxLen]; omega) (by omega) hB _ rfl
/-- shards in memory: the number and the two halves of each -/
def Sh8 (w : World) (a : Option Addr) (S : List (Int × List F × List F)) : Prop :=
  S = [] ∨ ∃ b off, a = some ⟨b, off, none⟩ ∧ ∀ j n xs ys, S[j]? = some (n, xs, ys) → ∃ a1 c1 a2 c2, w.cell? ⟨b, off + j * 3, none⟩ = some (.int .i64 n) ∧
    w.cell? ⟨b, off + j * 3 + 1, none⟩ = some (.slice a1 xs.length c1) ∧ w.cell? ⟨b, off + j * 3 + 2, none⟩ = some (.slice a2 ys.length c2) ∧ Row8 w a1 xs ∧ Row8 w a2 ys
theorem sh8_below {w w' : World} {a : Option Addr} {S : List (Int × List F × List F)} (h : Sh8 w a S) (hb : Below w.heap.size w w') : Sh8 w' a S := by
  rcases h with rfl | ⟨b, off, rfl, h⟩
  · exact .inl rfl
  · refine .inr ⟨b, off, rfl, fun j n xs ys hj => ?_⟩
    obtain ⟨a1, c1, a2, c2, h1, h2, h3, h4, h5⟩ := h j n xs ys hj
    exact ⟨a1, c1, a2, c2, cell_later hb h1, cell_later hb h2, cell_later hb h3, row8_below h4 hb, row8_below h5 hb⟩
end Go.Proofs.YtkoakingmnjdoabDoor

/- Shards' halves in their order; lists of one's own, two places on. -/
namespace Go.Proofs.YtkoakingmnjdoabDoor
open Go.RowKit Gf
set_option linter.unusedVariables false
set_option maxRecDepth 20000
/-- the halves of shards, in their order -/
def rowsS (S : List (Int × List F × List F)) : List (List F) := S.flatMap fun s => [s.2.1, s.2.2]
theorem rowsS_len : ∀ S, (rowsS S).length = 2 * S.length
  | [] => rfl
  | s :: S => by
    have := rowsS_len S
    simp only [rowsS, List.flatMap_cons, List.length_append, List.length_cons, List.length_nil] at this ⊢
    omega
theorem rowsS_snoc {S : List (Int × List F × List F)} {j : Nat} {s : Int × List F × List F} (h : S[j]? = some s) : rowsS (S.take (j + 1)) = rowsS (S.take j) ++ [s.2.1, s.2.2] := by
  rw [List.take_add_one, h]
  simp [rowsS]
theorem bothH_next {L : List Nat} {j s : Nat} (h : L[j]? = some s) : bothH (L.take (j + 1)) = bothH (L.take j) ++ [2 * s, 2 * s + 1] := by
  rw [List.take_add_one, h]
  simp [bothH]
theorem pairs_snoc {P : List F → Value → Prop} {L : List (List F)} {vs : List Value} {xs ys : List F} {x y : Value} (hl : vs.length = L.length) (h : ∀ (i : Nat) (zs : List F), L[i]? = some zs → ∃ v, vs[i]? = some v ∧ P zs v) (hx : P xs x) (hy : P ys y) :
    ∀ (i : Nat) (zs : List F), (L ++ [xs, ys])[i]? = some zs → ∃ v, (vs ++ [x, y])[i]? = some v ∧ P zs v := fun i zs hi => by
  by_cases hlt : i < L.length
  · rw [List.getElem?_append_left hlt] at hi
    rw [List.getElem?_append_left (by omega)]
    exact h i zs hi
  · rw [List.getElem?_append_right (by omega)] at hi
    rw [List.getElem?_append_right (by omega), hl]
    generalize i - L.length = q at hi
    match q, hi with
    | 0, hi => obtain rfl := Option.some.inj hi; exact ⟨x, rfl, hx⟩
    | 1, hi => obtain rfl := Option.some.inj hi; exact ⟨y, rfl, hy⟩
theorem own_kind7 {w w' : World} {B B' s s' n n' : Nat} {v v' : Value} {e e' : TypeId} {xs xs' : List Value} (ho : w.ownsRow B e s v n xs) (h : w.grownBy w' v.ownBlock) (hq : w.ownsRow B' e' s' v' n' xs') (hne : e' ≠ e) : w'.ownsRow B' e' s' v' n' xs' :=
  ⟨hq.1, hq.2.imp id fun ⟨g, cap, cur, h1, h2, h3, h4⟩ => ⟨g, cap, cur, h1, h2, own_other ho h h3 hne, h4⟩⟩
theorem castL_two (L : List Nat) (a b : Nat) : (castL (L ++ [a, b])).map (Value.int .i64) = (castL L).map (Value.int .i64) ++ [.int .i64 (a : Int), .int .i64 (b : Int)] := by simp [castL]
end Go.Proofs.YtkoakingmnjdoabDoor

/- What slices.Contains of numbers, and haveSize, halvesOf, numbersOf of package code answer, of all numbers and shards. -/
namespace Go.Proofs.YtkoakingmnjdoabDoor
open Go.RowKit Gf
set_option linter.unusedVariables false
set_option maxRecDepth 20000
/-- the first place of a number -/
def idxI (ns : List Int) (x : Int) : Int := if x ∈ ns then ((ns.idxOf x : Nat) : Int) else -1
set_option maxHeartbeats 1000000 in
theorem index_F (l cap : Nat) (a : Option Addr) (ns : List Int) (x : Int) (w : World) (hl : l = ns.length) (hl9 : l ≤ 1000000) (hX : RowI w a ns) :
    Calls Tryd.prog 45 #[.slice a l cap, .int .i64 x] w fun e w' => ∃ y : Int, e = .returned (.int .i64 y) ∧ (0 ≤ y ↔ x ∈ ns) ∧ w = w' := by
  have HL : Hid (l = ns.length) := hl
  have HX : Hid (RowI w a ns) := hX
  clear hl hX
  go_enter Tryd.func45, Tryd.ntmps45
  go_wp2
  go_loopw [8] (fun i wr => ∃ j : Nat, j ≤ l ∧ i = .int .i64 j ∧ wr = w ∧ (∀ q, q < j → ns[q]? ≠ some x)) (fun i _ => l - (intOf i).toNat)
  case atStart => exact ⟨0, by omega, rfl, rfl, fun q h => by omega⟩
  case round =>
    obtain ⟨j, hj, rfl, rfl, hq⟩ := hrel
    have HQ : Hid (∀ q, q < j → ns[q]? ≠ some x) := hq
    clear hq
    by_cases hlt : j < l
    · obtain ⟨b, off, rfl, hb, hc⟩ := rowI_cell HX.out (show j < ns.length by rw [← HL.out]; exact hlt)
      have c1 := hc j (by rw [← HL.out]; exact hlt)
      obtain ⟨y, hy⟩ : ∃ y, y = ns.getD j 0 := ⟨_, rfl⟩
      rw [← hy] at c1
      have HY : Hid (ns[j]? = some y) := by
        show _ = _
        rw [hy, List.getD_eq_getElem?_getD, List.getElem?_eq_getElem (by rw [← HL.out]; exact hlt)]; rfl
      clear hc hy
      by_cases he : x = y
      · have he' : (x == y) = true := by simp [he]
        have HE : Hid (x = y) := he
        clear he
        go_wp2
        go_ret
        exact ⟨j, rfl, ⟨fun _ => by rw [HE.out]; exact List.mem_of_getElem? HY.out, fun _ => by omega⟩, rfl⟩
      · have he' : (x == y) = false := by simp [he]
        have HE : Hid (¬ x = y) := he
        clear he
        go_wp2
        refine ⟨⟨j + 1, by omega, by go_num, by first | rfl | trivial, fun q hq => ?_⟩, by simp [intOf]; omega⟩
        by_cases hqj : q < j
        · exact HQ.out q hqj
        · obtain rfl : q = j := by omega
          rw [HY.out]
          exact fun h => HE.out (Option.some.inj h).symm
    · obtain rfl : j = l := by omega
      go_wp2
      go_ret
      refine ⟨-1, rfl, ⟨fun h => by omega, fun h => ?_⟩, rfl⟩
      obtain ⟨q, hq⟩ := List.mem_iff_getElem?.1 h
      exact absurd hq (HQ.out q (by have := (List.getElem?_eq_some_iff.1 hq).1; rw [HL.out]; exact this))
theorem contains_F (l cap : Nat) (a : Option Addr) (ns : List Int) (x : Int) (w : World) (hl : l = ns.length) (hl9 : l ≤ 1000000) (hX : RowI w a ns) :
    Calls Tryd.prog 28 #[.slice a l cap, .int .i64 x] w fun e w' => e = .returned (.bool (decide (x ∈ ns))) ∧ w = w' := by
  have HI : Hid _ := index_F l cap a ns x w hl hl9 hX
  clear hl hX
  go_enter Tryd.func28, Tryd.ntmps28
  go_wp2_with fail
  refine Calls.mono HI.out ?_
  rintro e w1 ⟨y, rfl, hy, rfl⟩
  have hd : decide (0 ≤ y) = decide (x ∈ ns) := by simp only [hy]
  have HD : Hid _ := hd
  clear hy hd
  go_wp2
  go_ret
  exact ⟨by rw [← HD.out]; rfl, rfl⟩
set_option maxHeartbeats 1000000 in
theorem haveSize_F (h l cap : Nat) (a : Option Addr) (L : List (List F)) (w : World) (hl : l = L.length) (hl9 : l ≤ 140737488355328) (hX : Rows8 w a L) :
    Calls Tryd.prog 14 #[.int .i64 h, .slice a l cap] w fun e w' => e = .returned (.bool (decide (∀ xs ∈ L, xs.length = h))) ∧ w = w' := by
  have HL : Hid (l = L.length) := hl
  have HX : Hid (Rows8 w a L) := hX
  clear hl hX
  go_enter Tryd.func14, Tryd.ntmps14
  go_wp2
  go_loopw [9] (fun i wr => ∃ j : Nat, j ≤ l ∧ i = .int .i64 j ∧ wr = w ∧ (∀ (q : Nat) (zs : List F), q < j → L[q]? = some zs → zs.length = h)) (fun i _ => l - (intOf i).toNat)
  case atStart => exact ⟨0, by omega, rfl, rfl, fun q _ h => by omega⟩
  case round =>
    obtain ⟨j, hj, rfl, rfl, hq⟩ := hrel
    have HQ : Hid (∀ (q : Nat) (zs : List F), q < j → L[q]? = some zs → zs.length = h) := hq
    clear hq
    by_cases hlt : j < l
    · obtain ⟨zs, hzs⟩ : ∃ zs, L[j]? = some zs := ⟨_, List.getElem?_eq_getElem (by rw [← HL.out]; exact hlt)⟩
      obtain ⟨bR, oR, rfl, hbR, hcR⟩ := rows8_at HX.out (List.getElem?_eq_some_iff.1 hzs).1
      obtain ⟨a', c', e1, _⟩ := hcR j zs hzs
      have HZS : Hid (L[j]? = some zs) := hzs
      clear hzs hcR
      by_cases hz : zs.length = h
      · have hz' : ((zs.length : Int) != (h : Int)) = false := by simp [hz]
        have HZ : Hid (zs.length = h) := hz
        clear hz
        go_wp2
        refine ⟨⟨j + 1, by omega, by go_num, by first | rfl | trivial, fun q ws hq hws => ?_⟩, by simp [intOf]; omega⟩
        by_cases hqi : q < j
        · exact HQ.out q ws hqi hws
        · obtain rfl : q = j := by omega
          rw [HZS.out] at hws
          obtain rfl := Option.some.inj hws
          exact HZ.out
      · have hz' : ((zs.length : Int) != (h : Int)) = true := by simp only [bne_iff_ne, ne_eq]; omega
        have HZ : Hid (¬ zs.length = h) := hz
        clear hz
        go_wp2
        go_ret
        have e9 : decide (∀ xs ∈ L, xs.length = h) = false := decide_eq_false fun h9 => HZ.out (h9 zs (List.mem_of_getElem? HZS.out))
        exact ⟨by rw [e9]; rfl, rfl⟩
    · obtain rfl : j = l := by omega
      go_wp2
      go_ret
      have e9 : decide (∀ xs ∈ L, xs.length = h) = true := decide_eq_true fun xs hx => by
        obtain ⟨q, hq⟩ := List.mem_iff_getElem?.1 hx
        exact HQ.out q xs (by have := (List.getElem?_eq_some_iff.1 hq).1; rw [HL.out]; exact this) hq
      exact ⟨by rw [e9]; rfl, rfl⟩
set_option maxHeartbeats 4000000 in
theorem halvesOf_F (l cap : Nat) (a : Option Addr) (S : List (Int × List F × List F)) (w : World) (hl : l = S.length) (hl9 : l ≤ 16) (h0 : 1 ≤ l) (hS : Sh8 w a S) :
    Calls Tryd.prog 13 #[.slice a l cap] w fun e w' => ∃ a9 c9 l9, e = .returned (.slice a9 l9 c9) ∧ l9 = 2 * l ∧ Rows8 w' a9 (rowsS S) ∧ Below w.heap.size w w' := by
  have HL : Hid (l = S.length) := hl
  have HS : Hid (Sh8 w a S) := hS
  clear hl hS
  go_enter Tryd.func13, Tryd.ntmps13
  go_wp2
  go_loopw [3, 8] (fun q i wr => ∃ j : Nat, ∃ vs : List Value, j ≤ l ∧ i = .int .i64 j ∧ Below w.heap.size w wr ∧ wr.ownsRow w.heap.size 22 1 q (2 * j) vs ∧
    ∀ (i : Nat) (zs : List F), (rowsS (S.take j))[i]? = some zs → ∃ v, vs[i]? = some v ∧ ∃ a' c', v = .slice a' zs.length c' ∧ Row8 w a' zs) (fun _ i _ => l - (intOf i).toNat)
  case atStart => exact ⟨0, [], by omega, rfl, Below.refl _ _, ⟨rfl, .inl ⟨rfl, rfl⟩⟩, fun i zs h => by simp [rowsS] at h⟩
  case round =>
    obtain ⟨j, vs, hj, rfl, hbw, hq, hvs⟩ := hrel
    have HBW : Hid (Below w.heap.size w wr) := hbw
    have HQ : Hid (wr.ownsRow w.heap.size 22 1 u3 (2 * j) vs) := hq
    have HVS : Hid (∀ (i : Nat) (zs : List F), (rowsS (S.take j))[i]? = some zs → ∃ v, vs[i]? = some v ∧ ∃ a' c', v = .slice a' zs.length c' ∧ Row8 w a' zs) := hvs
    clear hbw hq hvs
    by_cases hlt : j < l
    · have hjS : j < S.length := by rw [← HL.out]; exact hlt
      obtain ⟨⟨m, xs, ys⟩, hs⟩ : ∃ s, S[j]? = some s := ⟨_, List.getElem?_eq_getElem hjS⟩
      have HSJ : Hid (rowsS (S.take (j + 1)) = rowsS (S.take j) ++ [xs, ys]) := rowsS_snoc hs
      rcases HS.out with e0 | ⟨bS, oS, eS, hcS⟩
      · rw [e0] at hjS; simp at hjS
      subst eS
      obtain ⟨a1, l1, a2, l2, e1, e2, e3, r1, r2⟩ := hcS j m xs ys hs
      have c1 := cell_later HBW.out e1
      have c2 := cell_later HBW.out e2
      have c3 := cell_later HBW.out e3
      have R1 : Hid (Row8 w a1 xs) := r1
      have R2 : Hid (Row8 w a2 ys) := r2
      have c4 : Hid ((wr.alloc (.cells #[.int .i64 m, .slice a1 xs.length l1, .slice a2 ys.length l2] 36)).heap[wr.heap.size]? = some (.cells #[.int .i64 m, .slice a1 xs.length l1, .slice a2 ys.length l2] 36 (0, 0))) := heap_alloc_last _ _
      have B7 : Hid (Below w.heap.size w (wr.alloc (.cells #[.int .i64 m, .slice a1 xs.length l1, .slice a2 ys.length l2] 36))) := HBW.out.alloc HBW.out.size _
      have Q8 : Hid ((wr.alloc (.cells #[.int .i64 m, .slice a1 xs.length l1, .slice a2 ys.length l2] 36)).ownsRow w.heap.size 22 1 u3 (2 * j) vs) := World.ownsRow.alloc HQ.out _
      clear hs hcS e1 e2 e3 r1 r2
      go_upto_region 5 with fail
      clear c1 c2 c3
      generalize (wr.alloc (.cells #[.int .i64 m, .slice a1 xs.length l1, .slice a2 ys.length l2] 36)) = W7 at *
      generalize wr.heap.size = N at *
      have d1 := cellAt c4.out 1 _ rfl
      have d2 := cellAt c4.out 2 _ rfl
      have hq9 := World.ownsRow.alloc Q8.out (.cells #[.slice a1 xs.length l1, .slice a2 ys.length l2] 22)
      have zz := B7.out.size
      obtain ⟨gQ, capQ, wQ, hrunQ, hqQ, hgrQ, horQ, hltQ⟩ := appendS2 (b := W7.heap.size) (c := 2) (x := .slice a1 xs.length l1) (y := .slice a2 ys.length l2) 38 hq9 (cellAt (heap_alloc_last W7 _) 0 _ rfl) (cellAt (heap_alloc_last W7 _) 1 _ rfl) rfl rfl (by omega) (by simp; omega)
      have hbQ := below_own (B := w.heap.size) (B7.out.alloc B7.out.size (.cells #[.slice a1 xs.length l1, .slice a2 ys.length l2] 22)) hq9 hgrQ (by simp; omega)
      have HRQ : Hid _ := hrunQ
      have HBQ : Hid (Below w.heap.size w wQ) := hbQ
      have HQQ : Hid (wQ.ownsRow w.heap.size 22 1 (.slice (some ⟨gQ, 0, none⟩) (2 * j + 2) capQ) (2 * j + 2) (vs ++ [.slice a1 xs.length l1, .slice a2 ys.length l2])) := hqQ
      have hvl : vs.length = (rowsS (S.take j)).length := by
        have h1 := HQ.out.1
        rw [rowsS_len, List.length_take]; omega
      have HV2 : Hid (∀ (i : Nat) (zs : List F), (rowsS (S.take (j + 1)))[i]? = some zs → ∃ v, (vs ++ [.slice a1 xs.length l1, .slice a2 ys.length l2])[i]? = some v ∧ ∃ a' c', v = .slice a' zs.length c' ∧ Row8 w a' zs) := by
        show ∀ (i : Nat) (zs : List F), _
        rw [HSJ.out]
        exact pairs_snoc (P := fun zs v => ∃ a' c', v = .slice a' zs.length c' ∧ Row8 w a' zs) hvl HVS.out ⟨a1, l1, rfl, R1.out⟩ ⟨a2, l2, rfl, R2.out⟩
      clear hq9 zz hrunQ hqQ hgrQ horQ hltQ hbQ hvl
      go_wp2_with (at_builtin; refine wpList_append_run rfl _ _ 38 rfl _ _ _ _ rfl rfl HRQ.out ?_)
      exact ⟨⟨j + 1, _, by omega, by go_num, HBQ.out, HQQ.out, HV2.out⟩, by simp [intOf]; omega⟩
    · obtain rfl : j = l := by omega
      have hR : ∃ a9 c9, u3 = .slice a9 (2 * j) c9 ∧ Rows8 wr a9 (rowsS S) := by
        have hvs := HVS.out
        rw [List.take_of_length_le (by rw [← HL.out]; exact Nat.le_refl _)] at hvs
        rcases HQ.out.2 with ⟨e, e0⟩ | ⟨g, cap, cur, e, hg⟩
        · omega
        · refine ⟨some ⟨g, 0, none⟩, cap, e, .inr ⟨g, 0, rfl, fun i zs hi => ?_⟩⟩
          obtain ⟨v, hv, a', c', rfl, hr⟩ := hvs i zs hi
          have hil : i < 2 * j := by
            have := (List.getElem?_eq_some_iff.1 hi).1
            rw [rowsS_len, ← HL.out] at this; exact this
          have hoe := HQ.out
          rw [e] at hoe
          refine ⟨a', c', ?_, row8_below hr HBW.out⟩
          rw [Nat.zero_add, hoe.cellAt i (by rw [Nat.mul_one]; exact hil)]
          exact hv
      obtain ⟨a9, c9, rfl, hR9⟩ := hR
      have HR9 : Hid (Rows8 wr a9 (rowsS S)) := hR9
      clear HQ HVS hR9
      go_wp2
      go_ret
      exact ⟨a9, c9, _, rfl, rfl, HR9.out, HBW.out⟩
end Go.Proofs.YtkoakingmnjdoabDoor

/- What numbersOf of package code answers, of all shards: the numbers of their halves, or ErrHalf. -/
namespace Go.Proofs.YtkoakingmnjdoabDoor
open Go.RowKit Gf
set_option linter.unusedVariables false
set_option maxRecDepth 20000
/-- shards whose numbers are in range and apart -/
def GoodT (k r : Nat) (T : List (Int × List F × List F)) : Prop := (∀ s ∈ T, 0 ≤ s.1 ∧ s.1 < k + r) ∧ (T.map fun s => s.1).Nodup
/-- their numbers -/
def numT (T : List (Int × List F × List F)) : List Nat := T.map fun s => s.1.toNat
theorem numT_len (T : List (Int × List F × List F)) : (numT T).length = T.length := by simp [numT]
theorem numT_mem {k r : Nat} {T : List (Int × List F × List F)} {m : Int} (h : GoodT k r T) (hm : 0 ≤ m) : m.toNat ∈ numT T ↔ m ∈ T.map fun s => s.1 := by
  simp only [numT, List.mem_map]
  refine ⟨fun ⟨s, hs, e⟩ => ⟨s, hs, ?_⟩, fun ⟨s, hs, e⟩ => ⟨s, hs, by rw [e]⟩⟩
  have := (h.1 s hs).1
  omega
theorem good_nil (k r : Nat) : GoodT k r [] := ⟨by simp, by simp⟩
theorem good_snoc {k r : Nat} {T : List (Int × List F × List F)} {s : Int × List F × List F} (h : GoodT k r T) (h0 : 0 ≤ s.1) (h1 : s.1 < k + r) (hn : s.1.toNat ∉ numT T) : GoodT k r (T ++ [s]) := by
  refine ⟨fun t ht => ?_, ?_⟩
  · rcases List.mem_append.1 ht with ht | ht
    · exact h.1 t ht
    · obtain rfl := List.mem_singleton.1 ht
      exact ⟨h0, h1⟩
  · rw [List.map_append, List.nodup_append]
    refine ⟨h.2, by simp, fun x hx y hy e => ?_⟩
    simp only [List.map_cons, List.map_nil, List.mem_singleton] at hy
    subst hy
    subst e
    exact hn ((numT_mem h h0).2 hx)
theorem good_take {k r j : Nat} {S : List (Int × List F × List F)} (h : GoodT k r S) : GoodT k r (S.take j) :=
  ⟨fun s hs => h.1 s (List.mem_of_mem_take hs), (List.Sublist.map _ (List.take_sublist j S)).nodup h.2⟩
theorem good_dup {k r j : Nat} {S : List (Int × List F × List F)} {s : Int × List F × List F} (hs : S[j]? = some s) (h0 : 0 ≤ s.1) (hT : GoodT k r (S.take j)) (hd : s.1.toNat ∈ numT (S.take j)) : ¬ GoodT k r S := fun h => by
  have h1 := (good_take (j := j + 1) h).2
  rw [List.take_add_one, hs, Option.toList_some, List.map_append, List.nodup_append] at h1
  exact h1.2.2 _ ((numT_mem hT h0).1 hd) s.1 (by simp) rfl
theorem good_range {k r j : Nat} {S : List (Int × List F × List F)} {s : Int × List F × List F} (hs : S[j]? = some s) (hr : ¬ (0 ≤ s.1 ∧ s.1 < k + r)) : ¬ GoodT k r S := fun h => hr (h.1 s (List.mem_of_getElem? hs))
theorem good_nums {k r : Nat} {S : List (Int × List F × List F)} (h : GoodT k r S) : (∀ j s, S[j]? = some s → s.1 = (((numT S).getD j 0 : Nat) : Int)) ∧ (∀ x ∈ numT S, x < k + r) ∧ (numT S).Nodup := by
  refine ⟨fun j s hs => ?_, fun x hx => ?_, ?_⟩
  · have := (h.1 s (List.mem_of_getElem? hs)).1
    simp only [numT, List.getD_eq_getElem?_getD, List.getElem?_map, hs, Option.map_some, Option.getD_some]
    omega
  · simp only [numT, List.mem_map] at hx
    obtain ⟨s, hs, rfl⟩ := hx
    have := h.1 s hs
    omega
  · have : ∀ T : List (Int × List F × List F), GoodT k r T → (numT T).Nodup := by
      intro T
      induction T with
      | nil => intro _; simp [numT]
      | cons t T ih =>
        intro h
        have hT : GoodT k r T := ⟨fun s hs => h.1 s (List.mem_cons_of_mem _ hs), by have := h.2; rw [List.map_cons, List.nodup_cons] at this; exact this.2⟩
        rw [numT, List.map_cons, List.nodup_cons]
        refine ⟨fun hm => ?_, ih hT⟩
        have h2 := h.2
        rw [List.map_cons, List.nodup_cons] at h2
        exact h2.1 ((numT_mem hT (h.1 t (List.mem_cons_self ..)).1).1 hm)
    exact this S h
/-- the numbers with p halves of shard s behind -/
def bothN (L : List Nat) (s p : Nat) : List Nat := bothH L ++ (List.range p).map fun q => 2 * s + q
theorem bothN_zero (L : List Nat) (s : Nat) : bothN L s 0 = bothH L := by simp [bothN]
theorem bothN_two (L : List Nat) (s : Nat) : bothN L s 2 = bothH (L ++ [s]) := by simp [bothN, bothH, List.range_succ]
theorem bothN_snoc (L : List Nat) (s p : Nat) : bothN L s p ++ [2 * s + p] = bothN L s (p + 1) := by simp [bothN, List.range_succ]
theorem bothN_len (L : List Nat) (s p : Nat) : (bothN L s p).length = 2 * L.length + p := by simp [bothN, bothH_len]
theorem bothN_mem {L : List Nat} {s p : Nat} (hp : p < 2) : 2 * s + p ∈ bothN L s p ↔ s ∈ L := by
  simp only [bothN, bothH, List.mem_append, List.mem_flatMap, List.mem_map, List.mem_range, List.mem_cons, List.not_mem_nil, or_false]
  constructor
  · rintro (⟨x, hx, h | h⟩ | ⟨q, hq, h⟩)
    · obtain rfl : x = s := by omega
      exact hx
    · obtain rfl : x = s := by omega
      exact hx
    · omega
  · exact fun h => .inl ⟨s, h, by omega⟩
theorem castL_mem {L : List Nat} {x : Nat} : ((x : Nat) : Int) ∈ castL L ↔ x ∈ L := by
  simp only [castL, List.mem_map]
  exact ⟨fun ⟨y, hy, e⟩ => by obtain rfl : y = x := by omega
                              exact hy, fun h => ⟨x, h, rfl⟩⟩
set_option maxHeartbeats 4000000 in
theorem numbersOf_F (k r l cap : Nat) (a : Option Addr) (S : List (Int × List F × List F)) (w : World) (s0 : Addr) (hs0 : w.cell? ⟨4, 0, none⟩ = some (errAt s0)) (h1 : 1 ≤ k) (h2 : 2 ≤ r) (h3 : k + r ≤ 16) (hl : l = S.length) (hl9 : l ≤ 140737488355328) (hS : Sh8 w a S) :
    Calls Tryd.prog 12 #[.int .i64 k, .int .i64 r, .slice a l cap] w fun e w' =>
      (l = k ∧ GoodT k r S ∧ (∃ a8 c8, e = .returned (.tuple #[.slice a8 (2 * k) c8, .nilIface]) ∧ RowI w' a8 (castL (bothH (numT S))) ∧ Below w.heap.size w w')) ∨
      (¬ (l = k ∧ GoodT k r S) ∧ e = .returned (.tuple #[.slice none 0 0, errAt s0]) ∧ Below w.heap.size w w') := by
  have hlt0 := World.block_lt_of_cell? w _ hs0
  simp at hlt0
  have HS0 : Hid _ := hs0
  have HL : Hid (l = S.length) := hl
  have HS : Hid (Sh8 w a S) := hS
  clear hl hS hs0
  unfold errAt at *
  by_cases hlk : l = k
  · have hlk' : ((l : Int) != (k : Int)) = false := by simp [hlk]
    have HLK : Hid (l = k) := hlk
    have hl16 : l ≤ 14 := by omega
    clear hlk hl9
    go_enter Tryd.func12, Tryd.ntmps12
    go_wp2
    go_loopw [8, 21] (fun p i wr => ∃ j : Nat, j ≤ l ∧ i = .int .i64 j ∧ Below w.heap.size w wr ∧ GoodT k r (S.take j) ∧ wr.ownsRow w.heap.size 3 1 p (2 * j) (nvs (bothH (numT (S.take j))))) (fun _ i _ => l - (intOf i).toNat)
    case atStart => exact ⟨0, by omega, rfl, Below.refl _ _, by simpa using good_nil k r, ⟨rfl, .inl ⟨rfl, rfl⟩⟩⟩
    case round =>
      obtain ⟨j, hj, rfl, hbw, hgd, hp⟩ := hrel
      have HBW : Hid (Below w.heap.size w wr) := hbw
      have HGD : Hid (GoodT k r (S.take j)) := hgd
      have HP : Hid (wr.ownsRow w.heap.size 3 1 u8 (2 * j) (nvs (bothH (numT (S.take j))))) := hp
      clear hbw hgd hp
      by_cases hlt : j < l
      · have hjS : j < S.length := by rw [← HL.out]; exact hlt
        obtain ⟨⟨m, xs, ys⟩, hs⟩ : ∃ s, S[j]? = some s := ⟨_, List.getElem?_eq_getElem hjS⟩
        rcases HS.out with e0 | ⟨bS, oS, eS, hcS⟩
        · rw [e0] at hjS; simp at hjS
        subst eS
        obtain ⟨a1, l1, a2, l2, e1, e2, e3, r1, r2⟩ := hcS j m xs ys hs
        have c1 := cell_later HBW.out e1
        have c2 := cell_later HBW.out e2
        have c3 := cell_later HBW.out e3
        have HSJ : Hid (S[j]? = some (m, xs, ys)) := hs
        clear hs hcS e1 e2 e3 r1 r2
        have c4 : Hid ((wr.alloc (.cells #[.int .i64 m, .slice a1 xs.length l1, .slice a2 ys.length l2] 36)).heap[wr.heap.size]? = some (.cells #[.int .i64 m, .slice a1 xs.length l1, .slice a2 ys.length l2] 36 (0, 0))) := heap_alloc_last _ _
        have B7 : Hid (Below w.heap.size w (wr.alloc (.cells #[.int .i64 m, .slice a1 xs.length l1, .slice a2 ys.length l2] 36))) := HBW.out.alloc HBW.out.size _
        have P7 : Hid ((wr.alloc (.cells #[.int .i64 m, .slice a1 xs.length l1, .slice a2 ys.length l2] 36)).ownsRow w.heap.size 3 1 u8 (2 * j) (nvs (bothH (numT (S.take j))))) := World.ownsRow.alloc HP.out _
        have hN0 : w.heap.size ≤ wr.heap.size := HBW.out.size
        go_wp2
        clear c1 c2 c3 HP HBW
        generalize (wr.alloc (.cells #[.int .i64 m, .slice a1 xs.length l1, .slice a2 ys.length l2] 36)) = W7 at *
        generalize wr.heap.size = N at *
        generalize hwo : wr = wo at *
        clear hwo
        go_loopw [8, 25] (fun q i wq => ∃ p : Nat, p ≤ 2 ∧ i = .int .i64 p ∧ Below w.heap.size w wq ∧ wq.ownsRow w.heap.size 3 1 q (2 * j + p) (nvs (bothN (numT (S.take j)) m.toNat p)) ∧ wq.heap[N]? = some (.cells #[.int .i64 m, .slice a1 xs.length l1, .slice a2 ys.length l2] 36 (0, 0)) ∧
          (p = 0 ∨ (0 ≤ m ∧ m < k + r) ∧ m.toNat ∉ numT (S.take j))) (fun _ i _ => 2 - (intOf i).toNat)
        case atStart => exact ⟨0, by omega, rfl, B7.out, by rw [bothN_zero]; exact P7.out, c4.out, .inl rfl⟩
        case round =>
          obtain ⟨p, hp2, rfl, hbw, hq, hN, hok⟩ := hrel
          have HBW : Hid (Below w.heap.size w wr) := hbw
          have HQ : Hid (wr.ownsRow w.heap.size 3 1 u8 (2 * j + p) (nvs (bothN (numT (S.take j)) m.toNat p))) := hq
          have HN : Hid (wr.heap[N]? = some (.cells #[.int .i64 m, .slice a1 xs.length l1, .slice a2 ys.length l2] 36 (0, 0))) := hN
          have HOK : Hid (p = 0 ∨ (0 ≤ m ∧ m < k + r) ∧ m.toNat ∉ numT (S.take j)) := hok
          have d0 := cellAt hN 0 _ rfl
          clear hbw hN hok
          by_cases hpl : p < 2
          · have hpi : (p : Int) < 2 := by omega
            obtain ⟨a5, c5, e5, hr5, hl5, _⟩ := ownI_slice hq
            clear hq
            subst e5
            have HR5 : Hid (RowI wr a5 (castL (bothN (numT (S.take j)) m.toNat p))) := hr5
            have hl5' : 2 * j + p = (bothN (numT (S.take j)) m.toNat p).length := hl5
            have HL5 : Hid (2 * j + p = (bothN (numT (S.take j)) m.toNat p).length) := hl5'
            clear hl5 hl5' hr5
            by_cases hin : 0 ≤ m ∧ m < k + r
            · obtain ⟨x, rfl⟩ := Int.eq_ofNat_of_zero_le hin.1
              have hx : x < k + r := by omega
              clear hin
              rw [Int.toNat_natCast] at HQ HR5 HL5 HOK
              obtain ⟨y, hy⟩ : ∃ y, y = 2 * x + p := ⟨_, rfl⟩
              have HOF : Hid _ := fun u => hof_ok k r x p u h1 h2 h3 hx hpl
              rw [← hy] at HOF
              have HY : Hid (y = 2 * x + p) := hy
              have hy9 : y ≤ 100 := by omega
              clear hy
              go_wp2_with fail
              refine Calls.mono (HOF.out _) ?_
              rintro e w4 ⟨rfl, hb4⟩
              have HB4 : Hid (Below w.heap.size w w4) := HBW.out.trans (hb4.mono HBW.out.size)
              have HQ4 : Hid (w4.ownsRow w.heap.size 3 1 (.slice a5 (2 * j + p) c5) (2 * j + p) (nvs (bothN (numT (S.take j)) x p))) := own_below HQ.out hb4
              have HN4 : Hid (w4.heap[N]? = some (.cells #[.int .i64 x, .slice a1 xs.length l1, .slice a2 ys.length l2] 36 (0, 0))) := heap_later HN.out hb4
              have HR4 : Hid (RowI w4 a5 (castL (bothN (numT (S.take j)) x p))) := rowI_below HR5.out hb4
              clear hb4 d0 HQ HN HR5 HBW
              go_wp2_with fail
              refine Calls.mono (contains_F (2 * j + p) c5 a5 (castL (bothN (numT (S.take j)) x p)) y _ (by rw [castL_len]; exact HL5.out) (by omega) HR4.out) ?_
              rintro e w5 ⟨rfl, rfl⟩
              by_cases hd : x ∈ numT (S.take j)
              · have e9 : decide ((y : Int) ∈ castL (bothN (numT (S.take j)) x p)) = true := decide_eq_true (castL_mem.2 (by rw [HY.out]; exact (bothN_mem hpl).2 hd))
                rw [e9]
                have HD : Hid (x ∈ numT (S.take j)) := hd
                clear hd e9
                have c9 := (HB4.out.cell (p := ⟨4, 0, none⟩) hlt0).trans HS0.out
                go_wp2_with fail
                go_region
                go_wp2
                go_ret2
                exact .inr ⟨fun h => good_dup HSJ.out (by show (0 : Int) ≤ (x : Int); omega) HGD.out (by show (x : Int).toNat ∈ _; rw [Int.toNat_natCast]; exact HD.out) h.2, rfl, HB4.out.drew⟩
              · have e9 : decide ((y : Int) ∈ castL (bothN (numT (S.take j)) x p)) = false := decide_eq_false fun h => hd (by rw [HY.out] at h; exact (bothN_mem hpl).1 (castL_mem.1 h))
                rw [e9]
                have HD : Hid (x ∉ numT (S.take j)) := hd
                clear hd e9
                have ho4 := World.ownsRow.alloc HQ4.out (.cells #[.int .i64 y] 3)
                have zz := HB4.out.size
                obtain ⟨gQ, capQ, wQ, hrunQ, hqQ, hgrQ, horQ, hltQ⟩ := appendI (b := w4.heap.size) (c := 1) (x := (y : Int)) 23 ho4 (cellAt (heap_alloc_last w4 _) 0 _ rfl) (by omega) (by simp; omega)
                rw [nvs_snoc] at hqQ
                have hbQ := below_own (B := w.heap.size) (HB4.out.alloc HB4.out.size (.cells #[.int .i64 y] 3)) ho4 hgrQ (by simp; omega)
                have HRQ : Hid _ := hrunQ
                have HBQ : Hid (Below w.heap.size w wQ) := hbQ
                have HQQ : Hid (wQ.ownsRow w.heap.size 3 1 (.slice (some ⟨gQ, 0, none⟩) (2 * j + p + 1) capQ) (2 * j + p + 1) (nvs (bothN (numT (S.take j)) x (p + 1)))) := by
                  rw [HY.out, bothN_snoc] at hqQ; exact hqQ
                have HNQ : Hid (wQ.heap[N]? = some (.cells #[.int .i64 x, .slice a1 xs.length l1, .slice a2 ys.length l2] 36 (0, 0))) := own_other ho4 hgrQ ((Below.heap_alloc _ _ _ (ltHeap HN4.out)).trans HN4.out) (by decide)
                clear ho4 zz hrunQ hqQ hgrQ horQ hltQ hbQ
                go_wp2_with (at_builtin; refine wpList_append_run rfl _ _ 23 rfl _ _ _ _ rfl rfl HRQ.out ?_)
                exact ⟨⟨p + 1, by omega, by go_num, HBQ.out, by rw [Int.toNat_natCast]; exact HQQ.out, HNQ.out, .inr ⟨⟨by omega, by omega⟩, by rw [Int.toNat_natCast]; exact HD.out⟩⟩, by simp [intOf]; omega⟩
            · have HIN : Hid (¬ (0 ≤ m ∧ m < k + r)) := hin
              have c9 := (HBW.out.cell (p := ⟨4, 0, none⟩) hlt0).trans HS0.out
              have HOF : Hid _ := hof_no k r m p wr s0 c9 h1 h2 h3 (fun h => HIN.out h.1)
              unfold errAt at HOF
              clear hin c9
              go_wp2_with fail
              refine Calls.mono HOF.out ?_
              rintro e w4 ⟨rfl, hb4⟩
              have HB4 : Hid (Below w.heap.size w w4) := HBW.out.trans (hb4.mono HBW.out.size)
              clear hb4 d0
              go_wp2_with fail
              go_ret2
              exact .inr ⟨fun h => good_range HSJ.out HIN.out h.2, rfl, HB4.out⟩
          · obtain rfl : p = 2 := by omega
            have hok := HOK.out
            rcases hok with hok | ⟨hin, hnd⟩
            · omega
            have HT : Hid (S.take (j + 1) = S.take j ++ [(m, xs, ys)]) := by
              show _ = _
              rw [List.take_add_one, HSJ.out]; rfl
            have HG2 : Hid (GoodT k r (S.take (j + 1))) := by
              show GoodT k r _
              rw [HT.out]; exact good_snoc HGD.out hin.1 hin.2 hnd
            have HP2 : Hid (wr.ownsRow w.heap.size 3 1 u8 (2 * j + 2) (nvs (bothH (numT (S.take (j + 1)))))) := by
              show World.ownsRow ..
              have e9 : numT (S.take (j + 1)) = numT (S.take j) ++ [m.toNat] := by rw [HT.out]; simp [numT]
              rw [e9, ← bothN_two]; exact HQ.out
            clear hq hin hnd d0
            go_wp2
            exact ⟨⟨j + 1, by omega, by go_num, HBW.out, HG2.out, HP2.out⟩, by simp [intOf]; omega⟩
      · obtain rfl : j = l := by omega
        have hp := HP.out
        have hgd := HGD.out
        rw [List.take_of_length_le (by rw [← HL.out]; exact Nat.le_refl _)] at hp hgd
        obtain ⟨a5, c5, e5, hr5, hl5, _⟩ := ownI_slice hp
        subst e5
        have HR5 : Hid _ := hr5
        have HG5 : Hid _ := hgd
        clear hp hgd hr5 hl5 HP
        go_wp2
        go_ret2
        exact .inl ⟨HLK.out, HG5.out, a5, c5, by rw [HLK.out]; rfl, HR5.out, HBW.out⟩
  · have hlk' : ((l : Int) != (k : Int)) = true := by simp only [bne_iff_ne, ne_eq]; omega
    have HLK : Hid (¬ l = k) := hlk
    have c9 := HS0.out
    clear hlk
    go_enter Tryd.func12, Tryd.ntmps12
    go_wp2
    go_region
    go_wp2
    go_ret2
    exact .inr ⟨fun h => HLK.out h.1, rfl, (Below.refl _ _).drew⟩
end Go.Proofs.YtkoakingmnjdoabDoor

/- The rows of the halves of any k shards, taken out of all rows: their rank. -/
namespace Go.Proofs.YtkoakingmnjdoabDoor
open Go.RowKit Gf
set_option linter.unusedVariables false
set_option maxRecDepth 20000
theorem bothH_snoc (L : List Nat) (s : Nat) : bothH (L ++ [s]) = bothH L ++ [2 * s, 2 * s + 1] := by simp [bothH]
theorem bothH_lt {L : List Nat} {n : Nat} (h : ∀ x ∈ L, x < n) : ∀ x ∈ bothH L, x < 2 * n := fun x hx => by
  simp only [bothH, List.mem_flatMap, List.mem_cons, List.not_mem_nil, or_false] at hx
  obtain ⟨s, hs, rfl | rfl⟩ := hx
  · have := h s hs; omega
  · have := h s hs; omega
theorem htakeM_grid {k n : Nat} {xs : List F} {A : Nat → Nat → F} {L : List Nat} (hn : ∀ x ∈ L, x < n) (hx : xs = grid k A n) : (takeM k xs (castL L)).flatten = grid k (fun i j => A (L.getD i 0) j) L.length := by
  subst hx
  rw [grid_flat k (fun i j => A (L.getD i 0) j)]
  congr 1
  apply List.ext_getElem
  · simp [takeM, castL]
  · intro i h1 h2
    have hi : i < L.length := by simpa [takeM, castL] using h1
    have e : L.getD i 0 = L[i] := by simp [List.getD, hi]
    simp only [takeM, castL, List.getElem_map, List.getElem_range, Int.toNat_natCast]
    rw [rowAt_grid (hn _ (List.getElem_mem hi)), e]
theorem half_take {k r : Nat} {L : List Nat} (hd : L.Nodup) (hl : L.length = k) (hn : ∀ x ∈ L, x < k + r) (h3 : k + r ≤ 16) :
    (pivL (cellF (2 * k) (takeM (2 * k) (halfM k r) (castL (bothH L))).flatten) (2 * k) (2 * k)).length = 2 * k := by
  rw [htakeM_grid (xs := halfM k r) (A := halfF k (carN (groupN k r))) (bothH_lt hn) rfl, pivL_congr (B := fun i j => halfF k (carN (groupN k r)) ((bothH L).getD i 0) j) (fun i hi j hj => by
    rw [bothH_len, hl]; exact at8_grid hi hj)]
  exact half_rank hd hl hn (by omega)
theorem htake_yes (r c l cap ln cn : Nat) (a an : Option Addr) (xs : List F) (ns : List Int) (w : World) (hr : r ≤ 64) (hc : c ≤ 64) (hl : l = r * c) (hx : xs.length = r * c) (hcap : l ≤ cap) (hX : Row8 w a xs) (hnil : a = none → cap = 0)
    (hln : ln = ns.length) (hn : ln ≤ 64) (hN : RowI w an ns) (s : Addr) (hs : w.cell? ⟨2, 0, none⟩ = some (errAt s)) (hall : ∀ n ∈ ns, 0 ≤ n ∧ n < r) :
    Calls Tryd.prog 29 #[.agg #[.int .i64 r, .int .i64 c, .slice a l cap], .slice an ln cn] w fun e w' =>
      ∃ g m, e = .returned (.tuple #[.agg #[.int .i64 ln, .int .i64 c, .slice (some ⟨g, 0, none⟩) m m], .nilIface]) ∧ m = ln * c ∧ w.heap.size ≤ g ∧
        w'.heap[g]? = some (.cells (vfs (takeM c xs ns).flatten) 5 (0, 0)) ∧ Below w.heap.size w w' :=
  (take_F r c l cap ln cn a an xs ns w hr hc hl hx hcap hX hnil hln hn hN s hs).mono fun e w' h => h.elim (fun h => h.2) (fun h => absurd hall h.1)
end Go.Proofs.YtkoakingmnjdoabDoor

/- What Decode of package code answers, of all numbers and shards where k, r and the size are legal; the refusals. -/
namespace Go.Proofs.YtkoakingmnjdoabDoor
open Go.RowKit Gf
set_option linter.unusedVariables false
set_option maxRecDepth 20000
theorem comb_inv {c H i : Nat} {Y A : Mt} {L : List (List F)} {D : Nat → Nat → F} (hI : InvOf c A Y) (hD : ∀ i, i < c → ∀ b, b < H → bytesD L i b = sumF (fun u => gm (A i u) (D u b)) c) (hi : i < c) : combL c H (grid c Y c) L i = rowF H (D i) :=
  rowF_congr fun b hb => by
    rw [sumF_congr (g := fun v => sumF (fun u => gm (gm (Y i v) (A v u)) (D u b)) c) (fun v hv => by
      rw [at8_grid hi hv, hD v hv b hb, sumF_mul_left]
      exact sumF_congr fun u _ => (F.mul_assoc _ _ _).symm), sumF_swap (fun v u => gm (gm (Y i v) (A v u)) (D u b)) c c]
    rw [sumF_congr (g := fun u => gm (if i = u then 1 else 0) (D u b)) (fun u hu => by
      rw [← hI.left i hi u hu, mulF, sumF_mul_right])]
    rw [sumF_pick _ i c hi fun u _ hne => by rw [if_neg (fun e => hne e.symm), F.zero_mul]]
    rw [if_pos rfl, F.one_mul]
set_option maxHeartbeats 4000000 in
theorem undo_F (k r H c m l1 l2 c1 c2 : Nat) (a1 g : Nat) (an ah : Option Addr) (nums : List Nat) (L : List (List F)) (D : Nat → Nat → F) (w : World) (s2 s11 : Addr) (hs2 : w.cell? ⟨6, 0, none⟩ = some (errAt s2)) (hs11 : w.cell? ⟨2, 0, none⟩ = some (errAt s11))
    (h1 : 1 ≤ k) (h2 : 2 ≤ r) (h3 : k + r ≤ 16) (hH : H ≤ 64) (hc : c = 2 * k) (ha1 : a1 = 2 * (k + r)) (hm : m = a1 * c) (hG : w.heap[g]? = some (.cells (vfs (halfM k r)) 5 (0, 0)))
    (hl1 : l1 = c) (hN : RowI w an (castL (bothH nums))) (hnl : nums.length = k) (hin : ∀ x ∈ nums, x < k + r) (hnd : nums.Nodup) (hl2 : l2 = c) (hL : L.length = c) (hLH : ∀ ys ∈ L, ys.length = H) (hLX : Rows8 w ah L)
    (hD : ∀ i, i < 2 * k → ∀ b, b < H → bytesD L i b = sumF (fun u => gm (numM k (carN (groupN k r)) (bothH nums) i u) (D u b)) (2 * k)) :
    Calls Tryd.prog 15 #[.agg #[.int .i64 a1, .int .i64 c, .slice (some ⟨g, 0, none⟩) m m], .slice an l1 c1, .slice ah l2 c2] w fun e w' => ∃ M, e = .returned (.tuple #[.slice (some ⟨M, 0, none⟩) c c, .nilIface]) ∧
      Rows8 w' (some ⟨M, 0, none⟩) ((List.range c).map fun v => rowF H (D v)) ∧ Below w.heap.size w w' := by
  have hrk := half_take hnd hnl hin h3
  have hgr := htakeM_grid (xs := halfM k r) (A := halfF k (carN (groupN k r))) (bothH_lt hin) rfl
  have hlb : (bothH nums).length = c := by rw [bothH_len, hnl, hc]
  rw [hlb] at hgr
  obtain ⟨X, hX⟩ : ∃ X, X = (takeM (2 * k) (halfM k r) (castL (bothH nums))).flatten := ⟨_, rfl⟩
  rw [← hX] at hrk hgr
  have hXl : X.length = c * c := by rw [hgr, grid_len, hc]
  have hXc : ∀ i, i < c → ∀ j, j < c → cellF c X i j = numM k (carN (groupN k r)) (bothH nums) i j := fun i hi j hj => by
    rw [cellF, hgr, hc, at8_grid (by omega) (by omega)]; rfl
  have hall : ∀ x ∈ castL (bothH nums), 0 ≤ x ∧ x < (a1 : Int) := fun x hx => by
    simp only [castL, List.mem_map] at hx
    obtain ⟨y, hy, rfl⟩ := hx
    have := bothH_lt hin y hy
    omega
  rw [← hc] at hrk hX hD
  have hD2 : ∀ i, i < c → ∀ b, b < H → bytesD L i b = sumF (fun u => gm (cellF c X i u) (D u b)) c := fun i hi b hb => by
    rw [hD i hi b hb]
    exact sumF_congr fun u hu => by rw [hXc i hi u hu]
  have HD : Hid (∀ i, i < c → ∀ b, b < H → bytesD L i b = sumF (fun u => gm (cellF c X i u) (D u b)) c) := hD2
  have HRK : Hid ((pivL (cellF c X) c c).length = c) := hrk
  have HX : Hid (X = (takeM c (halfM k r) (castL (bothH nums))).flatten) := hX
  have HXL : Hid (X.length = c * c) := hXl
  have HALL : Hid (∀ x ∈ castL (bothH nums), 0 ≤ x ∧ x < (a1 : Int)) := hall
  have HN : Hid (RowI w an (castL (bothH nums))) := hN
  have HLL : Hid (L.length = c) := hL
  have HLH : Hid (∀ ys ∈ L, ys.length = H) := hLH
  have HLX : Hid (Rows8 w ah L) := hLX
  have HL1 : Hid (l1 = c) := hl1
  have HL2 : Hid (l2 = c) := hl2
  have HM : Hid (m = a1 * c) := hm
  have HG : Hid (w.heap[g]? = some (.cells (vfs (halfM k r)) 5 (0, 0))) := hG
  have HML : Hid ((halfM k r).length = a1 * c) := by show _ = _; rw [halfM_len, ha1, hc]
  have HS2 : Hid _ := hs2
  have HS11 : Hid _ := hs11
  have HLB : Hid ((bothH nums).length = c) := hlb
  have hc32 : c ≤ 32 := by omega
  have hc1 : 1 ≤ c := by omega
  have ha32 : a1 ≤ 32 := by omega
  clear hrk hgr hlb hX hXl hXc hall hD hD2 hN hL hLH hLX hl1 hl2 hm hG hs2 hs11 ha1 hnl hin hnd hc
  have HB1 : Hid (Below w.heap.size w (w.alloc (.cells #[.int .i64 a1, .int .i64 c, .slice (some ⟨g, 0, none⟩) m m] 42))) := (Below.refl _ _).alloc (Nat.le_refl _) _
  go_enter Tryd.func15, Tryd.ntmps15
  go_wp2_with fail
  refine Calls.mono (htake_yes a1 c m m l1 c1 (some ⟨g, 0, none⟩) an (halfM k r) (castL (bothH nums)) _ (by omega) (by omega) HM.out HML.out (Nat.le_refl _) (row8_own (heap_later HG.out HB1.out)) (fun h => by cases h) (by rw [castL_len, HLB.out]; exact HL1.out) (by have := HL1.out; omega) (rowI_below HN.out HB1.out) s11 (cell_later HB1.out HS11.out) HALL.out) ?_
  rintro e w2 ⟨g2, m2, rfl, hm2, hg2, hh2, hb2⟩
  have e1 := HL1.out
  subst e1
  rw [← HX.out] at hh2
  have HM2 : Hid (m2 = l1 * l1) := hm2
  have HA2 : Hid _ := holds_new (holds_cons (holds_nil w2) hh2) #[.int .i64 l1, .int .i64 l1, .slice (some ⟨g2, 0, none⟩) m2 m2] 42
  have hB2 := HB1.out.trans (hb2.mono HB1.out.size)
  have HB2 : Hid (Below w.heap.size w (w2.alloc (.cells #[.int .i64 l1, .int .i64 l1, .slice (some ⟨g2, 0, none⟩) m2 m2] 42))) := hB2.alloc hB2.size _
  clear hm2 hg2 hh2 hb2 hB2
  go_wp2_with fail
  refine Calls.mono (inverse_F l1 m2 m2 (some ⟨g2, 0, none⟩) X _ (by omega) HM2.out HXL.out (Nat.le_refl _) (holds_row HA2.out 1 rfl) (fun h => by cases h) s2 (cell_later HB2.out HS2.out)) ?_
  rintro e w3 (⟨_, g3, m3, Y, rfl, hm3, hg3, hh3, hY, hb3⟩ | ⟨hno, _⟩)
  · have HM3 : Hid (m3 = l1 * l1) := hm3
    have HY : Hid (InvOf l1 (cellF l1 X) Y) := hY
    have HA3 : Hid _ := holds_new (holds_cons (holds_nil w3) hh3) #[.int .i64 l1, .int .i64 l1, .slice (some ⟨g3, 0, none⟩) m3 m3] 42
    have hB3 := HB2.out.trans (hb3.mono HB2.out.size)
    have HB3 : Hid (Below w.heap.size w (w3.alloc (.cells #[.int .i64 l1, .int .i64 l1, .slice (some ⟨g3, 0, none⟩) m3 m3] 42))) := hB3.alloc hB3.size _
    clear hm3 hg3 hh3 hb3 hY hB3
    go_wp2_with fail
    refine Calls.mono (ccomb_F l1 l1 H m3 m3 l2 c2 (some ⟨g3, 0, none⟩) ah (grid l1 Y l1) L _ (by omega) hc1 (by omega) hH HM3.out (grid_len _ _ _) (Nat.le_refl _) (holds_row HA3.out 1 rfl) HL2.out HLL.out HLH.out (rows8_below HLX.out HB3.out)) ?_
    rintro e w4 ⟨M, gs, rfl, hM, hgs, hT, hrs, hb4⟩
    have hr2 := rowsP_congr (g := fun v => rowF H (D v)) hrs fun i hi => comb_inv HY.out HD.out (by rw [← hgs]; exact hi)
    have HR4 : Hid (Rows8 w4 (some ⟨M, 0, none⟩) ((List.range l1).map fun v => rowF H (D v))) := rowsP_rows hr2 hgs (fun i => rowF_len _ _) hT
    have HB4 : Hid (Below w.heap.size w w4) := HB3.out.trans (hb4.mono HB3.out.size)
    clear hM hgs hT hrs hb4 hr2
    go_wp2
    go_ret2
    exact ⟨M, rfl, HR4.out, HB4.out⟩
  · exact absurd HRK.out hno
/-- the bytes of these data halves -/
def joinD (k H n : Nat) (D : Nat → Nat → F) : List F := (((List.range (2 * k)).map fun v => rowF H (D v)).flatten).take n
theorem flatD_len (k H : Nat) (D : Nat → Nat → F) : (((List.range (2 * k)).map fun v => rowF H (D v)).flatten).length = 2 * k * H := by
  rw [flat_len (c := H) (fun ys hy => by obtain ⟨v, _, rfl⟩ := List.mem_map.1 hy; exact rowF_len _ _)]; simp
theorem joinD_len {k H n : Nat} {D : Nat → Nat → F} (h : n ≤ 2 * k * H) : (joinD k H n D).length = n := by
  rw [joinD, List.length_take, flatD_len]; omega
theorem joinD_congr {k H n : Nat} {D E : Nat → Nat → F} (h : ∀ v, v < 2 * k → ∀ b, b < H → D v b = E v b) : joinD k H n D = joinD k H n E := by
  unfold joinD
  congr 2
  apply List.map_congr_left
  intro v hv
  exact rowF_congr fun b hb => h v (by simpa using hv) b hb
/-- the errors that Decode names -/
def ErrsC (w : World) (E : Nat → Addr) : Prop := ErrsF w E ∧ w.cell? ⟨6, 0, none⟩ = some (errAt (E 2)) ∧ w.cell? ⟨4, 0, none⟩ = some (errAt (E 3)) ∧ w.cell? ⟨1, 0, none⟩ = some (errAt (E 4))
theorem errsC_below {w w' : World} {E : Nat → Addr} (h : ErrsC w E) (hb : Below w.heap.size w w') : ErrsC w' E := ⟨errsF_below h.1 hb, cell_later hb h.2.1, cell_later hb h.2.2.1, cell_later hb h.2.2.2⟩
/-- of these data halves the halves of these shards are made -/
def MadeOf (k r H : Nat) (nums : List Nat) (L : List (List F)) (D : Nat → Nat → F) : Prop :=
  ∀ i, i < 2 * k → ∀ b, b < H → bytesD L i b = sumF (fun u => gm (numM k (carN (groupN k r)) (bothH nums) i u) (D u b)) (2 * k)
theorem made_ex {k r H : Nat} {S : List (Int × List F × List F)} (hg : GoodT k r S) (hl : S.length = k) (h3 : k + r ≤ 16) (L : List (List F)) : ∃ D, MadeOf k r H (numT S) L D := by
  obtain ⟨_, g2, g3⟩ := good_nums hg
  have hrk := num_rank (car := carN (groupN k r)) g3 (by rw [numT_len, hl]) g2 (show k + r ≤ 256 by omega)
  obtain ⟨D, hD⟩ := full_table hrk (bytesD L)
  exact ⟨D, fun i hi b _ => hD i hi b⟩
theorem made_one {k r H : Nat} {S : List (Int × List F × List F)} (hg : GoodT k r S) (hl : S.length = k) (h3 : k + r ≤ 16) {L : List (List F)} {D E : Nat → Nat → F} (hD : MadeOf k r H (numT S) L D) (hE : MadeOf k r H (numT S) L E) : ∀ v, v < 2 * k → ∀ b, b < H → D v b = E v b := fun v hv b hb => by
  obtain ⟨_, g2, g3⟩ := good_nums hg
  have hrk := num_rank (car := carN (groupN k r)) g3 (by rw [numT_len, hl]) g2 (show k + r ≤ 256 by omega)
  exact full_one (R := fun i => bytesD L i b) (D := fun u => D u b) (E := fun u => E u b) hrk (fun i hi => hD i hi b hb) (fun i hi => hE i hi b hb) v hv
set_option maxHeartbeats 8000000 in
theorem decode_G (k r n ln cn : Nat) (a : Option Addr) (S : List (Int × List F × List F)) (w : World) (E : Nat → Addr) (hE : ErrsC w E) (h1 : 1 ≤ k) (h2 : 2 ≤ r) (h3 : k + r ≤ 16) (h4 : 1 ≤ n) (h5 : n ≤ 128 * k) (hln : ln = S.length) (hl9 : ln ≤ 140737488355328) (hS : Sh8 w a S) :
    Calls Tryd.prog 6 #[.int .i64 k, .int .i64 r, .int .i64 n, .slice a ln cn] w fun e w' =>
      (¬ (ln = k ∧ GoodT k r S) ∧ e = .returned (.tuple #[.slice none 0 0, errAt (E 3)]) ∧ Below w.heap.size w w') ∨
      ((ln = k ∧ GoodT k r S) ∧ ¬ (∀ xs ∈ rowsS S, xs.length = cntN (2 * k) n) ∧ e = .returned (.tuple #[.slice none 0 0, errAt (E 4)]) ∧ Below w.heap.size w w') ∨
      ((ln = k ∧ GoodT k r S) ∧ (∀ xs ∈ rowsS S, xs.length = cntN (2 * k) n) ∧ ∃ D, MadeOf k r (cntN (2 * k) n) (numT S) (rowsS S) D ∧ ∃ g ys, e = .returned (.tuple #[.slice (some ⟨g, 0, none⟩) n n, .nilIface]) ∧ w.heap.size ≤ g ∧
        w'.heap[g]? = some (.cells (vfs (joinD k (cntN (2 * k) n) n D ++ ys)) 5 (0, 0)) ∧ Below w.heap.size w w') := by
  obtain ⟨k1, k2, k3, _⟩ := cnt_half h1 (show k ≤ 14 by omega) h4 h5
  have HF : Hid _ := fun w E h => half_F k n w E h (by omega) (by omega)
  rw [halfV_ok h1 (by omega) h4 h5, halfE_ok h1 (by omega) h4 h5] at HF
  simp only [evV_zero] at HF
  obtain ⟨H, hH⟩ : ∃ H, H = cntN (2 * k) n := ⟨_, rfl⟩
  rw [← hH] at HF k1 k2 k3 ⊢
  have HH : Hid (H = cntN (2 * k) n) := hH
  have HE : Hid (ErrsC w E) := hE
  have hlt4 := World.block_lt_of_cell? w _ hE.2.2.2
  simp at hlt4
  have HS : Hid (Sh8 w a S) := hS
  have HL : Hid (ln = S.length) := hln
  obtain ⟨c2, hc2⟩ : ∃ c2, c2 = 2 * k := ⟨_, rfl⟩
  obtain ⟨cR, hcR⟩ : ∃ cR, cR = 2 * (k + r) := ⟨_, rfl⟩
  have HC2 : Hid (c2 = 2 * k) := hc2
  have HCR : Hid (cR = 2 * (k + r)) := hcR
  have HR : Hid _ := fun w s h => hrows_F k r w s h h1 h2 h3
  rw [← hc2, ← hcR] at HR
  have HNU : Hid _ := fun u s h q => numbersOf_F k r ln cn a S u s h h1 h2 h3 hln hl9 q
  have HK3 : Hid (n ≤ 2 * k * H) := k3
  clear hE hS hln hH hc2 hcR k3
  unfold errAt at HNU ⊢
  go_enter Tryd.func6, Tryd.ntmps6
  go_wp2_with fail
  refine Calls.mono (HR.out _ (E 1) HE.out.1.2) ?_
  rintro e w1 ⟨g1, m1, rfl, hm1, hg1, hh1, hb1⟩
  have HA1 : Hid _ := holds_new (holds_cons (holds_nil w1) hh1) #[.int .i64 cR, .int .i64 c2, .slice (some ⟨g1, 0, none⟩) m1 m1] 42
  have HB1 : Hid (Below w.heap.size w (w1.alloc (.cells #[.int .i64 cR, .int .i64 c2, .slice (some ⟨g1, 0, none⟩) m1 m1] 42))) := hb1.alloc hb1.size _
  have HM1 : Hid (m1 = cR * c2) := hm1
  clear hm1 hg1 hh1 hb1
  go_wp2_with fail
  refine Calls.mono (HF.out _ E (errsE_below HE.out.1.1 HB1.out)) ?_
  rintro e w2 ⟨rfl, hb2⟩
  have HA2 : Hid _ := holds_later HA1.out hb2
  have HB2 : Hid (Below w.heap.size w w2) := HB1.out.trans (hb2.mono HB1.out.size)
  clear hb2 HA1 HB1
  go_wp2_with fail
  refine Calls.mono (HNU.out _ (E 3) (cell_later HB2.out HE.out.2.2.1) (sh8_below HS.out HB2.out)) ?_
  rintro e w3 (⟨hlk, hgd, a8, c8, rfl, hi8, hb3⟩ | ⟨hno, rfl, hb3⟩)
  · have HLK : Hid (ln = k) := hlk
    have HGD : Hid (GoodT k r S) := hgd
    have HI8 : Hid (RowI w3 a8 (castL (bothH (numT S)))) := hi8
    have HA3 : Hid _ := holds_later HA2.out hb3
    have HB3 : Hid (Below w.heap.size w w3) := HB2.out.trans (hb3.mono HB2.out.size)
    have hln1 : 1 ≤ ln := by omega
    have hln16 : ln ≤ 16 := by omega
    have HNU' := HNU
    clear hlk hgd hi8 hb3 HA2 HB2 HNU HNU'
    go_wp2_with fail
    refine Calls.mono (halvesOf_F ln cn a S _ HL.out hln16 hln1 (sh8_below HS.out HB3.out)) ?_
    rintro e w4 ⟨a9, c9, l9, rfl, hl9', hr9, hb4⟩
    have HL9 : Hid (l9 = 2 * ln) := hl9'
    have hl9b : l9 ≤ 32 := by omega
    have HR9 : Hid (Rows8 w4 a9 (rowsS S)) := hr9
    have HI9 : Hid (RowI w4 a8 (castL (bothH (numT S)))) := rowI_below HI8.out hb4
    have HA4 : Hid _ := holds_later HA3.out hb4
    have HB4 : Hid (Below w.heap.size w w4) := HB3.out.trans (hb4.mono HB3.out.size)
    clear hl9' hr9 hb4 HA3 HB3 HI8
    go_wp2_with fail
    refine Calls.mono (haveSize_F H l9 c9 a9 (rowsS S) _ (by rw [rowsS_len, ← HL.out]; exact HL9.out) (by omega) HR9.out) ?_
    rintro e w5 ⟨rfl, rfl⟩
    by_cases hsz : ∀ xs ∈ rowsS S, xs.length = H
    · rw [decide_eq_true hsz]
      have HSZ : Hid (∀ xs ∈ rowsS S, xs.length = H) := hsz
      obtain ⟨D, hD⟩ := made_ex (H := H) HGD.out (show S.length = k by rw [← HL.out]; exact HLK.out) h3 (rowsS S)
      have HD : Hid (MadeOf k r H (numT S) (rowsS S) D) := hD
      clear hsz hD
      have d0 := cellAt (holds_at HA4.out 0 rfl) 0 _ rfl
      have d1 := cellAt (holds_at HA4.out 0 rfl) 1 _ rfl
      have d2 := cellAt (holds_at HA4.out 0 rfl) 2 _ rfl
      obtain ⟨_, g2, g3⟩ := good_nums HGD.out
      have G2 : Hid (∀ x ∈ numT S, x < k + r) := g2
      have G3 : Hid (numT S).Nodup := g3
      clear g2 g3
      go_wp2_with fail
      refine Calls.mono (undo_F k r H c2 m1 (2 * k) l9 c8 c9 cR g1 a8 a9 (numT S) (rowsS S) D _ (E 2) (E 11) (cell_later HB4.out HE.out.2.1) (cell_later HB4.out HE.out.1.1.2.1) h1 h2 h3 k2 HC2.out HCR.out HM1.out (holds_at HA4.out 1 rfl)
        HC2.out.symm HI9.out (by rw [numT_len, ← HL.out]; exact HLK.out) G2.out G3.out (by have := HL9.out; have := HLK.out; have := HC2.out; omega) (by rw [rowsS_len, ← HL.out, HLK.out]; exact HC2.out.symm) HSZ.out HR9.out HD.out) ?_
      rintro e w6 ⟨M, rfl, hr6, hb6⟩
      have HR6 : Hid (Rows8 w6 (some ⟨M, 0, none⟩) ((List.range c2).map fun v => rowF H (D v))) := hr6
      have HB6 : Hid (Below w.heap.size w w6) := HB4.out.trans (hb6.mono HB4.out.size)
      clear hr6 hb6 d0 d1 d2
      go_wp2_with fail
      refine Calls.mono (join_ok k n c2 c2 (some ⟨M, 0, none⟩) ((List.range c2).map fun v => rowF H (D v)) _ E (errsE_below HE.out.1.1 HB6.out) h1 (by omega) h4 h5 (by simp) HR6.out ⟨by simp [HC2.out], fun ys hy => by obtain ⟨v, _, rfl⟩ := List.mem_map.1 hy; rw [rowF_len, HH.out]⟩) ?_
      rintro e w7 ⟨g7, ys7, rfl, hg7, hF7, hT7, hh7, hb7⟩
      have HB7 : Hid (Below w.heap.size w w7) := HB6.out.trans (hb7.mono HB6.out.size)
      have HJ : Hid (w7.heap[g7]? = some (.cells (vfs (joinD k H n D ++ ys7)) 5 (0, 0))) := by
        show _ = _
        unfold joinD
        rw [← HC2.out, hF7.out]; exact hh7
      have hg7' : w.heap.size ≤ g7 := Nat.le_trans HB6.out.size hg7
      clear hg7 hF7 hT7 hh7 hb7
      go_wp2
      go_ret2
      exact .inr (.inr ⟨⟨HLK.out, HGD.out⟩, HSZ.out, D, HD.out, g7, ys7, rfl, hg7', HJ.out, HB7.out⟩)
    · rw [decide_eq_false hsz]
      have HSZ : Hid (¬ ∀ xs ∈ rowsS S, xs.length = H) := hsz
      have hc9 : w4.cell? ⟨1, 0, none⟩ = some (errAt (E 4)) := (HB4.out.cell (p := ⟨1, 0, none⟩) hlt4).trans HE.out.2.2.2
      unfold errAt at hc9
      clear hsz
      go_wp2
      go_region
      go_wp2
      go_ret2
      exact .inr (.inl ⟨⟨HLK.out, HGD.out⟩, HSZ.out, rfl, HB4.out.drew⟩)
  · have HNO : Hid (¬ (ln = k ∧ GoodT k r S)) := hno
    have HB3 : Hid (Below w.heap.size w w3) := HB2.out.trans (hb3.mono HB2.out.size)
    clear hno hb3 HNU
    go_wp2_with fail
    go_ret2
    exact .inl ⟨HNO.out, rfl, HB3.out⟩
set_option maxHeartbeats 2000000 in
theorem decode_size (k r : Nat) (n : Int) (ln cn : Nat) (a : Option Addr) (w : World) (E : Nat → Addr) (hE : ErrsC w E) (h1 : 1 ≤ k) (h2 : 2 ≤ r) (h3 : k + r ≤ 16) (hn0 : -9223372036854775808 ≤ n) (hn1 : n ≤ 9223372036854775807) (h : halfE k n ≠ 0) :
    Calls Tryd.prog 6 #[.int .i64 k, .int .i64 r, .int .i64 n, .slice a ln cn] w fun e w' => e = .returned (.tuple #[.slice none 0 0, evV E (halfE k n)]) ∧ Below w.heap.size w w' := by
  have HF : Hid _ := fun w E h => half_F k n w E h hn0 hn1
  rw [halfV_no h] at HF
  have hs : evV E (halfE k n) = errAt (E (halfE k n - 1)) := by unfold evV; rw [if_neg h]
  have HF2 : Hid _ := fun w (q : ErrsE w E) => HF.out w E q
  rw [hs] at HF2 ⊢
  generalize E (halfE k n - 1) = s at *
  have HR : Hid _ := fun w s h => hrows_F k r w s h h1 h2 h3
  have HE : Hid (ErrsC w E) := hE
  clear hs h hE HF
  unfold errAt at HF2 ⊢
  go_enter Tryd.func6, Tryd.ntmps6
  go_wp2_with fail
  refine Calls.mono (HR.out _ (E 1) HE.out.1.2) ?_
  rintro e w1 ⟨g1, m1, rfl, hm1, hg1, hh1, hb1⟩
  have HB1 : Hid (Below w.heap.size w (w1.alloc (.cells #[.int .i64 (2 * (k + r) : Nat), .int .i64 (2 * k : Nat), .slice (some ⟨g1, 0, none⟩) m1 m1] 42))) := hb1.alloc hb1.size _
  clear hm1 hg1 hh1 hb1
  go_wp2_with fail
  refine Calls.mono (HF2.out _ (errsE_below HE.out.1.1 HB1.out)) ?_
  rintro e w2 ⟨rfl, hb2⟩
  have HB2 : Hid (Below w.heap.size w w2) := HB1.out.trans (hb2.mono HB1.out.size)
  clear hb2
  go_wp2_with fail
  go_ret2
  exact ⟨rfl, HB2.out⟩
set_option maxHeartbeats 2000000 in
theorem decode_illegal (k r n : Int) (ln cn : Nat) (a : Option Addr) (w : World) (E : Nat → Addr) (hE : ErrsC w E) (hk0 : -9223372036854775808 ≤ k) (hk1 : k ≤ 9223372036854775807) (hr0 : -9223372036854775808 ≤ r) (hr1 : r ≤ 9223372036854775807) (hL : ¬ LegalP k r) :
    Calls Tryd.prog 6 #[.int .i64 k, .int .i64 r, .int .i64 n, .slice a ln cn] w fun e w' => e = .returned (.tuple #[.slice none 0 0, errAt (E 0)]) ∧ Below w.heap.size w w' := by
  have HR : Hid _ := fun u hu => hrows_bad k r u (E 0) hu hk0 hk1 hr0 hr1 hL
  have HE : Hid (ErrsC w E) := hE
  clear hE hL
  unfold errAt at HR ⊢
  go_enter Tryd.func6, Tryd.ntmps6
  go_wp2_with fail
  refine Calls.mono (HR.out _ HE.out.1.1.1) ?_
  rintro e w1 ⟨rfl, hb1⟩
  have HB1 : Hid (Below w.heap.size w w1) := hb1
  clear hb1
  go_wp2_with fail
  go_ret2
  exact ⟨rfl, HB1.out.alloc HB1.out.size _⟩
end Go.Proofs.YtkoakingmnjdoabDoor

/- How parameters, a list of bytes and a list of numbers come in as one, and the errors' addresses of that row; facts for the frame of the law; nothing of the program is proved here. -/
namespace Go.Proofs.YtkoakingmnjdoabDoor
open Go.ChangeShapes Go.WideShapes Go.ChangeAt Go.RowKit Gf Go.Joins
set_option linter.unusedVariables false
set_option maxRecDepth 20000
theorem cellsStripe : Tryd.prog.cellsOf 25 = 4 := by kernel_rfl
theorem openStripe {H : Type} {enc : TypeId × Value → H} {W : World} {v : Value} {d : DataW H} {p : List MemPlace} {base : Nat} {ts : List TypeId} {ds : List (DataW H)} {j : Nat}
    (hv : Value.okWide Tryd.prog W .any base 25 v) (h : DataW.Trod enc Tryd.prog W 0 (fun _ => true) true 25 v d p)
    (hsz : (DataW.weightsEach Tryd.prog ts ds).all (· ≤ reachBytes) = true) (ht : ts[j]? = some 25) (hd : ds[j]? = some d) :
    ∃ (k r : Int) (a c : Option Addr) (la ca lc cc : Nat) (xs : List F) (ns : List Int), v = .agg #[.int .i64 k, .int .i64 r, .slice a la ca, .slice c lc cc] ∧
      (-9223372036854775808 ≤ k ∧ k ≤ 9223372036854775807) ∧ (-9223372036854775808 ≤ r ∧ r ≤ 9223372036854775807) ∧
      (la = xs.length ∧ Row8 W a xs ∧ la ≤ ca ∧ ca ≤ 140737488351232 ∧ (a = none → ca = 0)) ∧
      (lc = ns.length ∧ RowI W c ns ∧ lc ≤ cc ∧ cc ≤ 17592186043904 ∧ (c = none → cc = 0) ∧ ∀ n ∈ ns, -9223372036854775808 ≤ n ∧ n ≤ 9223372036854775807) := by
  obtain ⟨v0, v1, v2, v3, y0, y1, y2, y3, n', rfl, rfl, _, e0, e1, e2, e3⟩ := open_agg4 Tryd.underlying25 (by kernel_rfl) cellsStripe hv h
  obtain ⟨k, s0, _, w0⟩ := DataW.trod_int Tryd.underlying3 e0
  obtain ⟨r, s1, _, w1⟩ := DataW.trod_int Tryd.underlying3 e1
  have hw : ∀ n ∈ DataW.weights Tryd.prog 25 (.agg [y0.1, y1.1, y2.1, y3.1]), n ≤ reachBytes := fun n hn => by
    simpa using List.all_eq_true.1 hsz _ (DataW.weights_mem_each ht hd n hn)
  simp only [DataW.weights, Tryd.underlying25] at hw
  obtain ⟨a, la, ca, xs, s2, ea, ka, ra, da, na⟩ := open8_cells e2
  obtain ⟨c, lc, cc, ns, s3, x3⟩ := openInts_cell e3 (fun n hn => hw n (by simp [DataW.weightsEach, hn]))
  have r2 : Room2 y2.1 ca := da.imp (fun h => ⟨h.1, h.2.2⟩) id
  have x2 := room2_le r2 (fun n hn => hw n (by simp [DataW.weightsEach, hn]))
  simp only [List.cons.injEq, and_true] at s0 s1 s2 s3
  subst s0 s1 s2 s3
  exact ⟨k, r, a, c, la, ca, lc, cc, xs, ns, rfl, bounds_i64 w0, bounds_i64 w1, ⟨ea, ra, ka, x2, na⟩, x3⟩
def gsDec : List Nat := [0, 5, 6, 4, 1, 2, 3]
def ofDec (es : List Addr) : Nat → Addr := fun n => es.getD (if n = 0 then 0 else if n = 1 then 1 else if n = 2 then 2 else if n = 3 then 3 else if n = 4 then 4 else if n = 11 then 5 else 6) ⟨0, 0, none⟩
theorem errsC_dec {w : World} {es : List Addr} (h : ErrsAt w gsDec es) : ErrsC w (ofDec es) := by
  have hl : es.length = 7 := h.1.symm
  match es, hl with
  | [a, b, c, d, e, f, g], _ => exact ⟨⟨⟨(h.2.2 0 _ a rfl rfl).1, (h.2.2 5 _ f rfl rfl).1, (h.2.2 6 _ g rfl rfl).1⟩, (h.2.2 1 _ b rfl rfl).1⟩, (h.2.2 2 _ c rfl rfl).1, (h.2.2 3 _ d rfl rfl).1, (h.2.2 4 _ e rfl rfl).1⟩
end Go.Proofs.YtkoakingmnjdoabDoor

/- What Num of package tesseranum answers of an error of package api, and of none: its number; nothing that was there turns. -/
namespace Go.Proofs.YtkoakingmnjdoabDoor
open Go.RowKit Go.ChangeShapes
set_option linter.unusedVariables false
set_option maxRecDepth 20000
end Go.Proofs.YtkoakingmnjdoabDoor

/- The walk of ShardsSizes: at all numbers. -/
namespace Go.Proofs.YtkoakingmnjdoabDoor
open Go.RowKit Gf
set_option linter.unusedVariables false
set_option maxRecDepth 20000
/-- the errors' addresses, by number -/
def ofL (es : List Addr) : Nat → Addr := fun j => es.getD j ⟨0, 0, none⟩
theorem halfE_le (k n : Int) : halfE k n ≤ 25 := by unfold halfE; split <;> (try split) <;> (try split) <;> omega
theorem stripesE_le (k n : Int) : stripesE k n ≤ 25 := by unfold stripesE; split <;> (try split) <;> (try split) <;> omega
theorem stripesL_len (k n : Int) : (stripesL k n).length ≤ 32 := by
  by_cases h : stripesE k n = 0
  · obtain ⟨a, m, rfl, rfl, h1, h2, h3⟩ := stripes_ok h
    rw [stripesL_ok h1 h2 h3, strL_len]
    exact cnt_stripes h1 h3
  · rw [stripesL_no h]; simp
end Go.Proofs.YtkoakingmnjdoabDoor

/- What the walks of stage 7 share: the errors by number, blocks that stay, shards in memory. -/
namespace Go.Proofs.YtkoakingmnjdoabDoor
open Go.RowKit Gf
set_option linter.unusedVariables false
set_option maxRecDepth 20000
/-- all but some blocks stay -/
def KeptX (w w' : World) (X : Nat → Prop) : Prop := ∀ (b : Nat) (o : Obj), ¬ X b → w.heap[b]? = some o → w'.heap[b]? = some o
theorem keptX_refl (w : World) (X : Nat → Prop) : KeptX w w X := fun _ _ _ h => h
theorem keptX_grown {w0 w w' : World} {X Y : Nat → Prop} {g : Nat} (h : KeptX w0 w X) (hg : w.grownBy w' (some g)) (hY : ∀ b, ¬ Y b → ¬ X b ∧ b ≠ g) : KeptX w0 w' Y := fun b o hb ho => grown_keep hg (h b o (hY b hb).1 ho) (fun e => (hY b hb).2 (Option.some.inj e))
theorem keptX_below {w0 w w' : World} {X Y : Nat → Prop} (h : KeptX w0 w X) (hb : Below w.heap.size w w') (hY : ∀ b, ¬ Y b → ¬ X b) : KeptX w0 w' Y := fun b o hn ho => heap_later (h b o (hY b hn) ho) hb
theorem has8_X {w w' : World} {X : Nat → Prop} {g cap : Nat} {xs : List F} (h : Has8 w g xs cap) (hk : KeptX w w' X) (hn : ¬ X g) : Has8 w' g xs cap := by
  obtain ⟨cur, h1, h2⟩ := h
  exact ⟨cur, hk _ _ hn h1, h2⟩
/-- the first j blocks of a list -/
def firstB (gs : List (Nat × Nat)) (j : Nat) (b : Nat) : Prop := ∃ (q : Nat) (p : Nat × Nat), q < j ∧ gs[q]? = some p ∧ p.1 = b
theorem firstB_not {gs : List (Nat × Nat)} {j i : Nat} {p : Nat × Nat} (hord : ∀ (i j : Nat) (p q : Nat × Nat), i < j → gs[i]? = some p → gs[j]? = some q → p.1 < q.1) (h : gs[i]? = some p) (hij : j ≤ i) : ¬ firstB gs j p.1 := fun ⟨q, x, hq, hx, e⟩ => by
  have := hord q i x p (by omega) hx h
  omega
theorem firstB_step {gs : List (Nat × Nat)} {j : Nat} {p : Nat × Nat} (h : gs[j]? = some p) (b : Nat) (hb : ¬ firstB gs (j + 1) b) : ¬ firstB gs j b ∧ b ≠ p.1 :=
  ⟨fun ⟨q, x, hq, hx, e⟩ => hb ⟨q, x, by omega, hx, e⟩, fun e => hb ⟨j, p, by omega, h, e.symm⟩⟩
theorem strEq8 (xs : List F) : ((str8 xs).toList == (str8 xs).toList) = true := by simp
theorem sh_cells {w : World} {S H j m : Nat} {gs : List (Nat × Nat)} {g0 c0 g1 c1 : Nat} (hT : w.heap[S]? = some (.cells (triC ((List.range m).map (shV (rowsP H gs)))) 36 (0, 0))) (hj : j < m) (e0 : gs[2 * j]? = some (g0, c0)) (e1 : gs[2 * j + 1]? = some (g1, c1)) :
    w.cell? ⟨S, j * 3, none⟩ = some (.int .i64 (j : Int)) ∧ w.cell? ⟨S, j * 3 + 1, none⟩ = some (.slice (some ⟨g0, 0, none⟩) H c0) ∧ w.cell? ⟨S, j * 3 + 2, none⟩ = some (.slice (some ⟨g1, 0, none⟩) H c1) := by
  have ht : ((List.range m).map (shV (rowsP H gs)))[j]? = some (.int .i64 (j : Int), .slice (some ⟨g0, 0, none⟩) H c0, .slice (some ⟨g1, 0, none⟩) H c1) := by
    rw [List.getElem?_map, List.getElem?_range hj, Option.map_some, shV, List.getD_eq_getElem?_getD, List.getD_eq_getElem?_getD, rowsP_at e0, rowsP_at e1]; rfl
  exact ⟨cellAt hT (j * 3) _ (triC_at (q := 0) ht (by decide)), cellAt hT (j * 3 + 1) _ (triC_at (q := 1) ht (by decide)), cellAt hT (j * 3 + 2) _ (triC_at (q := 2) ht (by decide))⟩
theorem shAt_cell {w : World} {B S k r n H j : Nat} {xs : List F} {gs : List (Nat × Nat)} (h : ShAt w B S k r n xs gs) (hH : H = cntN (2 * k) n) (hj : j < k + r) : ∃ g0 c0 g1 c1, gs[2 * j]? = some (g0, c0) ∧ gs[2 * j + 1]? = some (g1, c1) ∧
    w.cell? ⟨S, j * 3, none⟩ = some (.int .i64 (j : Int)) ∧ w.cell? ⟨S, j * 3 + 1, none⟩ = some (.slice (some ⟨g0, 0, none⟩) H c0) ∧ w.cell? ⟨S, j * 3 + 2, none⟩ = some (.slice (some ⟨g1, 0, none⟩) H c1) ∧
    Has8 w g0 (imgL k (carN (groupN k r)) H (strD H xs) (2 * j)) c0 ∧ Has8 w g1 (imgL k (carN (groupN k r)) H (strD H xs) (2 * j + 1)) c1 := by
  obtain ⟨_, hl, hT, hR, _⟩ := h
  rw [← hH] at hT hR
  have e0 : gs[2 * j]? = some gs[2 * j] := List.getElem?_eq_getElem (by omega)
  have e1 : gs[2 * j + 1]? = some gs[2 * j + 1] := List.getElem?_eq_getElem (by omega)
  generalize gs[2 * j] = q0 at e0
  generalize gs[2 * j + 1] = q1 at e1
  obtain ⟨g0, c0⟩ := q0
  obtain ⟨g1, c1⟩ := q1
  have ht : ((List.range (k + r)).map (shV (rowsP H gs)))[j]? = some (.int .i64 (j : Int), .slice (some ⟨g0, 0, none⟩) H c0, .slice (some ⟨g1, 0, none⟩) H c1) := by
    rw [List.getElem?_map, List.getElem?_range hj, Option.map_some, shV, List.getD_eq_getElem?_getD, List.getD_eq_getElem?_getD, rowsP_at e0, rowsP_at e1]; rfl
  exact ⟨g0, c0, g1, c1, e0, e1, cellAt hT (j * 3) _ (triC_at (q := 0) ht (by decide)), cellAt hT (j * 3 + 1) _ (triC_at (q := 1) ht (by decide)), cellAt hT (j * 3 + 2) _ (triC_at (q := 2) ht (by decide)), (hR _ _ e0).2, (hR _ _ e1).2⟩
end Go.Proofs.YtkoakingmnjdoabDoor

/- Shards of a stripe, chosen and exchanged; what they are made of. -/
namespace Go.Proofs.YtkoakingmnjdoabDoor
open Go.RowKit Gf
set_option linter.unusedVariables false
set_option maxRecDepth 20000
/-- a shard of a stripe -/
def shS (k r H : Nat) (xs : List F) (x : Nat) : Int × List F × List F := ((x : Int), imgL k (carN (groupN k r)) H (strD H xs) (2 * x), imgL k (carN (groupN k r)) H (strD H xs) (2 * x + 1))
theorem stripe_join {k H n : Nat} {xs : List F} (hn : n = xs.length) (h : n ≤ 2 * k * H) : joinD k H n (strD H xs) = xs := by
  have := flat_halves H (2 * k) xs
  unfold joinD
  show (((List.range (2 * k)).map (hf H xs)).flatten).take n = xs
  rw [this, hn]
  exact take_pad (by omega)
/-- shards in memory, chosen by f -/
theorem sh8_pick {w : World} {B S k r H m q : Nat} {xs : List F} {gs : List (Nat × Nat)} {f : Nat → Nat} (hl : gs.length = 2 * m) (hT : w.heap[S]? = some (.cells (triC ((List.range m).map fun x => shV (rowsP H gs) (f x))) 36 (0, 0)))
    (hR : RowsP w B gs (imgL k (carN (groupN k r)) H (strD H xs))) (hf : ∀ x, x < m → f x < m) (hq : q ≤ m) : Sh8 w (some ⟨S, 0, none⟩) ((List.range q).map fun x => shS k r H xs (f x)) := by
  refine .inr ⟨S, 0, rfl, fun j n ys zs hj => ?_⟩
  have hjq : j < q := by have := (List.getElem?_eq_some_iff.1 hj).1; simpa using this
  rw [List.getElem?_map, List.getElem?_range hjq] at hj
  simp only [Option.map_some, Option.some.injEq, shS, Prod.mk.injEq] at hj
  obtain ⟨rfl, rfl, rfl⟩ := hj
  have hfj := hf j (by omega)
  have e0 : gs[2 * f j]? = some gs[2 * f j] := List.getElem?_eq_getElem (by omega)
  have e1 : gs[2 * f j + 1]? = some gs[2 * f j + 1] := List.getElem?_eq_getElem (by omega)
  generalize gs[2 * f j] = q0 at e0
  generalize gs[2 * f j + 1] = q1 at e1
  obtain ⟨g0, c0⟩ := q0
  obtain ⟨g1, c1⟩ := q1
  have ht : ((List.range m).map fun x => shV (rowsP H gs) (f x))[j]? = some (.int .i64 (f j : Int), .slice (some ⟨g0, 0, none⟩) H c0, .slice (some ⟨g1, 0, none⟩) H c1) := by
    rw [List.getElem?_map, List.getElem?_range (by omega), Option.map_some, shV, List.getD_eq_getElem?_getD, List.getD_eq_getElem?_getD, rowsP_at e0, rowsP_at e1]; rfl
  refine ⟨some ⟨g0, 0, none⟩, c0, some ⟨g1, 0, none⟩, c1, ?_, ?_, ?_, row8_has (hR.1 _ _ e0).2, row8_has (hR.1 _ _ e1).2⟩
  · rw [Nat.zero_add]; exact cellAt hT (j * 3) _ (triC_at (q := 0) ht (by decide))
  · rw [Nat.zero_add, imgL_len]; exact cellAt hT (j * 3 + 1) _ (triC_at (q := 1) ht (by decide))
  · rw [Nat.zero_add, imgL_len]; exact cellAt hT (j * 3 + 2) _ (triC_at (q := 2) ht (by decide))
theorem pick_good {k r H q m : Nat} {xs : List F} {f : Nat → Nat} (hf : ∀ x, x < m → f x < m) (hi : ∀ x y, x < m → y < m → f x = f y → x = y) (hq : q ≤ m) (hm : m = k + r) : GoodT k r ((List.range q).map fun x => shS k r H xs (f x)) := by
  refine ⟨fun s hs => ?_, ?_⟩
  · obtain ⟨x, hx, rfl⟩ := List.mem_map.1 hs
    have := hf x (by have := List.mem_range.1 hx; omega)
    simp only [shS]
    omega
  · rw [List.map_map]
    rw [List.Nodup, List.pairwise_map]
    refine List.Pairwise.imp_of_mem (fun {x y} hx hy hne e => hne ?_) (List.nodup_range (n := q))
    simp only [Function.comp, shS] at e
    exact hi x y (by have := List.mem_range.1 hx; omega) (by have := List.mem_range.1 hy; omega) (by omega)
theorem pick_num {k r H q : Nat} {xs : List F} {f : Nat → Nat} : numT ((List.range q).map fun x => shS k r H xs (f x)) = (List.range q).map f := by
  simp [numT, shS, Function.comp_def]
theorem rows_pick {k r H : Nat} {xs : List F} : ∀ L : List Nat, rowsS (L.map (shS k r H xs)) = (bothH L).map (imgL k (carN (groupN k r)) H (strD H xs))
  | [] => rfl
  | x :: L => by
    have := rows_pick (k := k) (r := r) (H := H) (xs := xs) L
    simp only [rowsS, List.map_cons, List.flatMap_cons, bothH, List.map_append] at this ⊢
    rw [this]; rfl
theorem pick_made {k r H : Nat} {xs : List F} (L : List Nat) (hl : L.length = k) : MadeOf k r H L (rowsS (L.map (shS k r H xs))) (strD H xs) := fun i hi b hb => by
  rw [rows_pick, bytesD]
  have hil : i < (bothH L).length := by rw [bothH_len]; omega
  rw [List.getD_eq_getElem?_getD, List.getElem?_map, List.getElem?_eq_getElem hil]
  simp only [Option.map_some, Option.getD_some]
  rw [imgL, at8_rowF hb, imgF]
  refine sumF_congr fun v hv => ?_
  rw [numM, List.getD_eq_getElem?_getD, List.getElem?_eq_getElem hil]; rfl
/-- two places exchanged -/
def swapP (f : Nat → Nat) (i j : Nat) : Nat → Nat := fun x => if x = j then f i else if x = i then f j else f x
theorem swapP_set {m i j : Nat} {f : Nat → Nat} {g : Nat → Tri} (hi : i < m) (hj : j < m) : (((List.range m).map fun x => g (f x)).set i (g (f j))).set j (g (f i)) = (List.range m).map fun x => g (swapP f i j x) := by
  apply List.ext_getElem?
  intro x
  rw [List.getElem?_set, List.getElem?_set]
  simp only [List.getElem?_map, List.length_set, List.length_map, List.length_range]
  by_cases h1 : j = x
  · subst h1
    rw [if_pos rfl, if_pos hj, List.getElem?_range hj]
    simp [swapP]
  · rw [if_neg h1]
    by_cases h2 : i = x
    · subst h2
      rw [if_pos rfl, if_pos hi, List.getElem?_range hi]
      simp [swapP, Ne.symm h1]
    · rw [if_neg h2]
      by_cases hx : x < m
      · rw [List.getElem?_range hx]
        simp [swapP, Ne.symm h1, Ne.symm h2]
      · rw [List.getElem?_eq_none (by simp; omega)]; rfl
theorem swapP_lt {m i j : Nat} {f : Nat → Nat} (hi : i < m) (hj : j < m) (hf : ∀ x, x < m → f x < m) : ∀ x, x < m → swapP f i j x < m := fun x hx => by
  unfold swapP
  split
  · exact hf i hi
  · split
    · exact hf j hj
    · exact hf x hx
theorem swapP_inj {m i j : Nat} {f : Nat → Nat} (hi : i < m) (hj : j < m) (hf : ∀ x y, x < m → y < m → f x = f y → x = y) : ∀ x y, x < m → y < m → swapP f i j x = swapP f i j y → x = y := fun x y hx hy e => by
  have h : ∀ x, swapP f i j x = f (if x = j then i else if x = i then j else x) := fun x => by
    unfold swapP
    by_cases h1 : x = j
    · rw [if_pos h1, if_pos h1]
    · rw [if_neg h1, if_neg h1]
      by_cases h2 : x = i
      · rw [if_pos h2, if_pos h2]
      · rw [if_neg h2, if_neg h2]
  rw [h, h] at e
  have := hf _ _ (by split <;> (try split) <;> omega) (by split <;> (try split) <;> omega) e
  revert this
  split <;> split <;> (try split) <;> (try split) <;> omega
theorem shV_form {H m x : Nat} {gs : List (Nat × Nat)} (hl : gs.length = 2 * m) (hx : x < m) : ∃ g0 c0 g1 c1, shV (rowsP H gs) x = (.int .i64 (x : Int), .slice (some ⟨g0, 0, none⟩) H c0, .slice (some ⟨g1, 0, none⟩) H c1) := by
  have e0 : gs[2 * x]? = some gs[2 * x] := List.getElem?_eq_getElem (by omega)
  have e1 : gs[2 * x + 1]? = some gs[2 * x + 1] := List.getElem?_eq_getElem (by omega)
  exact ⟨_, _, _, _, by rw [shV, List.getD_eq_getElem?_getD, List.getD_eq_getElem?_getD, rowsP_at e0, rowsP_at e1]; rfl⟩
end Go.Proofs.YtkoakingmnjdoabDoor

/- What the statements' own sum of two lists answers, of all lists of one length: a new list; nothing that was there turns. -/
namespace Go.Proofs.YtkoakingmnjdoabDoor
open Go.RowKit Gf
set_option linter.unusedVariables false
set_option maxRecDepth 20000
/-- two lists added, place by place -/
def sumL (n : Nat) (xs ys : List F) : List F := rowF n (fun j => ga (at8 xs j) (at8 ys j))
theorem sumL_len (n : Nat) (xs ys : List F) : (sumL n xs ys).length = n := rowF_len _ _
/-- as far as place i -/
def sumP (n : Nat) (xs ys : List F) (i : Nat) : List F := rowF n (fun j => if j < i then ga (at8 xs j) (at8 ys j) else at8 xs j)
theorem sumP_len (n : Nat) (xs ys : List F) (i : Nat) : (sumP n xs ys i).length = n := rowF_len _ _
theorem sumP_zero {n : Nat} {xs ys : List F} (h : n = xs.length) : sumP n xs ys 0 = xs := (rowF_eq h.symm fun j hj => by rw [if_neg (by omega)]).symm
theorem sumP_full (n : Nat) (xs ys : List F) : sumP n xs ys n = sumL n xs ys := rowF_congr fun j hj => by rw [if_pos hj]
theorem sumP_at {n i : Nat} {xs ys : List F} (h : i < n) : at8 (sumP n xs ys i) i = at8 xs i := by rw [sumP, at8_rowF h, if_neg (by omega)]
theorem sumP_set {n i : Nat} {xs ys : List F} (h : i < n) : (sumP n xs ys i).set i (ga (at8 xs i) (at8 ys i)) = sumP n xs ys (i + 1) := by
  apply list_ext8
  · rw [List.length_set, sumP_len, sumP_len]
  · intro j
    by_cases hj : j < n
    · rw [show at8 (sumP n xs ys (i + 1)) j = if j < i + 1 then ga (at8 xs j) (at8 ys j) else at8 xs j from at8_rowF hj]
      by_cases hij : i = j
      · subst hij
        have e : at8 ((sumP n xs ys i).set i (ga (at8 xs i) (at8 ys i))) i = ga (at8 xs i) (at8 ys i) := by
          generalize ga (at8 xs i) (at8 ys i) = v
          simp [at8, List.getD_eq_getElem?_getD, sumP_len, h]
        rw [e, if_pos (by omega)]
      · have e : at8 ((sumP n xs ys i).set i (ga (at8 xs i) (at8 ys i))) j = at8 (sumP n xs ys i) j := by
          simp only [at8, List.getD_eq_getElem?_getD, List.getElem?_set]
          rw [if_neg hij]
        rw [e, sumP, at8_rowF hj]
        by_cases h2 : j < i
        · rw [if_pos h2, if_pos (by omega)]
        · rw [if_neg h2, if_neg (by omega)]
    · rw [at8_over (by rw [List.length_set, sumP_len]; omega), at8_over (by rw [sumP_len]; omega)]
theorem append8_zero (w : World) (p : Addr) (a : Option Addr) (ca : Nat) (ty : TypeId) :
    (Builtin.append_ #[22, 22] ty #[.slice (some p) 0 0, .slice a 0 ca]).run Tryd.prog w = .ok (.slice (some p) 0 0) w := by
  obtain ⟨i, hi, h1, h2, h3⟩ := info8
  cases a <;> simp [Builtin.append_, run_underlying Tryd.underlying22, sizeOf, typeInfo, hi, Builtin.lenOf, Builtin.firstCells, loadCells, loadCellsFrom, storeCells]
/-- a copy in a block of one's own -/
theorem copy8 {w : World} {a : Option Addr} {la ca : Nat} {xs : List F} (ty : TypeId) (hla : la = xs.length) (hl : la ≤ 140737488355328) (hx : Row8 w a xs) :
    ∃ g cap w', (Builtin.append_ #[22, 22] ty #[.slice (some ⟨w.heap.size, 0, none⟩) 0 0, .slice a la ca]).run Tryd.prog (w.alloc (.cells #[] 5)) = .ok (.slice (some ⟨g, 0, none⟩) la cap) w' ∧
      Has8 w' g xs cap ∧ w.heap.size ≤ g ∧ Below w.heap.size w w' := by
  have hB : Below w.heap.size w (w.alloc (.cells #[] 5)) := (Below.refl _ _).alloc (Nat.le_refl _) _
  by_cases h0 : la = 0
  · subst h0
    obtain rfl : xs = [] := List.eq_nil_of_length_eq_zero hla.symm
    exact ⟨w.heap.size, 0, _, append8_zero _ _ _ _ _, has8_full (xs := []) (heap_alloc_last w _) (by simp [maxLen]), Nat.le_refl _, hB⟩
  · have hx' := row8_below hx hB
    obtain ⟨b, off, rfl, _, hc⟩ := row8_get hx' (show 0 < xs.length by omega)
    obtain ⟨g', cap', w', h1, h2, h3, h4⟩ := append8_grows (w := w.alloc (.cells #[] 5)) (g := w.heap.size) (n := 0) (cap := 0) (xs := []) (ys := xs) (ad := ⟨b, off, none⟩) (m := la) (c := ca) ty (.inl rfl) rfl hla (by omega) (by omega) (fun j hj => by
      have : (⟨b, off, none⟩ : Addr).add j = ⟨b, off + j, none⟩ := by unfold Addr.add; split <;> simp_all
      rw [this]; exact hc j hj)
    refine ⟨g', cap', w', by rw [h1]; simp, by simpa using h2, by simp at h4; omega, ?_⟩
    exact hB.trans ⟨h3.os, h3.tape, h3.output, h3.size, fun k hk => h3.block k (by simp; omega) (by simp)⟩
end Go.Proofs.YtkoakingmnjdoabDoor

/- What Decode of package code tells, said of the shards alone: the error's number and the bytes; in whatever order the shards come. -/
namespace Go.Proofs.YtkoakingmnjdoabDoor
open Go.RowKit Gf
set_option linter.unusedVariables false
set_option maxRecDepth 20000
/-- of these shards Decode tells this error and these bytes -/
def DecAs (k r n : Int) (S : List (Int × List F × List F)) (x : Nat) (zs : List F) : Prop :=
  (¬ LegalP k r ∧ x = 1 ∧ zs = []) ∨ (LegalP k r ∧ halfE k n ≠ 0 ∧ x = halfE k n ∧ zs = []) ∨ ∃ a b m : Nat, k = a ∧ r = b ∧ n = m ∧ 1 ≤ a ∧ 2 ≤ b ∧ a + b ≤ 16 ∧ 1 ≤ m ∧ m ≤ 128 * a ∧
    ((¬ (S.length = a ∧ GoodT a b S) ∧ x = 4 ∧ zs = []) ∨ ((S.length = a ∧ GoodT a b S) ∧ ¬ (∀ xs ∈ rowsS S, xs.length = cntN (2 * a) m) ∧ x = 5 ∧ zs = []) ∨
     ((S.length = a ∧ GoodT a b S) ∧ (∀ xs ∈ rowsS S, xs.length = cntN (2 * a) m) ∧ x = 0 ∧ ∃ D, MadeOf a b (cntN (2 * a) m) (numT S) (rowsS S) D ∧ zs = joinD a (cntN (2 * a) m) m D))
theorem decAs_ex (k r n : Int) (S : List (Int × List F × List F)) : ∃ x zs, DecAs k r n S x zs := by
  by_cases hL : LegalP k r
  · by_cases hh : halfE k n = 0
    · obtain ⟨a, b, rfl, rfl, h1, h2, h3⟩ := legal_nat hL
      obtain ⟨a', m, ha, rfl, _, _, h4, h5⟩ := half_ok hh
      obtain rfl : a = a' := by omega
      by_cases hg : S.length = a ∧ GoodT a b S
      · by_cases hl : ∀ xs ∈ rowsS S, xs.length = cntN (2 * a) m
        · obtain ⟨D, hD⟩ := made_ex (H := cntN (2 * a) m) hg.2 hg.1 h3 (rowsS S)
          exact ⟨0, _, .inr (.inr ⟨a, b, m, rfl, rfl, rfl, h1, h2, h3, h4, h5, .inr (.inr ⟨hg, hl, rfl, D, hD, rfl⟩)⟩)⟩
        · exact ⟨5, [], .inr (.inr ⟨a, b, m, rfl, rfl, rfl, h1, h2, h3, h4, h5, .inr (.inl ⟨hg, hl, rfl, rfl⟩)⟩)⟩
      · exact ⟨4, [], .inr (.inr ⟨a, b, m, rfl, rfl, rfl, h1, h2, h3, h4, h5, .inl ⟨hg, rfl, rfl⟩⟩)⟩
    · exact ⟨_, [], .inr (.inl ⟨hL, hh, rfl, rfl⟩)⟩
  · exact ⟨1, [], .inl ⟨hL, rfl, rfl⟩⟩
theorem decAs_le {k r n : Int} {S : List (Int × List F × List F)} {x : Nat} {zs : List F} (h : DecAs k r n S x zs) : x ≤ 25 := by
  rcases h with ⟨_, rfl, _⟩ | ⟨_, _, rfl, _⟩ | ⟨a, b, m, _, _, _, _, _, _, _, _, h⟩
  · decide
  · exact halfE_25 _ _
  · rcases h with ⟨_, rfl, _⟩ | ⟨_, _, rfl, _⟩ | ⟨_, _, rfl, _⟩ <;> decide
theorem decode_V (k r n : Int) (ln cn : Nat) (a : Option Addr) (S : List (Int × List F × List F)) (w : World) (E : Nat → Addr) (x : Nat) (zs : List F) (hE : ErrsC w E) (hk0 : -9223372036854775808 ≤ k) (hk1 : k ≤ 9223372036854775807) (hr0 : -9223372036854775808 ≤ r) (hr1 : r ≤ 9223372036854775807) (hn0 : -9223372036854775808 ≤ n) (hn1 : n ≤ 9223372036854775807)
    (hln : ln = S.length) (hl9 : ln ≤ 140737488355328) (hS : Sh8 w a S) (hD : DecAs k r n S x zs) :
    Calls Tryd.prog 6 #[.int .i64 k, .int .i64 r, .int .i64 n, .slice a ln cn] w fun e w' => ∃ bd, e = .returned (.tuple #[.slice bd zs.length zs.length, evV E x]) ∧ Row8 w' bd zs ∧ Below w.heap.size w w' := by
  rcases hD with ⟨hL, rfl, rfl⟩ | ⟨hL, hh, rfl, rfl⟩ | ⟨p, q, m, rfl, rfl, rfl, h1, h2, h3, h4, h5, hc⟩
  · exact (decode_illegal k r n ln cn a w E hE hk0 hk1 hr0 hr1 hL).mono fun e w' ⟨he, hb⟩ => ⟨none, he, .inl rfl, hb⟩
  · obtain ⟨p, q, rfl, rfl, h1, h2, h3⟩ := legal_nat hL
    exact (decode_size p q n ln cn a w E hE h1 h2 h3 hn0 hn1 hh).mono fun e w' ⟨he, hb⟩ => ⟨none, he, .inl rfl, hb⟩
  · refine (decode_G p q m ln cn a S w E hE h1 h2 h3 h4 h5 hln hl9 hS).mono fun e w' h => ?_
    subst hln
    rcases h with ⟨c, he, hb⟩ | ⟨c, d, he, hb⟩ | ⟨c, d, D, hD, g, ys, he, _, hh, hb⟩
    · rcases hc with ⟨_, rfl, rfl⟩ | ⟨c', _⟩ | ⟨c', _⟩
      · exact ⟨none, he, .inl rfl, hb⟩
      · exact absurd c' c
      · exact absurd c' c
    · rcases hc with ⟨c', _⟩ | ⟨_, _, rfl, rfl⟩ | ⟨_, d', _⟩
      · exact absurd c c'
      · exact ⟨none, he, .inl rfl, hb⟩
      · exact absurd d' d
    · rcases hc with ⟨c', _⟩ | ⟨_, d', _⟩ | ⟨_, _, rfl, D', hD', rfl⟩
      · exact absurd c c'
      · exact absurd d d'
      · obtain ⟨_, _, k3, _⟩ := cnt_half h1 (show p ≤ 14 by omega) h4 h5
        have e1 : joinD p (cntN (2 * p) m) m D = joinD p (cntN (2 * p) m) m D' := joinD_congr (made_one c.2 c.1 h3 hD hD')
        rw [e1] at hh
        rw [joinD_len k3]
        exact ⟨_, he, row8_front hh, hb⟩
theorem bothH_at : ∀ (L : List Nat) (j q : Nat), q < 2 → (bothH L)[2 * j + q]? = L[j]?.map fun s => 2 * s + q
  | [], j, q, _ => by simp [bothH]
  | s :: L, 0, q, h => by
    match q, h with
    | 0, _ => rfl
    | 1, _ => rfl
  | s :: L, j + 1, q, h => by
    have := bothH_at L j q h
    rw [show 2 * (j + 1) + q = (2 * j + q) + 2 by omega]
    exact this
/-- half q of a shard -/
def halfS (s : Int × List F × List F) (q : Nat) : List F := if q = 0 then s.2.1 else s.2.2
theorem rowsS_at : ∀ (S : List (Int × List F × List F)) (j q : Nat), q < 2 → (rowsS S)[2 * j + q]? = S[j]?.map fun s => halfS s q
  | [], j, q, _ => by simp [rowsS]
  | s :: S, 0, q, h => by
    match q, h with
    | 0, _ => rfl
    | 1, _ => rfl
  | s :: S, j + 1, q, h => by
    have := rowsS_at S j q h
    rw [show 2 * (j + 1) + q = (2 * j + q) + 2 by omega]
    exact this
/-- what a list of shards is made of, shard by shard -/
theorem made_iff {k r H : Nat} {S : List (Int × List F × List F)} {D : Nat → Nat → F} (hl : S.length = k) :
    MadeOf k r H (numT S) (rowsS S) D ↔ ∀ s ∈ S, ∀ q, q < 2 → ∀ b, b < H → at8 (halfS s q) b = sumF (fun u => gm (halfF k (carN (groupN k r)) (2 * s.1.toNat + q) u) (D u b)) (2 * k) := by
  have key : ∀ (j q : Nat) (s : Int × List F × List F), q < 2 → S[j]? = some s → ∀ b, bytesD (rowsS S) (2 * j + q) b = at8 (halfS s q) b ∧ numM k (carN (groupN k r)) (bothH (numT S)) (2 * j + q) = halfF k (carN (groupN k r)) (2 * s.1.toNat + q) := fun j q s hq hs b => by
    refine ⟨?_, ?_⟩
    · rw [bytesD, List.getD_eq_getElem?_getD, rowsS_at S j q hq, hs]; rfl
    · rw [numM, List.getD_eq_getElem?_getD, bothH_at _ j q hq, numT, List.getElem?_map, hs]; rfl
  constructor
  · intro h s hs q hq b hb
    obtain ⟨j, hj⟩ := List.mem_iff_getElem?.1 hs
    have hjl := (List.getElem?_eq_some_iff.1 hj).1
    have h9 := h (2 * j + q) (by omega) b hb
    rw [(key j q s hq hj b).1, (key j q s hq hj b).2] at h9
    exact h9
  · intro h i hi b hb
    obtain ⟨j, q, rfl, hq⟩ : ∃ j q, i = 2 * j + q ∧ q < 2 := ⟨i / 2, i % 2, by omega, by omega⟩
    have hj : S[j]? = some S[j] := List.getElem?_eq_getElem (by omega)
    rw [(key j q _ hq hj b).1, (key j q _ hq hj b).2]
    exact h _ (List.getElem_mem _) q hq b hb
theorem good_perm {k r : Nat} {S T : List (Int × List F × List F)} (hp : S.Perm T) : GoodT k r S ↔ GoodT k r T :=
  ⟨fun h => ⟨fun s hs => h.1 s (hp.mem_iff.2 hs), (hp.map _).nodup_iff.1 h.2⟩, fun h => ⟨fun s hs => h.1 s (hp.mem_iff.1 hs), (hp.map _).nodup_iff.2 h.2⟩⟩
theorem rows_perm {S T : List (Int × List F × List F)} (hp : S.Perm T) {xs : List F} : xs ∈ rowsS S ↔ xs ∈ rowsS T := by
  simp only [rowsS, List.mem_flatMap]
  exact ⟨fun ⟨s, hs, h⟩ => ⟨s, hp.mem_iff.1 hs, h⟩, fun ⟨s, hs, h⟩ => ⟨s, hp.mem_iff.2 hs, h⟩⟩
theorem decAs_perm {k r n : Int} {S T : List (Int × List F × List F)} {x : Nat} {zs : List F} (hp : S.Perm T) (h : DecAs k r n S x zs) : DecAs k r n T x zs := by
  have hl : S.length = T.length := hp.length_eq
  rcases h with h | h | ⟨a, b, m, q1, q2, q3, q4, q5, q6, q7, q8, h⟩
  · exact .inl h
  · exact .inr (.inl h)
  · refine .inr (.inr ⟨a, b, m, q1, q2, q3, q4, q5, q6, q7, q8, ?_⟩)
    have hg : (S.length = a ∧ GoodT a b S) ↔ (T.length = a ∧ GoodT a b T) := by rw [hl, good_perm hp]
    have hr : (∀ xs ∈ rowsS S, xs.length = cntN (2 * a) m) ↔ (∀ xs ∈ rowsS T, xs.length = cntN (2 * a) m) := ⟨fun h xs hx => h xs ((rows_perm hp).2 hx), fun h xs hx => h xs ((rows_perm hp).1 hx)⟩
    rcases h with ⟨c, e, z⟩ | ⟨c, d, e, z⟩ | ⟨c, d, e, D, hD, z⟩
    · exact .inl ⟨fun h => c (hg.2 h), e, z⟩
    · exact .inr (.inl ⟨hg.1 c, fun h => d (hr.2 h), e, z⟩)
    · refine .inr (.inr ⟨hg.1 c, hr.1 d, e, D, ?_, z⟩)
      rw [made_iff (hg.1 c).1]
      rw [made_iff c.1] at hD
      exact fun s hs => hD s (hp.mem_iff.2 hs)
theorem swap_perm {α : Type} {S : List α} {i j : Nat} {s t : α} (hi : S[i]? = some s) (hj : S[j]? = some t) : S.Perm ((S.set i t).set j s) := by
  obtain ⟨hi1, hi2⟩ := List.getElem?_eq_some_iff.1 hi
  obtain ⟨hj1, hj2⟩ := List.getElem?_eq_some_iff.1 hj
  have := (List.set_set_perm hi1 hj1).symm
  rw [hi2, hj2] at this
  exact this
end Go.Proofs.YtkoakingmnjdoabDoor

/- What the statements' own copy of shards answers, of all lists of shards: the same shards in new memory; nothing that was there turns. -/
namespace Go.Proofs.YtkoakingmnjdoabDoor
open Go.RowKit Gf
set_option linter.unusedVariables false
set_option maxRecDepth 20000
theorem copyE {u : World} {p : Nat} {a : Option Addr} {l c : Nat} {xs : List F} (ty : TypeId) (hl : l = xs.length) (hb : l ≤ 140737488355328) (hE : u.heap[p]? = some (.cells #[] 5 (0, 0))) (hx : Row8 u a xs) :
    ∃ g cap u', (Builtin.append_ #[22, 22] ty #[.slice (some ⟨p, 0, none⟩) 0 0, .slice a l c]).run Tryd.prog u = .ok (.slice (some ⟨g, 0, none⟩) l cap) u' ∧ Has8 u' g xs cap ∧ Below u.heap.size u u' := by
  by_cases h0 : l = 0
  · subst h0
    obtain rfl : xs = [] := List.eq_nil_of_length_eq_zero hl.symm
    exact ⟨p, 0, _, append8_zero _ _ _ _ _, has8_full (xs := []) hE (by simp [maxLen]), Below.refl _ _⟩
  · obtain ⟨b, off, rfl, _, hc⟩ := row8_get hx (show 0 < xs.length by omega)
    obtain ⟨g', cap', w', h1, h2, h3, h4⟩ := append8_grows (w := u) (g := p) (n := 0) (cap := 0) (xs := []) (ys := xs) (ad := ⟨b, off, none⟩) (m := l) (c := c) ty (.inl rfl) rfl hl (by omega) (by omega) (fun j hj => by
      have : (⟨b, off, none⟩ : Addr).add j = ⟨b, off + j, none⟩ := by unfold Addr.add; split <;> simp_all
      rw [this]; exact hc j hj)
    exact ⟨g', cap', w', by rw [h1]; simp, by simpa using h2, ⟨h3.os, h3.tape, h3.output, h3.size, fun k hk => h3.block k hk (by simp)⟩⟩
theorem grown_of_below {w u : World} {r : Option Nat} (h : Below w.heap.size w u) : w.grownBy u r := ⟨h.os, h.tape, h.output, h.size, fun k hk _ => h.block k hk⟩
theorem grown_after {w u v : World} {r : Option Nat} (h : Below w.heap.size w u) (hg : u.grownBy v r) : w.grownBy v r :=
  ⟨hg.os.trans h.os, hg.tape.trans h.tape, hg.output.trans h.output, Nat.le_trans h.size hg.size, fun k hk hne => (hg.block k (Nat.lt_of_lt_of_le hk h.size) hne).trans (h.block k hk)⟩
theorem has8_own {w w' : World} {B n g cap : Nat} {v : Value} {xs : List Value} {ys : List F} (ho : w.ownsRow B 36 3 v n xs) (h : w.grownBy w' v.ownBlock) (h8 : Has8 w g ys cap) : Has8 w' g ys cap := by
  obtain ⟨cur, h1, h2⟩ := h8
  exact ⟨cur, own_other ho h h1 (by decide), h2⟩
/-- triples that are copies of these shards, each half in a block of bytes -/
def CopT (w : World) (T : List Tri) (S : List (Int × List F × List F)) : Prop :=
  ∀ (j : Nat) (s : Int × List F × List F), S[j]? = some s → ∃ g1 c1 g2 c2, T[j]? = some (.int .i64 s.1, .slice (some ⟨g1, 0, none⟩) s.2.1.length c1, .slice (some ⟨g2, 0, none⟩) s.2.2.length c2) ∧ Has8 w g1 s.2.1 c1 ∧ Has8 w g2 s.2.2 c2
theorem copT_snoc {w w' : World} {T : List Tri} {S : List (Int × List F × List F)} {s : Int × List F × List F} {g1 c1 g2 c2 : Nat} (h : CopT w T S) (hl : T.length = S.length) (hk : ∀ g ys cap, Has8 w g ys cap → Has8 w' g ys cap) (r1 : Has8 w' g1 s.2.1 c1) (r2 : Has8 w' g2 s.2.2 c2) :
    CopT w' (T ++ [(.int .i64 s.1, .slice (some ⟨g1, 0, none⟩) s.2.1.length c1, .slice (some ⟨g2, 0, none⟩) s.2.2.length c2)]) (S ++ [s]) := fun j u hu => by
  by_cases hj : j < S.length
  · rw [List.getElem?_append_left hj] at hu
    obtain ⟨b1, d1, b2, d2, e, q1, q2⟩ := h j u hu
    exact ⟨b1, d1, b2, d2, by rw [List.getElem?_append_left (by omega)]; exact e, hk _ _ _ q1, hk _ _ _ q2⟩
  · have e := (List.getElem?_eq_some_iff.1 hu).1
    simp at e
    obtain rfl : j = S.length := by omega
    rw [List.getElem?_append_right (Nat.le_refl _), Nat.sub_self] at hu
    obtain rfl := Option.some.inj hu
    exact ⟨g1, c1, g2, c2, by rw [List.getElem?_append_right (by omega), hl, Nat.sub_self]; rfl, r1, r2⟩
theorem triL_snoc (T : List Tri) (t : Tri) : triL T ++ [t.1, t.2.1, t.2.2] = triL (T ++ [t]) := by simp [triL]
theorem appendT3 {w : World} {B n b c : Nat} {v x y z : Value} {T : List Tri} (ty : TypeId) (ho : w.ownsRow B 36 3 v n (triL T)) (hb : w.heap[b]? = some (.cells #[x, y, z] 36 (0, 0))) (h1 : x.oneCell' = true) (h2 : y.oneCell' = true) (h3 : z.oneCell' = true) (hn : n ≤ 2513169434843) (hB : B ≤ w.heap.size) :
    ∃ g cap w', (Builtin.append_ #[26, 26] ty #[v, .slice (some ⟨b, 0, none⟩) 1 c]).run Tryd.prog w = .ok (.slice (some ⟨g, 0, none⟩) (n + 1) cap) w' ∧
      w'.ownsRow B 36 3 (.slice (some ⟨g, 0, none⟩) (n + 1) cap) (n + 1) (triL (T ++ [(x, y, z)])) ∧ w.grownBy w' v.ownBlock := by
  obtain ⟨i, hi, s1, s2, s3⟩ := infoT
  obtain ⟨g, cap, w', q1, q2, q3, _⟩ := run_append_lies (P := Tryd.prog) w 26 ty B 36 i _ 3 56 Tryd.underlying26 hi s3 s1 s2 rfl (by decide) v n (triL T) ho ⟨b, 0, none⟩ 1 c [x, y, z] rfl (fun j u hu => by
    have e : (⟨b, 0, none⟩ : Addr).add j = ⟨b, j, none⟩ := by unfold Addr.add; split <;> simp_all
    rw [e]
    match j, hu with
    | 0, hu => obtain rfl := Option.some.inj hu; exact cellAt hb 0 _ rfl
    | 1, hu => obtain rfl := Option.some.inj hu; exact cellAt hb 1 _ rfl
    | 2, hu => obtain rfl := Option.some.inj hu; exact cellAt hb 2 _ rfl) (by simp [h1, h2, h3]) (by decide) (by simp only [maxLen]; omega) (by omega) hB _ rfl
  exact ⟨g, cap, w', q1, by rw [← triL_snoc]; exact q2, q3⟩
theorem sh8_cop {w : World} {B g n cp : Nat} {T : List Tri} {S : List (Int × List F × List F)} (ho : w.ownsRow B 36 3 (.slice (some ⟨g, 0, none⟩) n cp) n (triL T)) (hc : CopT w T S) (hl : n = S.length) : Sh8 w (some ⟨g, 0, none⟩) S := by
  refine .inr ⟨g, 0, rfl, fun j m xs ys hj => ?_⟩
  have hj9 := (List.getElem?_eq_some_iff.1 hj).1
  obtain ⟨g1, c1, g2, c2, e, r1, r2⟩ := hc j _ hj
  refine ⟨_, c1, _, c2, ?_, ?_, ?_, row8_has r1, row8_has r2⟩
  · have := ho.cellAt (j * 3 + 0) (by omega)
    rw [triL_at _ _ _ (by omega), e] at this
    simpa [tri3] using this
  · have := ho.cellAt (j * 3 + 1) (by omega)
    rw [triL_at _ _ _ (by omega), e] at this
    simpa [tri3] using this
  · have := ho.cellAt (j * 3 + 2) (by omega)
    rw [triL_at _ _ _ (by omega), e] at this
    simpa [tri3] using this
end Go.Proofs.YtkoakingmnjdoabDoor

/- A list of one's own of no elements. -/
namespace Go.Proofs.YtkoakingmnjdoabDoor
open Go.RowKit
set_option linter.unusedVariables false
set_option maxRecDepth 20000
theorem own_emptyI {w : World} {g B size : Nat} {e : TypeId} (h : w.heap[g]? = some (.cells #[] e (0, 0))) (hB : B ≤ g) : w.ownsRow B e size (.slice (some ⟨g, 0, none⟩) 0 0) 0 [] :=
  ⟨by simp, .inr ⟨g, 0, #[], rfl, hB, h, Nat.le_refl _, by decide, by simp, by simp⟩⟩
end Go.Proofs.YtkoakingmnjdoabDoor

/- The walk of WholeDecodes: at all numbers, lists of bytes and picks. -/
namespace Go.Proofs.YtkoakingmnjdoabDoor
open Go.RowKit Gf
set_option linter.unusedVariables false
set_option maxRecDepth 20000
theorem tlegal_yes (k r : Nat) (w : World) (h1 : 1 ≤ k) (h2 : 2 ≤ r) (h3 : k + r ≤ 16) : Calls Tryd.prog 5 #[.int .i64 k, .int .i64 r] w fun e w' => e = .returned (.bool true) ∧ w = w' := by
  have b1 : decide ((1 : Int) ≤ (k : Int)) = true := decide_eq_true (by omega)
  have b2 : decide ((2 : Int) ≤ (r : Int)) = true := decide_eq_true (by omega)
  have b3 : decide ((k : Int) ≤ 14) = true := decide_eq_true (by omega)
  have b4 : decide ((r : Int) ≤ 15) = true := decide_eq_true (by omega)
  have b5 : decide ((k : Int) + (r : Int) ≤ 16) = true := decide_eq_true (by omega)
  go_enter Tryd.func5, Tryd.ntmps5
  go_wp2
  go_ret
  exact ⟨rfl, rfl⟩
theorem tlegal_no (k r : Int) (w : World) (hk0 : -9223372036854775808 ≤ k) (hk1 : k ≤ 9223372036854775807) (hr0 : -9223372036854775808 ≤ r) (hr1 : r ≤ 9223372036854775807) (hL : ¬ LegalP k r) : Calls Tryd.prog 5 #[.int .i64 k, .int .i64 r] w fun e w' => e = .returned (.bool false) ∧ w = w' := by
  have hL2 : ¬ 1 ≤ k ∨ ¬ 2 ≤ r ∨ ¬ k ≤ 14 ∨ ¬ r ≤ 15 ∨ ¬ k + r ≤ 16 := by
    unfold LegalP at hL
    omega
  clear hL
  by_cases a1 : 1 ≤ k
  · by_cases a2 : 2 ≤ r
    · by_cases a3 : k ≤ 14
      · by_cases a4 : r ≤ 15
        · have a5 : ¬ k + r ≤ 16 := by omega
          go_enter Tryd.func5, Tryd.ntmps5
          go_wp2
          go_ret
          exact ⟨rfl, rfl⟩
        · go_enter Tryd.func5, Tryd.ntmps5
          go_wp2
          go_ret
          exact ⟨rfl, rfl⟩
      · go_enter Tryd.func5, Tryd.ntmps5
        go_wp2
        go_ret
        exact ⟨rfl, rfl⟩
    · go_enter Tryd.func5, Tryd.ntmps5
      go_wp2
      go_ret
      exact ⟨rfl, rfl⟩
  · go_enter Tryd.func5, Tryd.ntmps5
    go_wp2
    go_ret
    exact ⟨rfl, rfl⟩
theorem tsized_F (k n : Nat) (w : World) (hk : k ≤ 16) (hn : n ≤ 140737488355328) : Calls Tryd.prog 7 #[.int .i64 k, .int .i64 n] w fun e w' => e = .returned (.bool (decide (1 ≤ n ∧ n ≤ 128 * k))) ∧ w = w' := by
  by_cases a1 : 1 ≤ n
  · by_cases a2 : n ≤ 128 * k
    · rw [decide_eq_true (show 1 ≤ n ∧ n ≤ 128 * k from ⟨a1, a2⟩)]
      have b2 : (n : Int) ≤ 2 * (k : Int) * 64 := by omega
      go_enter Tryd.func7, Tryd.ntmps7
      go_wp2
      go_ret
      exact ⟨rfl, rfl⟩
    · rw [decide_eq_false (fun h : 1 ≤ n ∧ n ≤ 128 * k => a2 h.2)]
      have b2 : ¬ (n : Int) ≤ 2 * (k : Int) * 64 := by omega
      go_enter Tryd.func7, Tryd.ntmps7
      go_wp2
      go_ret
      exact ⟨rfl, rfl⟩
  · rw [decide_eq_false (fun h : 1 ≤ n ∧ n ≤ 128 * k => a1 h.1)]
    go_enter Tryd.func7, Tryd.ntmps7
    go_wp2
    go_ret
    exact ⟨rfl, rfl⟩
theorem own_bools {w w' : World} {B n m g : Nat} {v : Value} {xs : List Value} {cs : Array Value} {fr : Nat × Nat} (ho : w.ownsRow B 3 1 v n xs) (hk : w.heap[g]? = some (.cells cs 4 fr)) (hg : w.grownBy w' (some g)) : w'.ownsRow B 3 1 v n xs :=
  ho.kept hg (by
    rcases ho.2 with ⟨rfl, _⟩ | ⟨b, cap, cur, rfl, _, h, _⟩
    · exact .inl rfl
    · refine .inr fun e2 => ?_
      have e3 : b = g := by simpa [Value.ownBlock] using e2
      rw [e3, hk] at h
      injection h with h
      injection h with h1 h2 h3
      exact absurd h2 (by decide))
/-- the numbers that are chosen: so many, no two alike, all below the bound -/
theorem some_F (n k ln cn : Nat) (an : Option Addr) (ns : List Int) (w : World) (hn : 1 ≤ n) (hn2 : n ≤ 256) (hk : k ≤ n) (hln : ln = ns.length) (hm : ln ≤ 140737488355328) (hI : RowI w an ns) (hbd : ∀ x ∈ ns, -9223372036854775808 ≤ x ∧ x ≤ 9223372036854775807) :
    Calls Tryd.prog 8 #[.int .i64 n, .int .i64 k, .slice an ln cn] w fun e w' => ∃ a cap L, e = .returned (.slice a k cap) ∧ L.Nodup ∧ L.length = k ∧ (∀ x ∈ L, x < n) ∧ w'.ownsRow w.heap.size 3 1 (.slice a k cap) k (nvs L) ∧ Below w.heap.size w w' := by
  have HLN : Hid (ln = ns.length) := hln
  have HI : Hid (RowI w an ns) := hI
  have HBD : Hid (∀ x ∈ ns, -9223372036854775808 ≤ x ∧ x ≤ 9223372036854775807) := hbd
  clear hln hI hbd
  have hb0 : Below w.heap.size w (w.alloc (.cells #[] 3)) := (Below.refl _ _).alloc (Nat.le_refl _) _
  obtain ⟨W0, hW0⟩ : ∃ W0, W0 = w.alloc (.cells #[] 3) := ⟨_, rfl⟩
  rw [← hW0] at hb0
  have ho0 : W0.ownsRow w.heap.size 3 1 (.slice (some ⟨w.heap.size, 0, none⟩) 0 0) 0 (nvs []) := by
    rw [hW0]; exact own_emptyI (heap_alloc_last _ _) (Nat.le_refl _)
  obtain ⟨W1, hW1⟩ : ∃ W1, W1 = W0.alloc (.cells (bvs n (fun _ => false)) 4) := ⟨_, rfl⟩
  obtain ⟨g, hg⟩ : ∃ g, g = W0.heap.size := ⟨_, rfl⟩
  have hb1 : Below W0.heap.size W0 W1 := by rw [hW1]; exact (Below.refl _ _).alloc (Nat.le_refl _) _
  have hg1 : W1.heap[g]? = some (.cells (bvs n (fun _ => false)) 4 (0, 0)) := by rw [hW1, hg]; exact heap_alloc_last _ _
  have HO1 : Hid (W1.ownsRow w.heap.size 3 1 (.slice (some ⟨w.heap.size, 0, none⟩) 0 0) 0 (nvs [])) := own_below ho0 hb1
  have HB1 : Hid (Below w.heap.size w W1) := hb0.trans (hb1.mono hb0.size)
  have HG1 : Hid (W1.heap[g]? = some (.cells (bvs n (fun _ => false)) 4 (0, 0))) := hg1
  have HGW : Hid (w.heap.size ≤ g) := by show _ ≤ _; rw [hg]; exact hb0.size
  have hmk := run_makeB n (by omega)
  have HW0E : Hid (W0 = w.alloc (.cells #[] 3)) := hW0
  have HW1E : Hid (W1 = W0.alloc (.cells (bvs n (fun _ => false)) 4)) := hW1
  have HGE : Hid (g = W0.heap.size) := hg
  clear hb0 ho0 hb1 hg1 hW0 hW1 hg
  go_enter Tryd.func8, Tryd.ntmps8
  go_upto_region 2 with fail
  rw [← HW0E.out]
  go_upto_region 3 with fail
  rw [← HW1E.out, ← HGE.out]
  clear hmk HW1E HW0E HGE
  go_wp2
  go_loopw [9, 7] (fun t v wr => ∃ (i : Nat) (L : List Nat) (a : Option Addr) (cap : Nat), i ≤ ln + n ∧ t = .int .i64 i ∧ L.length ≤ k ∧ L.Nodup ∧ (∀ x ∈ L, x < n) ∧ (∀ x, x + ln < i → x ∈ L) ∧ v = .slice a L.length cap ∧ wr.ownsRow w.heap.size 3 1 (.slice a L.length cap) L.length (nvs L) ∧ wr.heap[g]? = some (.cells (bvs n (fun x => decide (x ∈ L))) 4 (0, 0)) ∧ Below w.heap.size w wr) (fun t _ _ => ln + n - (intOf t).toNat)
  case atStart => exact ⟨0, [], _, _, Nat.zero_le _, rfl, Nat.zero_le _, List.nodup_nil, fun x h => (by cases h), fun x h => by omega, rfl, HO1.out, by simpa using HG1.out, HB1.out⟩
  case round =>
    obtain ⟨i, L, a, cap, hi, rfl, hl, hnd, hlt, hall, rfl, ho, hgb, hb⟩ := hrel
    have HND : Hid L.Nodup := hnd
    have HLT : Hid (∀ x ∈ L, x < n) := hlt
    have HALL : Hid (∀ x, x + ln < i → x ∈ L) := hall
    have HO : Hid (wr.ownsRow w.heap.size 3 1 (.slice a L.length cap) L.length (nvs L)) := ho
    have HG : Hid (wr.heap[g]? = some (.cells (bvs n (fun x => decide (x ∈ L))) 4 (0, 0))) := hgb
    have HB : Hid (Below w.heap.size w wr) := hb
    clear hnd hlt hall ho hgb hb HO1 HG1 HB1
    generalize wr = Y at *
    by_cases hex : i < ln + n ∧ L.length < k
    · obtain ⟨hx1, hx2⟩ := hex
      have hw1 : (i : Int) < (ln : Int) + (n : Int) := by omega
      obtain ⟨lc, hlc⟩ : ∃ lc, lc = L.length := ⟨_, rfl⟩
      rw [← hlc] at hx2
      have HLC : Hid (lc = L.length) := hlc
      rw [← hlc]
      have hlc2 : lc ≤ k := by omega
      clear hl hlc
      go_upto_region 7 with fail
      go_cut [32] (fun s wx => s = .bool (decide (i < ln)) ∧ Y = wx)
      case first =>
        go_wp2
        go_meet
        exact ⟨by simp, rfl⟩
      case rest =>
      obtain ⟨rfl, rfl⟩ := hcut
      go_upto_if 32 with fail
      go_cut [10] (fun s wx => ∃ x : Int, (-9223372036854775808 ≤ x ∧ x ≤ 9223372036854775807) ∧ s = .int .i64 x ∧ (ln ≤ i → x = (i : Int) - (ln : Int)) ∧ Y = wx)
      case first =>
        by_cases h : i < ln
        · rw [decide_eq_true h]
          have hin : i < ns.length := by rw [← HLN.out]; exact h
          have hget : ns[i]? = some ns[i] := List.getElem?_eq_getElem hin
          have hbx := HBD.out _ (List.getElem_mem hin)
          generalize ns[i] = x at hget hbx
          rcases HI.out with e0 | ⟨b, off, rfl, hrows⟩
          · rw [e0] at hget; simp at hget
          have c3 := cell_later HB.out (hrows i x hget)
          have HBX : Hid _ := hbx
          clear hget hrows hbx hin
          go_wp2
          go_meet
          exact ⟨x, HBX.out, rfl, fun h9 => by omega, rfl⟩
        · rw [decide_eq_false h]
          go_wp2
          go_meet
          exact ⟨(i : Int) - (ln : Int), ⟨by omega, by omega⟩, rfl, fun _ => rfl, rfl⟩
      case rest =>
      obtain ⟨x, hbx, rfl, hxi, rfl⟩ := hcut
      obtain ⟨⟨t1, t2⟩, j, hj, hti⟩ := mod_place x hn
      have hxj : ln ≤ i → j = i - ln := fun h9 => by
        have h1 := hxi h9
        rw [h1, show ((i : Int) - (ln : Int)) = ((i - ln : Nat) : Int) by omega] at hti
        have h2 : i - ln < n := by omega
        rw [show ((i - ln : Nat) : Int).tmod (n : Int) = ((i - ln : Nat) : Int) from Int.tmod_eq_of_lt (by omega) (by omega), Int.emod_eq_of_lt (by omega) (by omega)] at hti
        omega
      have hn0 : ((n : Int) == 0) = false := beq_eq_false_iff_ne.2 (by omega)
      have hx3 := hbx.1
      have hx4 := hbx.2
      have HTI : Hid ((x.tmod n + n) % (n : Int) = j) := by
        show _ = _
        rw [← hti]; simp
      have HXJ : Hid (ln ≤ i → j = i - ln) := hxj
      clear hti hxj hxi hbx
      go_upto_region 10 with fail
      go_cut [10] (fun s wx => s = .int .i64 j ∧ Y = wx)
      case first =>
        go_wp2
        go_meet
        exact ⟨by rw [HTI.out], rfl⟩
      case rest =>
      obtain ⟨rfl, rfl⟩ := hcut
      clear HTI hx3 hx4 t1 t2 hn0
      have c4 := cellAt HG.out j _ (bvs_get hj)
      by_cases hjL : j ∈ L
      · rw [decide_eq_true hjL] at c4
        have HJL : Hid (j ∈ L) := hjL
        clear hjL
        go_wp2
        refine ⟨⟨i + 1, L, a, cap, by omega, by go_num, by rw [← HLC.out]; exact hlc2, HND.out, HLT.out, fun y hy => ?_, by rw [HLC.out], HO.out, HG.out, HB.out⟩, by simp [intOf]; omega⟩
        by_cases e : y + ln < i
        · exact HALL.out y e
        · have := HXJ.out (by omega)
          have e2 : y = j := by omega
          rw [e2]; exact HJL.out
      · rw [decide_eq_false hjL] at c4
        have d4 : Y.frozen? ⟨g, j, none⟩ = false := frozen_of_row _ _ _ _ _ HG.out
        obtain ⟨Z, hZ⟩ : ∃ Z, Z = Y.setCell ⟨g, j, none⟩ (.bool true) := ⟨_, rfl⟩
        have hzg : Z.heap[g]? = some (.cells (bvs n (fun x => decide (x ∈ L ++ [j]))) 4 (0, 0)) := by
          rw [hZ, heap_setCell_same _ _ _ _ _ _ HG.out, bvs_set]
          congr 3
          funext y
          simp [upB]
        have hgz : Y.grownBy Z (some g) := by rw [hZ]; exact grownBy_setCell (World.grownBy.refl _ _) _
        have hzo := own_bools (m := 0) HO.out HG.out hgz
        have hbz : Below w.heap.size w Z := by rw [hZ]; exact HB.out.setCell (p := ⟨g, j, none⟩) HGW.out _
        have hzs : Z.heap.size = Y.heap.size := by rw [hZ]; simp
        have HZE : Hid (Z = Y.setCell ⟨g, j, none⟩ (.bool true)) := hZ
        clear hZ
        obtain ⟨X, hX⟩ : ∃ X, X = Z.alloc (.cells #[.int .i64 j] 3) := ⟨_, rfl⟩
        have hbX : Below Z.heap.size Z X := by rw [hX]; exact (Below.refl _ _).alloc (Nat.le_refl _) _
        have hXl : X.heap[Z.heap.size]? = some (.cells #[.int .i64 j] 3 (0, 0)) := by rw [hX]; exact heap_alloc_last _ _
        have hoX := own_below hzo hbX
        have hwX := hbz.trans (hbX.mono hbz.size)
        obtain ⟨g2, cap2, w6, hrun, ho2, hgr, hor, hlt2⟩ := appendI (b := Z.heap.size) (c := 1) (x := (j : Int)) 23 hoX (cellAt hXl 0 _ rfl) (by rw [← HLC.out]; omega) (Nat.le_trans hbz.size hbX.size)
        rw [nvs_snoc] at ho2
        have hg6 : w6.heap[g]? = some (.cells (bvs n (fun x => decide (x ∈ L ++ [j]))) 4 (0, 0)) := own_other hoX hgr (heap_later hzg hbX) (by decide)
        have hb6 : Below w.heap.size w w6 := below_own hwX hoX hgr (Nat.le_trans hbz.size hbX.size)
        have hll : L.length + 1 = (L ++ [j]).length := by simp
        have HXE : Hid (X = Z.alloc (.cells #[.int .i64 j] 3)) := hX
        have HRun : Hid _ := hrun
        have HO2 : Hid (w6.ownsRow w.heap.size 3 1 (.slice (some ⟨g2, 0, none⟩) (L.length + 1) cap2) (L.length + 1) (nvs (L ++ [j]))) := ho2
        have HG6 : Hid (w6.heap[g]? = some (.cells (bvs n (fun x => decide (x ∈ L ++ [j]))) 4 (0, 0))) := hg6
        have HB6 : Hid (Below w.heap.size w w6) := hb6
        have HJL : Hid (¬ j ∈ L) := hjL
        clear hzg hgz hzo hbz hzs hX hbX hXl hoX hwX hrun ho2 hgr hor hlt2 hg6 hb6 hll hjL
        go_upto_region 13 with fail
        rw [← HZE.out]
        clear c4 d4 HZE
        rw [HLC.out]
        go_wp2_with (at_builtin; (try rw [← HXE.out]); refine wpList_append_run rfl _ _ 23 rfl _ _ _ _ rfl rfl HRun.out ?_)
        have hl9 : (L ++ [j]).length = L.length + 1 := by simp
        refine ⟨⟨i + 1, L ++ [j], some ⟨g2, 0, none⟩, cap2, by omega, by go_num, by rw [hl9, ← HLC.out]; omega, ?_, ?_, fun y hy => ?_, by rw [hl9], by rw [hl9]; exact HO2.out, HG6.out, HB6.out⟩, by simp [intOf]; omega⟩
        · rw [List.nodup_append]
          exact ⟨HND.out, by simp, fun x hx y hy => by rw [List.mem_singleton] at hy; subst hy; exact fun e => HJL.out (e ▸ hx)⟩
        · intro x hx
          rcases List.mem_append.1 hx with h | h
          · exact HLT.out x h
          · rw [List.mem_singleton] at h; subst h; exact hj
        · by_cases e : y + ln < i
          · exact List.mem_append_left _ (HALL.out y e)
          · have := HXJ.out (by omega)
            have e2 : y = j := by omega
            rw [e2]; simp
    · have hlen : L.length = k := by
        by_cases h : L.length < k
        · have hi2 : i = ln + n := by omega
          have : n ≤ L.length := full_len fun x hx => HALL.out x (by omega)
          omega
        · omega
      have HLL : Hid (L.length = k) := hlen
      have hwe : ((i : Int) < (ln : Int) + (n : Int) ∧ (L.length : Int) < (k : Int)) → False := fun h => hex ⟨by omega, by omega⟩
      by_cases hi9 : i < ln + n
      · have hk9 : ¬ L.length < k := fun h => hex ⟨hi9, h⟩
        have hw1 : (i : Int) < (ln : Int) + (n : Int) := by omega
        have hlk : L.length ≤ 256 := by omega
        rw [hlen]
        have HOk : Hid (Y.ownsRow w.heap.size 3 1 (.slice a k cap) k (nvs L)) := by show World.ownsRow ..; have := HO.out; rwa [hlen] at this
        clear hlen hk9 hex hwe hl hlk
        go_wp2
        go_ret
        exact ⟨a, cap, L, rfl, HND.out, HLL.out, HLT.out, HOk.out, HB.out⟩
      · have hw1 : ¬ (i : Int) < (ln : Int) + (n : Int) := by omega
        rw [hlen]
        have HOk : Hid (Y.ownsRow w.heap.size 3 1 (.slice a k cap) k (nvs L)) := by show World.ownsRow ..; have := HO.out; rwa [hlen] at this
        clear hlen hex hwe hl
        go_wp2
        go_ret
        exact ⟨a, cap, rfl, L, HND.out, HLL.out, HLT.out, HOk.out, HB.out⟩
end Go.Proofs.YtkoakingmnjdoabDoor

/- The walk of WholeDecodes: at all numbers, lists of bytes and picks. -/
namespace Go.Proofs.YtkoakingmnjdoabDoor
open Go.RowKit Gf
set_option linter.unusedVariables false
set_option maxRecDepth 20000
theorem good_map {k r H m : Nat} {xs : List F} {L : List Nat} (hn : L.Nodup) (hl : ∀ x ∈ L, x < m) (hm : m = k + r) : GoodT k r (L.map (shS k r H xs)) := by
  refine ⟨fun s hs => ?_, ?_⟩
  · obtain ⟨x, hx, rfl⟩ := List.mem_map.1 hs
    have := hl x hx
    simp only [shS]
    omega
  · rw [List.map_map, List.Nodup, List.pairwise_map]
    refine List.Pairwise.imp (fun {x y} hne e => hne ?_) hn
    simp only [Function.comp, shS] at e
    omega
theorem num_map {k r H : Nat} {xs : List F} {L : List Nat} : numT (L.map (shS k r H xs)) = L := by
  simp [numT, shS, Function.comp_def]
set_option maxHeartbeats 4000000 in
theorem wdec_illegal (k r : Int) (l1 c1 l2 c2 : Nat) (a1 a2 : Option Addr) (w : World) (E : Nat → Addr) (hF : ErrsF w E) (hC : ErrsC w E) (hk0 : -9223372036854775808 ≤ k) (hk1 : k ≤ 9223372036854775807) (hr0 : -9223372036854775808 ≤ r) (hr1 : r ≤ 9223372036854775807) (hl1 : l1 ≤ 140737488355328) (hL : ¬ LegalP k r) :
    Calls Tryd.prog 3 #[.agg #[.int .i64 k, .int .i64 r, .slice a1 l1 c1, .slice a2 l2 c2]] w fun e w' => e = .returned (.bool true) ∧ Below w.heap.size w w' := by
  have he : encE k r l1 = 1 := by unfold encE; rw [if_neg hL]
  have HS : Hid _ := fun u (hu : Below w.heap.size w u) => shards_bad k r l1 c1 a1 u E (errsF_below hF hu) hk0 hk1 hr0 hr1 hl1 (by rw [he]; decide)
  rw [he] at HS
  simp only [evV_succ] at HS
  have HG : Hid _ := fun u => tlegal_no k r u hk0 hk1 hr0 hr1 hL
  have HD : Hid _ := fun u (hu : Below w.heap.size w u) => decode_illegal k r l1 0 0 none u E (errsC_below hC hu) hk0 hk1 hr0 hr1 hL
  have HB0 : Hid (Below w.heap.size w (w.alloc (.cells #[.int .i64 k, .int .i64 r, .slice a1 l1 c1, .slice a2 l2 c2] 25))) := (Below.refl _ _).alloc (Nat.le_refl _) _
  have HX0 : Hid ((w.alloc (.cells #[.int .i64 k, .int .i64 r, .slice a1 l1 c1, .slice a2 l2 c2] 25)).heap[w.heap.size]? = some (.cells #[.int .i64 k, .int .i64 r, .slice a1 l1 c1, .slice a2 l2 c2] 25 (0, 0))) := heap_alloc_last _ _
  have HCP : Hid (∀ u, Below w.heap.size w u → u.cell? ⟨0, 0, none⟩ = some (errAt (E 0))) := fun u hu => (errsF_below hF hu).1.1
  generalize E 0 = s at *
  clear he hL hF hC
  unfold errAt at HS HCP HD
  go_enter Tryd.func3, Tryd.ntmps3
  go_wp2_with fail
  refine Calls.mono (HS.out _ HB0.out) ?_
  rintro e w2 ⟨rfl, hb⟩
  have HX2 : Hid _ := heap_later HX0.out hb
  have HB2 : Hid (Below w.heap.size w w2) := HB0.out.trans (hb.mono HB0.out.size)
  clear hb
  have k0 := cellAt HX2.out 0 _ rfl
  have k1 := cellAt HX2.out 1 _ rfl
  have k2 := cellAt HX2.out 2 _ rfl
  go_wp2_with fail
  refine Calls.mono (HG.out _) ?_
  rintro e w3 ⟨rfl, rfl⟩
  go_wp2_with fail
  refine Calls.mono (HD.out _ HB2.out) ?_
  rintro e w4 ⟨rfl, hb⟩
  have HB4 : Hid (Below w.heap.size w w4) := HB2.out.trans (hb.mono HB2.out.size)
  clear hb k0 k1 k2
  have c9 := HCP.out _ HB4.out
  have eqs := fun u : World => eq_same u s
  go_wp2
  go_ret
  exact ⟨rfl, HB4.out⟩
set_option maxHeartbeats 4000000 in
theorem wdec_size (k r : Nat) (l1 c1 l2 c2 : Nat) (a1 a2 : Option Addr) (w : World) (E : Nat → Addr) (hF : ErrsF w E) (hl1 : l1 ≤ 140737488355328) (h1 : 1 ≤ k) (h2 : 2 ≤ r) (h3 : k + r ≤ 16) (h : ¬ (1 ≤ l1 ∧ l1 ≤ 128 * k)) :
    Calls Tryd.prog 3 #[.agg #[.int .i64 k, .int .i64 r, .slice a1 l1 c1, .slice a2 l2 c2]] w fun e w' => e = .returned (.bool true) ∧ Below w.heap.size w w' := by
  have hh : halfE k l1 ≠ 0 := fun h0 => by
    obtain ⟨a, m, ha, hm, _, _, h4, h5⟩ := half_ok h0
    omega
  have he : encE k r l1 = halfE k l1 := by unfold encE; rw [if_pos ⟨by omega, by omega, by omega⟩]
  have HS : Hid _ := fun u (hu : Below w.heap.size w u) => shards_bad k r l1 c1 a1 u E (errsF_below hF hu) (by omega) (by omega) (by omega) (by omega) hl1 (by rw [he]; exact hh)
  rw [he] at HS
  obtain ⟨s, hs⟩ : ∃ s, evV E (halfE k l1) = errAt s := ⟨E (halfE k l1 - 1), by unfold evV; rw [if_neg hh]⟩
  rw [hs] at HS
  have HG : Hid _ := fun u => tlegal_yes k r u h1 h2 h3
  have HZ : Hid _ := fun u => tsized_F k l1 u (by omega) hl1
  rw [decide_eq_false h] at HZ
  have HB0 : Hid (Below w.heap.size w (w.alloc (.cells #[.int .i64 k, .int .i64 r, .slice a1 l1 c1, .slice a2 l2 c2] 25))) := (Below.refl _ _).alloc (Nat.le_refl _) _
  have HX0 : Hid ((w.alloc (.cells #[.int .i64 k, .int .i64 r, .slice a1 l1 c1, .slice a2 l2 c2] 25)).heap[w.heap.size]? = some (.cells #[.int .i64 k, .int .i64 r, .slice a1 l1 c1, .slice a2 l2 c2] 25 (0, 0))) := heap_alloc_last _ _
  clear he hh hF hs h
  unfold errAt at HS
  go_enter Tryd.func3, Tryd.ntmps3
  go_wp2_with fail
  refine Calls.mono (HS.out _ HB0.out) ?_
  rintro e w2 ⟨rfl, hb⟩
  have HX2 : Hid _ := heap_later HX0.out hb
  have HB2 : Hid (Below w.heap.size w w2) := HB0.out.trans (hb.mono HB0.out.size)
  clear hb
  have k0 := cellAt HX2.out 0 _ rfl
  have k1 := cellAt HX2.out 1 _ rfl
  have k2 := cellAt HX2.out 2 _ rfl
  go_wp2_with fail
  refine Calls.mono (HG.out _) ?_
  rintro e w3 ⟨rfl, rfl⟩
  go_wp2_with fail
  refine Calls.mono (HZ.out _) ?_
  rintro e w3 ⟨rfl, rfl⟩
  go_wp2
  go_ret
  exact ⟨rfl, HB2.out⟩
set_option maxHeartbeats 8000000 in
theorem wdec_ok (k r : Nat) (l1 c1 l2 c2 : Nat) (a1 a2 : Option Addr) (xs : List F) (ns : List Int) (w : World) (E : Nat → Addr) (hF : ErrsF w E) (hC : ErrsC w E) (hla : l1 = xs.length) (hx : Row8 w a1 xs) (hl3 : l2 = ns.length) (hl3m : l2 ≤ 140737488355328) (hI : RowI w a2 ns) (hbd : ∀ x ∈ ns, -9223372036854775808 ≤ x ∧ x ≤ 9223372036854775807)
    (h1 : 1 ≤ k) (h2 : 2 ≤ r) (h3 : k + r ≤ 16) (h4 : 1 ≤ l1) (h5 : l1 ≤ 128 * k) :
    Calls Tryd.prog 3 #[.agg #[.int .i64 k, .int .i64 r, .slice a1 l1 c1, .slice a2 l2 c2]] w fun e w' => e = .returned (.bool true) ∧ Below w.heap.size w w' := by
  have HC : Hid (ErrsC w E) := hC
  have HA : Hid (l1 = xs.length) := hla
  have HX : Hid (Row8 w a1 xs) := hx
  have HI : Hid (RowI w a2 ns) := hI
  have HL3 : Hid (l2 = ns.length) := hl3
  have HBD : Hid (∀ x ∈ ns, -9223372036854775808 ≤ x ∧ x ≤ 9223372036854775807) := hbd
  obtain ⟨m, hm⟩ : ∃ m, m = k + r := ⟨_, rfl⟩
  have HM : Hid (m = k + r) := hm
  have hm16 : m ≤ 16 := by omega
  have hm3 : 3 ≤ m := by omega
  have hkm : k ≤ m := by omega
  have hkr : (k : Int) + (r : Int) = (m : Int) := by omega
  obtain ⟨k1, k2, k3, _⟩ := cnt_half h1 (show k ≤ 14 by omega) h4 h5
  obtain ⟨H, hH⟩ : ∃ H, H = cntN (2 * k) l1 := ⟨_, rfl⟩
  rw [← hH] at k1 k2 k3
  have HH : Hid (H = cntN (2 * k) l1) := hH
  have HG : Hid _ := fun u => tlegal_yes k r u h1 h2 h3
  have HZ : Hid _ := fun u => tsized_F k l1 u (by omega) (by omega)
  rw [decide_eq_true (show 1 ≤ l1 ∧ l1 ≤ 128 * k from ⟨h4, h5⟩)] at HZ
  have HS : Hid _ := fun u (hu : Below w.heap.size w u) => shards_ok k r l1 c1 a1 xs u E (errsF_below hF hu) h1 h2 h3 h4 h5 hla (row8_below hx hu)
  have HB0 : Hid (Below w.heap.size w (w.alloc (.cells #[.int .i64 k, .int .i64 r, .slice a1 l1 c1, .slice a2 l2 c2] 25))) := (Below.refl _ _).alloc (Nat.le_refl _) _
  have HX0 : Hid ((w.alloc (.cells #[.int .i64 k, .int .i64 r, .slice a1 l1 c1, .slice a2 l2 c2] 25)).heap[w.heap.size]? = some (.cells #[.int .i64 k, .int .i64 r, .slice a1 l1 c1, .slice a2 l2 c2] 25 (0, 0))) := heap_alloc_last _ _
  clear hla hx hm hH hI hl3 hbd hF hC
  go_enter Tryd.func3, Tryd.ntmps3
  go_wp2_with fail
  refine Calls.mono (HS.out _ HB0.out) ?_
  rintro e w2 ⟨S, m2, gs, rfl, hm2, hSh, hb⟩
  obtain rfl : m2 = m := by rw [hm2, HM.out]
  have HX2 : Hid _ := heap_later HX0.out hb
  have HB2 : Hid (Below w.heap.size w w2) := HB0.out.trans (hb.mono HB0.out.size)
  have HGL : Hid (gs.length = 2 * m2) := by show _ = _; rw [hSh.2.1, HM.out]
  have HT2 : Hid (w2.heap[S]? = some (.cells (triC ((List.range m2).map (shV (rowsP H gs)))) 36 (0, 0))) := by
    have := hSh.2.2.1
    rw [← HH.out, ← HM.out] at this; exact this
  have HR2 : Hid (RowsP w2 (w.alloc (.cells #[.int .i64 k, .int .i64 r, .slice a1 l1 c1, .slice a2 l2 c2] 25)).heap.size gs (imgL k (carN (groupN k r)) H (strD H xs))) := by
    have := hSh.2.2.2
    rw [← HH.out] at this; exact this
  clear hb hm2 hSh
  have k0 := cellAt HX2.out 0 _ rfl
  have k1' := cellAt HX2.out 1 _ rfl
  have k2' := cellAt HX2.out 2 _ rfl
  have k3' := cellAt HX2.out 3 _ rfl
  go_wp2_with fail
  refine Calls.mono (HG.out _) ?_
  rintro e w3 ⟨rfl, rfl⟩
  go_wp2_with fail
  refine Calls.mono (HZ.out _) ?_
  rintro e w3 ⟨rfl, rfl⟩
  go_upto_region 9 with fail
  obtain ⟨V0, hV0⟩ : ∃ V0, V0 = w2.alloc (.cells #[] 36) := ⟨_, rfl⟩
  obtain ⟨gz, hgz⟩ : ∃ gz, gz = w2.heap.size := ⟨_, rfl⟩
  have hbv : Below w2.heap.size w2 V0 := by rw [hV0]; exact (Below.refl _ _).alloc (Nat.le_refl _) _
  have HO0 : Hid (V0.ownsRow w2.heap.size 36 3 (.slice (some ⟨gz, 0, none⟩) 0 0) 0 (triL [])) := by
    show World.ownsRow ..; rw [hV0, hgz]; exact own_emptyI (heap_alloc_last _ _) (Nat.le_refl _)
  have HBV : Hid (Below w2.heap.size w2 V0) := hbv
  have HWV : Hid (Below w.heap.size w V0) := HB2.out.trans (hbv.mono HB2.out.size)
  have HXV : Hid _ := heap_later HX2.out hbv
  have HVE : Hid (V0 = w2.alloc (.cells #[] 36)) := hV0
  have HZE : Hid (gz = w2.heap.size) := hgz
  clear hV0 hgz hbv k0 k1' k2' k3'
  go_upto_region 10 with fail
  rw [← HVE.out, ← HZE.out]
  clear HVE HZE
  have k0 := cellAt HXV.out 0 _ rfl
  have k1' := cellAt HXV.out 1 _ rfl
  have k3' := cellAt HXV.out 3 _ rfl
  go_wp2_with fail
  refine Calls.mono (some_F m2 k l2 c2 a2 ns _ (by omega) (by omega) hkm HL3.out hl3m (rowI_below HI.out HWV.out) HBD.out) ?_
  rintro e V1 ⟨an, cn, L, rfl, hnd, hll, hlt, hon, hv1⟩
  have HND : Hid L.Nodup := hnd
  have HLL : Hid (L.length = k) := hll
  have HLT : Hid (∀ x ∈ L, x < m2) := hlt
  have HON : Hid (V1.ownsRow V0.heap.size 3 1 (.slice an k cn) k (nvs L)) := hon
  have HB21 : Hid (Below w2.heap.size w2 V1) := HBV.out.trans (hv1.mono HBV.out.size)
  have HO1 : Hid (V1.ownsRow w2.heap.size 36 3 (.slice (some ⟨gz, 0, none⟩) 0 0) 0 (triL [])) := own_below HO0.out hv1
  rcases hon.2 with ⟨e9, h0⟩ | ⟨g9, cap9, cur9, e9, hB9, hg9, hle9, h5', h6, h7⟩
  · omega
  cases e9
  have HNC : Hid (∀ (i x : Nat), L[i]? = some x → cur9[i]? = some (.int .i64 (x : Int))) := fun i x hi => by
    have hik : i < k := by have := (List.getElem?_eq_some_iff.1 hi).1; omega
    have h9 : (cur9.toList.take (k * 1))[i]? = some (.int .i64 (x : Int)) := by rw [h7, nvs, List.getElem?_map, hi]; rfl
    rw [List.getElem?_take, if_pos (by omega)] at h9
    simpa using h9
  have HC9 : Hid (V1.heap[g9]? = some (.cells cur9 3 (0, 0))) := hg9
  have HXV1 : Hid _ := heap_later HXV.out hv1
  clear hnd hll hlt hon hv1 hB9 hg9 hle9 h5' h6 h7 HON k0 k1' k3' HXV
  go_wp2
  go_loopw [89, 7] (fun t v wr => ∃ (i : Nat) (a : Option Addr) (cp : Nat) (T : List Tri), i ≤ k ∧ t = .int .i64 i ∧ v = .slice a i cp ∧ wr.ownsRow w2.heap.size 36 3 (.slice a i cp) i (triL T) ∧ CopT wr T ((L.take i).map (shS k r H xs)) ∧ T.length = i ∧ Below w2.heap.size w2 wr ∧ wr.heap[g9]? = some (.cells cur9 3 (0, 0))) (fun t _ _ => k - (intOf t).toNat)
  case atStart => exact ⟨0, _, _, [], Nat.zero_le _, rfl, rfl, HO1.out, fun j s hs => by simp at hs, rfl, HB21.out, HC9.out⟩
  case round =>
    obtain ⟨i, a, cp, T, hi, rfl, rfl, ho, hc, htl, hb, hc9⟩ := hrel
    have HO : Hid (wr.ownsRow w2.heap.size 36 3 (.slice a i cp) i (triL T)) := ho
    have HCT : Hid (CopT wr T ((L.take i).map (shS k r H xs))) := hc
    have HTL : Hid (T.length = i) := htl
    have HB : Hid (Below w2.heap.size w2 wr) := hb
    have HCU : Hid (wr.heap[g9]? = some (.cells cur9 3 (0, 0))) := hc9
    clear ho hc htl hb hc9 HO1 HC9
    generalize wr = Y at *
    by_cases hlt : i < k
    · have hil : i < L.length := by rw [HLL.out]; exact hlt
      obtain ⟨x, hx⟩ : ∃ x, L[i]? = some x := ⟨_, List.getElem?_eq_getElem hil⟩
      have hxm := HLT.out x (List.mem_of_getElem? hx)
      obtain ⟨gi0, ci0, gi1, ci1, hvi⟩ := shV_form (H := H) HGL.out hxm
      obtain ⟨⟨g0, d0⟩, e0⟩ : ∃ q0, gs[2 * x]? = some q0 := ⟨_, List.getElem?_eq_getElem (by rw [HGL.out]; omega)⟩
      obtain ⟨⟨g1, d1⟩, e1⟩ : ∃ q1, gs[2 * x + 1]? = some q1 := ⟨_, List.getElem?_eq_getElem (by rw [HGL.out]; omega)⟩
      have hvv : shV (rowsP H gs) x = (.int .i64 (x : Int), .slice (some ⟨g0, 0, none⟩) H d0, .slice (some ⟨g1, 0, none⟩) H d1) := by
        rw [shV, List.getD_eq_getElem?_getD, List.getD_eq_getElem?_getD, rowsP_at e0, rowsP_at e1]; rfl
      have gx : ((List.range m2).map (shV (rowsP H gs)))[x]? = some (.int .i64 (x : Int), .slice (some ⟨g0, 0, none⟩) H d0, .slice (some ⟨g1, 0, none⟩) H d1) := by rw [← hvv, List.getElem?_map, List.getElem?_range hxm]; rfl
      have hTY := heap_later HT2.out HB.out
      have c0 := cellAt hTY (x * 3) _ (triC_at (q := 0) gx (by decide))
      have c1' := cellAt hTY (x * 3 + 1) _ (triC_at (q := 1) gx (by decide))
      have c2' := cellAt hTY (x * 3 + 2) _ (triC_at (q := 2) gx (by decide))
      simp only [tri3] at c0 c1' c2'
      have r1 := (HR2.out.1 _ _ e0).2
      have r2 := (HR2.out.1 _ _ e1).2
      have cx := cellAt HCU.out i _ (HNC.out i x hx)
      obtain ⟨X, hX⟩ : ∃ X, X = Y.alloc (.cells #[.int .i64 x, .slice (some ⟨g0, 0, none⟩) H d0, .slice (some ⟨g1, 0, none⟩) H d1] 36) := ⟨_, rfl⟩
      have hbX : Below Y.heap.size Y X := by rw [hX]; exact (Below.refl _ _).alloc (Nat.le_refl _) _
      have hXl : X.heap[Y.heap.size]? = some (.cells #[.int .i64 x, .slice (some ⟨g0, 0, none⟩) H d0, .slice (some ⟨g1, 0, none⟩) H d1] 36 (0, 0)) := by rw [hX]; exact heap_alloc_last _ _
      have hoX := own_below HO.out hbX
      have hsz : w2.heap.size ≤ X.heap.size := Nat.le_trans HB.out.size hbX.size
      obtain ⟨g2, cap2, w6, hrun, ho2, hgr⟩ := appendT3 (b := Y.heap.size) (c := 1) 26 hoX hXl rfl rfl rfl (by omega) hsz
      have h8 : ∀ g ys cap, Has8 Y g ys cap → Has8 w6 g ys cap := fun g ys cap h => has8_own hoX hgr (has8_below h hbX)
      have hBY := HB.out
      have hs9 : (L.take (i + 1)).map (shS k r H xs) = (L.take i).map (shS k r H xs) ++ [shS k r H xs x] := by
        rw [List.take_add_one, hx, List.map_append]; rfl
      have hcn := copT_snoc (w' := w6) (s := shS k r H xs x) (g1 := g0) (c1 := d0) (g2 := g1) (c2 := d1) HCT.out (by rw [HTL.out, List.length_map, List.length_take]; omega) h8 (h8 _ _ _ (has8_below r1 hBY)) (h8 _ _ _ (has8_below r2 hBY))
      simp only [shS, imgL_len] at hcn
      have HRun : Hid _ := hrun
      have HO2 : Hid (w6.ownsRow w2.heap.size 36 3 (.slice (some ⟨g2, 0, none⟩) (i + 1) cap2) (i + 1) (triL (T ++ [(.int .i64 x, .slice (some ⟨g0, 0, none⟩) H d0, .slice (some ⟨g1, 0, none⟩) H d1)]))) := ho2
      have HCN : Hid (CopT w6 (T ++ [(.int .i64 x, .slice (some ⟨g0, 0, none⟩) H d0, .slice (some ⟨g1, 0, none⟩) H d1)]) ((L.take (i + 1)).map (shS k r H xs))) := by show CopT ..; rw [hs9]; exact hcn
      have HB6 : Hid (Below w2.heap.size w2 w6) := below_own (HB.out.trans (hbX.mono HB.out.size)) hoX hgr hsz
      have HC6 : Hid (w6.heap[g9]? = some (.cells cur9 3 (0, 0))) := own_other hoX hgr (heap_later HCU.out hbX) (by decide)
      have HXE : Hid (X = Y.alloc (.cells #[.int .i64 x, .slice (some ⟨g0, 0, none⟩) H d0, .slice (some ⟨g1, 0, none⟩) H d1] 36)) := hX
      clear hvi hvv gx hTY r1 r2 e0 e1 hX hbX hXl hoX hsz hrun ho2 hgr h8 hBY hs9 hcn hx hil
      go_wp2_with (at_builtin; (try rw [← HXE.out]); refine wpList_append_run rfl _ _ 26 rfl _ _ _ _ rfl rfl HRun.out ?_)
      exact ⟨⟨i + 1, _, _, _, by omega, by go_num, rfl, HO2.out, HCN.out, by rw [List.length_append, HTL.out]; rfl, HB6.out, HC6.out⟩, by simp [intOf]; omega⟩
    · obtain rfl : k = i := by omega
      have hwY : Below w.heap.size w Y := HB2.out.trans (HB.out.mono HB2.out.size)
      have HWY : Hid (Below w.heap.size w Y) := hwY
      have HXY : Hid _ := heap_later HX2.out HB.out
      have htk : L.take k = L := by rw [List.take_of_length_le (by rw [HLL.out]; exact Nat.le_refl _)]
      have HCL : Hid (k = (L.map (shS k r H xs)).length) := by show _ = _; rw [List.length_map, HLL.out]
      have hct := HCT.out
      rw [htk] at hct
      rcases HO.out.2 with ⟨e9, h0⟩ | ⟨gg, capg, curg, e9, _⟩
      · omega
      cases e9
      have HS8 : Hid (Sh8 Y (some ⟨gg, 0, none⟩) (L.map (shS k r H xs))) := sh8_cop HO.out hct HCL.out
      have HGD : Hid (GoodT k r (L.map (shS k r H xs))) := good_map HND.out HLT.out HM.out
      have HDG : Hid _ := decode_G k r l1 k cp (some ⟨gg, 0, none⟩) (L.map (shS k r H xs)) Y E (errsC_below HC.out HWY.out) h1 h2 h3 h4 h5 HCL.out (by omega) HS8.out
      rw [← HH.out] at HDG
      have k0 := cellAt HXY.out 0 _ rfl
      have k1' := cellAt HXY.out 1 _ rfl
      have k2' := cellAt HXY.out 2 _ rfl
      clear htk hct hwY
      go_wp2_with fail
      refine Calls.mono HDG.out ?_
      rintro e w4 (⟨hno, _⟩ | ⟨_, hno, _⟩ | ⟨_, _, D, hD, g, ys, rfl, hg, hh, hb⟩)
      · exact absurd ⟨by first | rfl | trivial, HGD.out⟩ hno
      · refine absurd (fun zs hz => ?_) hno
        rw [rows_pick] at hz
        obtain ⟨x, _, rfl⟩ := List.mem_map.1 hz
        exact imgL_len _ _ _ _ _
      · have hM2 : MadeOf k r H (numT (L.map (shS k r H xs))) (rowsS (L.map (shS k r H xs))) (strD H xs) := by
          rw [num_map]; exact pick_made L HLL.out
        have hje : joinD k H l1 D = xs := by
          rw [joinD_congr (made_one HGD.out HCL.out.symm h3 hD hM2)]
          exact stripe_join HA.out k3
        rw [hje] at hh
        have kA := conv8 (la := l1) (ca := l1) HA.out (row8_front hh)
        have HB4 : Hid (Below w.heap.size w w4) := HWY.out.trans (hb.mono HWY.out.size)
        have kB := conv8 (la := l1) (ca := c1) HA.out (row8_below HX.out HB4.out)
        have k2'' := cellAt (heap_later HXY.out hb) 2 _ rfl
        have eA := strEq8 xs
        generalize str8 xs = sA at *
        clear hD hh hb hM2 hje hg k0 k1' k2'
        go_wp2
        go_ret
        exact ⟨rfl, HB4.out⟩
theorem wdec_all (k r : Int) (l1 c1 l2 c2 : Nat) (a1 a2 : Option Addr) (xs : List F) (ns : List Int) (w : World) (E : Nat → Addr) (hC : ErrsC w E) (hk0 : -9223372036854775808 ≤ k) (hk1 : k ≤ 9223372036854775807) (hr0 : -9223372036854775808 ≤ r) (hr1 : r ≤ 9223372036854775807) (hla : l1 = xs.length) (hl1 : l1 ≤ 140737488355328) (hx : Row8 w a1 xs) (hl3 : l2 = ns.length) (hl3m : l2 ≤ 140737488355328) (hI : RowI w a2 ns) (hbd : ∀ x ∈ ns, -9223372036854775808 ≤ x ∧ x ≤ 9223372036854775807) :
    Calls Tryd.prog 3 #[.agg #[.int .i64 k, .int .i64 r, .slice a1 l1 c1, .slice a2 l2 c2]] w fun e w' => e = .returned (.bool true) ∧ Below w.heap.size w w' := by
  by_cases hL : LegalP k r
  · obtain ⟨p, q, rfl, rfl, h1, h2, h3⟩ := legal_nat hL
    by_cases h : 1 ≤ l1 ∧ l1 ≤ 128 * p
    · exact wdec_ok p q l1 c1 l2 c2 a1 a2 xs ns w E hC.1 hC hla hx hl3 hl3m hI hbd h1 h2 h3 h.1 h.2
    · exact wdec_size p q l1 c1 l2 c2 a1 a2 w E hC.1 hl1 h1 h2 h3 h
  · exact wdec_illegal k r l1 c1 l2 c2 a1 a2 w E hC.1 hC hk0 hk1 hr0 hr1 hl1 hL
end Go.Proofs.YtkoakingmnjdoabDoor

/- The law WholeDecodes holds: any k shards of a stripe, in any order, give its bytes back, and numbers that are not legal are refused, at all numbers, lists of bytes and picks; no condition but what the card ties. -/
namespace Go.Proofs.YtkoakingmnjdoabDoor.wholeDecodes
open Go.ChangeShapes Go.WideShapes Go.ChangeAt Go.RowKit
open Go.ChangeMaps (open_string shut_string)
open Gf
set_option linter.unusedVariables false
theorem errs {W : World} (h : laidMetH Tryd.prog Rows.wholeDecodesRow.laid W) : ∃ es, ErrsAt W gsDec es :=
  errs_of_laid h (by kernel_rfl) (by kernel_rfl) (fun g hg => by
    have hall : (gsDec.all fun g => decide ((Tryd.prog.globals[g]?).map (·.type) = some 28)) = true := by kernel_rfl
    simpa using List.all_eq_true.1 hall g hg) (fun x hx => by
    simp only [Rows.wholeDecodesRow, List.mem_cons, List.not_mem_nil, or_false] at hx
    rcases hx with rfl | rfl | rfl | rfl | rfl | rfl | rfl <;> exact ⟨_, rfl⟩)
set_option maxRecDepth 100000 in
theorem lifted (os : Os) (started : os.Started) (H : Type) (enc : TypeId × Value → H) :
    ReturnsInHanded {} Tryd.checked os 3 .any (fun w args => (Rows.wholeDecodesSpec.pre enc Tryd.prog Tryd.f3 Rows.wholeDecodesRow.domain false w args ∧ laidMetH Tryd.prog Rows.wholeDecodesRow.laid w) ∧ sizedMet enc Tryd.prog Tryd.f3 (OpenSpec.ofChange Rows.wholeDecodesSpec) false w args) (Rows.wholeDecodesSpec.post enc Tryd.prog Tryd.f3 false true false false) := by
  refine returnsInHanded_of_change_and (C := Tryd.checked) (X := fun w _ => laidMetH Tryd.prog Rows.wholeDecodesRow.laid w) (fun _ _ _ hh h => h.of_heap hh) own started (by kernel_rfl) Tryd.func3
    (ChangeSpec.witness_shaped (enc := enc) (C := Tryd.checked) (os := os) (X := fun w _ => laidMetH Tryd.prog Rows.wholeDecodesRow.laid w) false (World.laidAll Tryd.prog os Rows.wholeDecodesRow.laid) #[.agg #[.int .i64 0, .int .i64 0, .slice none 0 0, .slice none 0 0]] 8 (World.laidAll_os _ _ _)
      (World.shaped_of_ZipB (by kernel_rfl) (by kernel_rfl)) (by kernel_rfl) (by kernel_rfl) (by kernel_rfl)
      (by rw [MakeChecks.laidMetH_plain _ _ _ (by kernel_rfl)]; exact laidMet_laidAll _ (by kernel_rfl) (by kernel_rfl))) ?_
  intro W base args ds gs before hval0 hW hcnd hsz0 hL _
  have hval : ∀ (j : Nat) t v, Tryd.f3.params[j]? = some t → args[j]? = some v → Value.okWide Tryd.prog W .any base t v := hval0
  have hsz : (DataW.weightsEach Tryd.prog (Tryd.f3.params.toList ++ Rows.wholeDecodesSpec.plain.varTypes Tryd.prog) (ds ++ gs)).all (· ≤ reachBytes) = true := hsz0
  have hW' := hW
  obtain ⟨p, q, hA0, hV, rfl, hfz, hnd⟩ := hW
  have hA : DataW.TrodAll enc Tryd.prog W 0 (fun _ => true) true Tryd.f3.params.toList args.toList ds p := hA0
  rw [Tryd.params3] at hA hval hsz
  obtain ⟨v0, vs0, d0, ds0, p0, q0, hargs, rfl, rfl, h0, r0⟩ := trodAll_cons hA
  obtain ⟨rfl, rfl, rfl⟩ := trodAll_nil r0
  obtain rfl : args = #[v0] := by cases args; simp_all
  obtain ⟨rfl, rfl⟩ := trodVars_none hV
  obtain ⟨es, hes⟩ := errs hL
  have k0 := h0
  have lt0 : ∀ x ∈ p0, x.block < W.heap.size := by obtain ⟨m, hm⟩ := k0; exact DataW.trod_lt m _ _ _ hm
  obtain ⟨kv, rv, av, ev, lav, cav, lev, cev, xv, zv, rfl, wkv, wrv, ⟨eav, rav, kav, bav, nav⟩, ⟨eev, rev, kev, bev, nev, mev⟩⟩ := openStripe (j := 0) (hval 0 25 v0 rfl rfl) h0 hsz rfl rfl
  clear hA0 hval0
  refine (wdec_all kv rv lav cav lev cev av ev xv zv W (ofDec es) (errsC_dec hes) wkv.1 wkv.2 wrv.1 wrv.2 eav (Nat.le_trans kav (Nat.le_trans bav (by decide))) rav eev (Nat.le_trans (Nat.le_trans kev bev) (by decide)) rev mev).mono fun e W' ⟨he, bel⟩ => ?_
  subst he
  exact ⟨_, rfl, _, _, _, [], _, [], hW', trodAll_mk1 (shut_bool Tryd.underlying4 _), (trodAll_cons_mk (Below.trod laidOut (by kernel_rfl) (of_decide_eq_true (by kernel_rfl)) k0 bel lt0) trodAll_mk0), rfl, bel.frame _, fun h => by cases h⟩

theorem over : Rows.wholeDecodesRow.holds Tryd.pinned (OpenSpec.ofChange Rows.wholeDecodesSpec) :=
  OpenClaim.holds_of_wide 3 Tryd.f3 rfl rfl rfl rfl rfl rfl rfl ⟨rfl, rfl, rfl, rfl, rfl⟩ rfl rfl rfl rfl rfl (by kernel_rfl) Tryd.func3 (by kernel_rfl)
    (of_decide_eq_true (by kernel_rfl)) (by unfold Func.isWrapper; first | (rw [if_pos (by decide +kernel)]; kernel_rfl) | (rw [if_neg (by decide +kernel)]; exact ⟨rfl, rfl⟩))
    (fun os started H enc _ => lifted os started H enc)

theorem proved : Rows.WholeDecodesCardSaid :=
  Claim7.holds_tied_plain_at .later [] [.sentinel, .sentinel, .sentinel, .sentinel, .sentinel, .sentinel, .sentinel] true (true, "d3bcd4e4fdf1e5f61a8c4a226edf92c02e5e6117baf0058adbce893f6b4b90ed") true over (fun _ h => by cases h) (by kernel_rfl) (fun _ h => by cases h) wholeDecodes_row_tie rfl ⟨rfl, rfl⟩ (by kernel_rfl) rfl
    (fun f fn hf hfn => by
      obtain rfl : f = 3 := Option.some.inj ((show Tryd.prog.funcNamed "tessera/tesseratop.WholeDecodes" = some 3 by kernel_rfl).symm.trans hf) |>.symm
      obtain rfl : fn = Tryd.f3 := (Option.some.inj (Tryd.func3.symm.trans hfn)).symm
      exact ⟨by kernel_rfl, fun j t ht => by
        rw [Tryd.params3] at ht
        have hm : t ∈ [25] := by simpa using Array.mem_of_getElem? ht
        have hall : ([25].all fun u => !Tryd.prog.wantsStandIn u) = true := by kernel_rfl
        exact (show Tryd.prog.wantsStandIn t = false by simpa using List.all_eq_true.1 hall t hm)⟩)
    (by kernel_rfl)
#print axioms proved
end Go.Proofs.YtkoakingmnjdoabDoor.wholeDecodes
