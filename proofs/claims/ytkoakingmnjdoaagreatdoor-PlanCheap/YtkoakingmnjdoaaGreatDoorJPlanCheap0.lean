/- The law PlanCheap holds: Cheap, Reads and Compile of package plan answer as the chapter says, Cheap is a right program of at most k + g halves and of fewer than 2k from three parities on, Reads tells what Compile reads, at all numbers and lists; no condition but what the card ties. -/
import Derived.Test.YtkoakingmnjdoaaGreatDoorGfDot
import Derived.ProofKit
import Derived.OpenShut
import Derived.SizedLaws
import Derived.Lib.SmallJoins
import Derived.Test.YtkoakingmnjdoaaGreatDoorMatO
import Derived.Test.YtkoakingmnjdoaaGreatDoorOwn
import Derived.Deep.Matrix
import Derived.Test.YtkoakingmnjdoaaGreatDoorJPlanCheap1
import Derived.Test.YtkoakingmnjdoaaGreatDoorJPlanCheap2
import Derived.Test.YtkoakingmnjdoaaGreatDoorMatTake
import Derived.Test.YtkoakingmnjdoaaGreatDoorMatAl
import Derived.Test.YtkoakingmnjdoaaGreatDoorJPlanCheap3
import Derived.Deep.RegionHeld3
import Derived.Deep.DeepCutAuto
import Derived.Test.YtkoakingmnjdoaaGreatDoorGfStr
import Derived.Test.YtkoakingmnjdoaaGreatDoorRows
import Derived.Test.YtkoakingmnjdoaaGreatDoorCards
import Derived.Test.YtkoakingmnjdoaaGreatDoorTie
import Derived.WalkKit
import Derived.ShutString
import Derived.ChangeOld
import Derived.Below
import Derived.Lay
import Derived.SevenTiedAt
import Derived.Stop.Joined
/- How a list of bytes that came in is read: facts for the frames of the laws; nothing of the program is proved here. -/
namespace Go.Proofs.YtkoakingmnjdoaaGreatDoor
open Go.ChangeShapes Go.WideShapes Go.ChangeAt Go.RowKit Gf
set_option maxRecDepth 20000
theorem own : ownKnob Tryz.prog.godebug = none := by kernel_rfl
theorem laidOut : laidOutB Tryz.prog = true := by kernel_rfl
theorem bytes8 : Tryz.prog.bytesOf 5 = 1 := by kernel_rfl
theorem getD_get {α : Type} (l : List α) (j : Nat) (d : α) (h : j < l.length) : l.getD j d = l[j] := by simp [List.getD, h]
theorem open8_cells {H : Type} {enc : TypeId × Value → H} {W : World} {cs : List Value} {x : DataW H × List MemPlace} {fuel : Nat}
    (h : DataW.trod enc Tryz.prog W 0 (fun _ => true) true fuel 23 cs = some x) :
    ∃ a len cap xs, cs = [.slice a len cap] ∧ len = xs.length ∧ len ≤ cap ∧ Row8 W a xs ∧ (x.1 = .nil ∧ a = none ∧ cap = 0 ∨ ∃ es sp, x.1 = .slice es sp ∧ es.length + sp.length = cap) ∧ (a = none → cap = 0) := by
  rcases open_ints Tryz.underlying23 Tryz.underlying5 (by kernel_rfl) h with ⟨hcs, hx⟩ | ⟨ad, l, c, zs, hcs, _, hl, hm, hz, hx, hcell, hwz⟩
  · exact ⟨none, 0, 0, [], hcs, rfl, Nat.le_refl _, .inl rfl, .inl ⟨by rw [hx], rfl, rfl⟩, fun _ => rfl⟩
  · have hz' : zs.length = c := by simpa using hz
    refine ⟨some ad, l, c, (zs.take l).map toF, hcs, by simp; omega, hl, ?_, .inr ⟨_, _, by rw [hx], by simp [lits]; omega⟩, fun e => by cases e⟩
    by_cases h0 : l = 0
    · left; simp [h0]
    · right
      have hc := hcell 0 (by omega)
      obtain ⟨b, off, spot⟩ := ad
      have hspot : spot = none := by simpa [Addr.add] using World.cell?_spot hc
      subst hspot
      refine ⟨b, off, rfl, fun j hj => ?_⟩
      have hj' : j < l := by simp at hj; omega
      have hcj := hcell j (by omega)
      have hw := hwz (zs.getD j 0) (by
        rw [getD_get _ _ _ (by omega)]; exact List.getElem_mem _)
      have hb := bounds_u8 hw
      have e : ((at8 ((zs.take l).map toF) j).toNat : Int) = zs.getD j 0 := by
        unfold at8
        rw [getD_get _ _ _ (by simp; omega)]
        simp only [List.getElem_map, List.getElem_take]
        rw [getD_get _ _ _ (by omega)] at hb ⊢
        exact val_toF hb.1 hb.2
      rw [e, ← hcj]
      by_cases hj0 : j = 0
      · subst hj0; rfl
      · simp [Addr.add, hj0]
theorem open8 {H : Type} {enc : TypeId × Value → H} {W : World} {v : Value} {d : DataW H} {p : List MemPlace} {base : Nat}
    (hv : Value.okWide Tryz.prog W .any base 23 v) (h : DataW.Trod enc Tryz.prog W 0 (fun _ => true) true 23 v d p) :
    ∃ a len cap xs, v = .slice a len cap ∧ len = xs.length ∧ len ≤ cap ∧ Row8 W a xs ∧ (d = .nil ∧ a = none ∧ cap = 0 ∨ ∃ es sp, d = .slice es sp ∧ es.length + sp.length = cap) ∧ (a = none → cap = 0) := by
  obtain ⟨fuel, hf⟩ := h
  obtain ⟨a, len, cap, xs, hcs, h1, h2, h3, h4, h5⟩ := open8_cells hf
  obtain ⟨a', len', cap', rfl⟩ := okWide_slice Tryz.underlying23 hv
  simp [Value.cells] at hcs
  obtain ⟨rfl, rfl, rfl⟩ := hcs
  exact ⟨_, _, _, xs, rfl, h1, h2, h3, h4, h5⟩
end Go.Proofs.YtkoakingmnjdoaaGreatDoor

/- How a matrix, and two numbers, come in: facts for the frames of the laws; nothing of the program is proved here. -/
namespace Go.Proofs.YtkoakingmnjdoaaGreatDoor
open Go.ChangeShapes Go.WideShapes Go.ChangeAt Go.RowKit Gf Go.Joins
set_option linter.unusedVariables false
set_option maxRecDepth 20000
theorem cellsMat : Tryz.prog.cellsOf 73 = 3 := by kernel_rfl
theorem cellsInt : Tryz.prog.cellsOf 3 = 1 := by kernel_rfl
/-- a list's datum, and its room -/
def Room2 {H : Type} (d : DataW H) (cap : Nat) : Prop := d = .nil ∧ cap = 0 ∨ ∃ es sp, d = .slice es sp ∧ es.length + sp.length = cap
theorem room2_le {H : Type} {d : DataW H} {cap : Nat} (h : Room2 d cap) (hw : ∀ n ∈ DataW.weights Tryz.prog 23 d, n ≤ reachBytes) : cap ≤ 140737488351232 := by
  rcases h with ⟨_, rfl⟩ | ⟨es, sp, rfl, rfl⟩
  · omega
  · have := hw ((es.length + sp.length) * Tryz.prog.bytesOf 5) (by simp [DataW.weights, Tryz.underlying23])
    rw [bytes8] at this
    simp only [reachBytes] at this
    omega
theorem openMat {H : Type} {enc : TypeId × Value → H} {W : World} {v : Value} {d : DataW H} {p : List MemPlace} {base : Nat} {ts : List TypeId} {ds : List (DataW H)} {j : Nat}
    (hv : Value.okWide Tryz.prog W .any base 73 v) (h : DataW.Trod enc Tryz.prog W 0 (fun _ => true) true 73 v d p)
    (hsz : (DataW.weightsEach Tryz.prog ts ds).all (· ≤ reachBytes) = true) (ht : ts[j]? = some 73) (hd : ds[j]? = some d) :
    ∃ (r c : Int) (a : Option Addr) (l cap : Nat) (xs : List F), v = .agg #[.int .i64 r, .int .i64 c, .slice a l cap] ∧ l = xs.length ∧ Row8 W a xs ∧ l ≤ cap ∧ cap ≤ 140737488351232 ∧ (a = none → cap = 0) ∧
      -9223372036854775808 ≤ r ∧ r ≤ 9223372036854775807 ∧ -9223372036854775808 ≤ c ∧ c ≤ 9223372036854775807 := by
  obtain ⟨v0, v1, v2, y0, y1, y2, n, rfl, rfl, _, e0, e1, e2⟩ := open_agg3 Tryz.underlying73 (by kernel_rfl) cellsMat hv h
  obtain ⟨r, s0, _, w0⟩ := DataW.trod_int Tryz.underlying3 e0
  obtain ⟨c, s1, _, w1⟩ := DataW.trod_int Tryz.underlying3 e1
  obtain ⟨a, la, ca, xs, s2, e, ka, ra, da, na⟩ := open8_cells e2
  simp only [List.cons.injEq, and_true] at s0 s1 s2
  subst s0 s1 s2
  have hw : ∀ n ∈ DataW.weights Tryz.prog 73 (.agg [y0.1, y1.1, y2.1]), n ≤ reachBytes := fun n hn => by
    simpa using List.all_eq_true.1 hsz _ (DataW.weights_mem_each ht hd n hn)
  simp only [DataW.weights, Tryz.underlying73] at hw
  have r2 : Room2 y2.1 ca := da.imp (fun h => ⟨h.1, h.2.2⟩) id
  refine ⟨r, c, a, la, ca, xs, rfl, e, ra, ka, room2_le r2 ?_, na, (bounds_i64 w0).1, (bounds_i64 w0).2, (bounds_i64 w1).1, (bounds_i64 w1).2⟩
  exact fun n hn => hw n (by simp [DataW.weightsEach, hn])
end Go.Proofs.YtkoakingmnjdoaaGreatDoor

/- How a list of lists of bytes, and a list of numbers, come in: facts for the frames of the laws; nothing of the program is proved here. -/
namespace Go.Proofs.YtkoakingmnjdoaaGreatDoor
open Go.ChangeShapes Go.WideShapes Go.ChangeAt Go.RowKit Gf Go.Joins
set_option linter.unusedVariables false
set_option maxRecDepth 20000
theorem addr_off {w : World} {ad : Addr} {v : Value} (h : w.cell? (ad.add 0) = some v) : ∃ b off, ad = ⟨b, off, none⟩ := by
  obtain ⟨b, off, spot⟩ := ad
  have hspot : spot = none := by simpa [Addr.add] using World.cell?_spot h
  subst hspot
  exact ⟨b, off, rfl⟩
theorem add_off (b off j : Nat) : (⟨b, off, none⟩ : Addr).add j = ⟨b, off + j, none⟩ := by unfold Addr.add; split <;> simp_all
theorem cellsSl : Tryz.prog.cellsOf 23 = 1 := by kernel_rfl
theorem cellsU8 : Tryz.prog.cellsOf 5 = 1 := by kernel_rfl
theorem openRows {H : Type} {enc : TypeId × Value → H} {W : World} {v : Value} {d : DataW H} {p : List MemPlace} {base : Nat}
    (hv : Value.okWide Tryz.prog W .any base 49 v) (h : DataW.Trod enc Tryz.prog W 0 (fun _ => true) true 49 v d p) :
    ∃ a l cap L, v = .slice a l cap ∧ l = List.length L ∧ Rows8 W a L ∧
      ∀ b off, a = some ⟨b, off, none⟩ → ∀ j n a' cap', W.cell? ⟨b, off + j, none⟩ = some (.slice a' n cap') → j < L.length → a' = none → cap' = 0 := by
  obtain ⟨fuel, hf⟩ := h
  obtain ⟨a0, l0, c0, rfl⟩ := okWide_slice Tryz.underlying49 hv
  rcases Deep.open_int_rows Tryz.underlying49 Tryz.underlying23 Tryz.underlying5 cellsSl cellsU8 hf with ⟨hcs, hx⟩ | ⟨ad, len, cap, A, L, C, Z, hcs, _, hl, hm, hx, hr⟩
  · simp [Value.cells] at hcs
    obtain ⟨rfl, rfl, rfl⟩ := hcs
    exact ⟨none, 0, 0, [], rfl, rfl, .inl rfl, fun b off e => by cases e⟩
  · simp [Value.cells] at hcs
    obtain ⟨rfl, rfl, rfl⟩ := hcs
    refine ⟨some ad, l0, c0, (List.range l0).map fun r => ((Z r).take (L r)).map toF, rfl, by simp, ?_, ?_⟩
    · by_cases h0 : l0 = 0
      · left; simp [h0]
      · right
        obtain ⟨b, off, rfl⟩ := addr_off (hr 0 (by omega)).1
        refine ⟨b, off, rfl, fun j xs hj => ?_⟩
        have hjl : j < l0 := by have := (List.getElem?_eq_some_iff.1 hj).1; simpa using this
        rw [List.getElem?_map, List.getElem?_range hjl] at hj
        obtain rfl := Option.some.inj hj
        obtain ⟨h1, h2, h3, h4, h5, h6, h7⟩ := hr j (by omega)
        rw [add_off] at h1
        have hlen : (((Z j).take (L j)).map toF).length = L j := by rw [List.length_map, List.length_take]; omega
        refine ⟨A j, C j, by rw [hlen]; exact h1, ?_⟩
        by_cases hL0 : L j = 0
        · left; simp [hL0]
        · right
          cases hA : A j with
          | none => have := h6 hA; omega
          | some ad' =>
            obtain ⟨_, h8⟩ := h7 ad' hA
            obtain ⟨b', off', rfl⟩ := addr_off (h8 0 (by omega))
            refine ⟨b', off', rfl, fun i hi => ?_⟩
            rw [hlen] at hi
            have hc := h8 i (by omega)
            rw [add_off] at hc
            rw [hc]
            have hb := bounds_u8 (h5 ((Z j).getD i 0) (by rw [getD_get _ _ _ (by omega)]; exact List.getElem_mem _))
            have e : ((at8 (((Z j).take (L j)).map toF) i).toNat : Int) = (Z j).getD i 0 := by
              unfold at8
              rw [getD_get _ _ _ (by rw [hlen]; exact hi)]
              simp only [List.getElem_map, List.getElem_take]
              rw [getD_get _ _ _ (by omega)] at hb ⊢
              exact val_toF hb.1 hb.2
            rw [e]
    · intro b off e j n a' cap' hc hj ha
      simp only [List.length_map, List.length_range] at hj
      obtain ⟨h1, h2, h3, h4, h5, h6, h7⟩ := hr j (by omega)
      obtain rfl := Option.some.inj e
      rw [add_off, hc] at h1
      simp only [Option.some.injEq, Value.slice.injEq] at h1
      obtain ⟨e1, _, e3⟩ := h1
      rw [e3]; exact h6 (by rw [← e1]; exact ha)
theorem bytesInt : Tryz.prog.bytesOf 3 = 8 := by kernel_rfl
theorem openInts {H : Type} {enc : TypeId × Value → H} {W : World} {v : Value} {d : DataW H} {p : List MemPlace} {base : Nat} {ts : List TypeId} {ds : List (DataW H)} {j : Nat}
    (hv : Value.okWide Tryz.prog W .any base 22 v) (h : DataW.Trod enc Tryz.prog W 0 (fun _ => true) true 22 v d p)
    (hsz : (DataW.weightsEach Tryz.prog ts ds).all (· ≤ reachBytes) = true) (ht : ts[j]? = some 22) (hd : ds[j]? = some d) :
    ∃ a l cap ns, v = .slice a l cap ∧ l = List.length ns ∧ RowI W a ns ∧ l ≤ cap ∧ cap ≤ 17592186043904 ∧ (a = none → cap = 0) ∧ ∀ n ∈ ns, -9223372036854775808 ≤ n ∧ n ≤ 9223372036854775807 := by
  obtain ⟨fuel, hf⟩ := h
  obtain ⟨a0, l0, c0, rfl⟩ := okWide_slice Tryz.underlying22 hv
  rcases open_ints Tryz.underlying22 Tryz.underlying3 cellsInt hf with ⟨hcs, hx⟩ | ⟨ad, l, c, zs, hcs, _, hl, hm, hz, hx, hcell, hwz⟩
  · simp [Value.cells] at hcs
    obtain ⟨rfl, rfl, rfl⟩ := hcs
    exact ⟨none, 0, 0, [], rfl, rfl, .inl rfl, Nat.le_refl _, by omega, fun _ => rfl, fun n hn => by cases hn⟩
  · simp [Value.cells] at hcs
    obtain ⟨rfl, rfl, rfl⟩ := hcs
    have hz' : zs.length = c0 := by simpa using hz
    have hcap : c0 ≤ 17592186043904 := by
      have hw : ∀ n ∈ DataW.weights Tryz.prog 22 d, n ≤ reachBytes := fun n hn => by simpa using List.all_eq_true.1 hsz _ (DataW.weights_mem_each ht hd n hn)
      simp only [Prod.mk.injEq] at hx
      rw [hx.1] at hw
      have := hw (((lits .i64 (zs.take l0) : List (DataW H)).length + (lits .i64 (zs.drop l0) : List (DataW H)).length) * Tryz.prog.bytesOf 3) (by simp [DataW.weights, Tryz.underlying22])
      rw [bytesInt] at this
      simp only [reachBytes, lits, List.length_map, List.length_take, List.length_drop] at this
      omega
    refine ⟨some ad, l0, c0, zs.take l0, rfl, by rw [List.length_take]; omega, ?_, hl, hcap, (fun e => by cases e), fun n hn => bounds_i64 (hwz n (List.mem_of_mem_take hn))⟩
    by_cases h0 : l0 = 0
    · left; simp [h0]
    · right
      obtain ⟨b, off, rfl⟩ := addr_off (hcell 0 (by omega))
      refine ⟨b, off, rfl, fun j m hj => ?_⟩
      have hjl : j < l0 := by have := (List.getElem?_eq_some_iff.1 hj).1; rw [List.length_take] at this; omega
      have hc := hcell j (by omega)
      rw [add_off] at hc
      rw [hc]
      rw [List.getElem?_take_of_lt hjl] at hj
      rw [List.getD_eq_getElem?_getD, hj]; rfl
end Go.Proofs.YtkoakingmnjdoaaGreatDoor

/- How parameters, a number and two lists of numbers come in; facts for the frames of the laws; nothing of the program is proved here. -/
namespace Go.Proofs.YtkoakingmnjdoaaGreatDoor
open Go.ChangeShapes Go.WideShapes Go.ChangeAt Go.RowKit Gf Go.Joins
set_option linter.unusedVariables false
set_option maxRecDepth 20000
theorem array5 {α : Type} {cs : Array α} (h : cs.size = 5) : ∃ c0 c1 c2 c3 c4, cs = #[c0, c1, c2, c3, c4] := by
  obtain ⟨l⟩ := cs
  match l, h with
  | [c0, c1, c2, c3, c4], _ => exact ⟨c0, c1, c2, c3, c4, rfl⟩
theorem open_agg5 {H : Type} {enc : TypeId × Value → H} {P : Program} {w : World} {base : Nat} {spare : Nat → Bool} {held : Bool} {r : Reach} {b0 : Nat} {t : TypeId} {f0 f1 f2 f3 f4 : Field} {v : Value} {d : DataW H} {p : List MemPlace} (hs : P.underlying t = some (.struct #[f0, f1, f2, f3, f4])) (hone : Go.Deep.oneCellFields P #[f0, f1, f2, f3, f4] = true) (hC : P.cellsOf t = 5)
    (hv : Value.okWide P w r b0 t v) (h : DataW.Trod enc P w base spare held t v d p) :
    ∃ (v0 v1 v2 v3 v4 : Value) (y0 y1 y2 y3 y4 : DataW H × List MemPlace) (n : Nat), v = .agg #[v0, v1, v2, v3, v4] ∧ d = .agg [y0.1, y1.1, y2.1, y3.1, y4.1] ∧
      DataW.trod enc P w base spare held n f0.type [v0] = some y0 ∧ DataW.trod enc P w base spare held n f1.type [v1] = some y1 ∧ DataW.trod enc P w base spare held n f2.type [v2] = some y2 ∧ DataW.trod enc P w base spare held n f3.type [v3] = some y3 ∧ DataW.trod enc P w base spare held n f4.type [v4] = some y4 := by
  obtain ⟨cs, rfl, hsz⟩ := okWide_struct hs hv
  obtain ⟨c0, c1, c2, c3, c4, rfl⟩ := array5 (hsz.trans hC)
  obtain ⟨fuel, hf⟩ := h
  obtain ⟨xs, n, _, hx, hl, hlen, hel⟩ := DataW.trod_struct hs hf
  match xs, hlen with
  | [y0, y1, y2, y3, y4], _ =>
    obtain ⟨o0, k0⟩ := Go.Deep.hone_of hone 0 f0 rfl
    obtain ⟨o1, k1⟩ := Go.Deep.hone_of hone 1 f1 rfl
    obtain ⟨o2, k2⟩ := Go.Deep.hone_of hone 2 f2 rfl
    obtain ⟨o3, k3⟩ := Go.Deep.hone_of hone 3 f3 rfl
    obtain ⟨o4, k4⟩ := Go.Deep.hone_of hone 4 f4 rfl
    have h0 := hel 0 f0 rfl
    have h1 := hel 1 f1 rfl
    have h2 := hel 2 f2 rfl
    have h3 := hel 3 f3 rfl
    have h4 := hel 4 f4 rfl
    simp only [Prod.mk.injEq] at hx
    exact ⟨c0, c1, c2, c3, c4, y0, y1, y2, y3, y4, n, rfl, by rw [hx.1]; rfl, by simpa [Value.cells, o0, k0] using h0, by simpa [Value.cells, o1, k1] using h1, by simpa [Value.cells, o2, k2] using h2, by simpa [Value.cells, o3, k3] using h3, by simpa [Value.cells, o4, k4] using h4⟩
/-- a list of numbers, as one cell -/
theorem openInts_cell {H : Type} {enc : TypeId × Value → H} {W : World} {v : Value} {y : DataW H × List MemPlace} {n : Nat}
    (h : DataW.trod enc Tryz.prog W 0 (fun _ => true) true n 22 [v] = some y) (hw : ∀ n ∈ DataW.weights Tryz.prog 22 y.1, n ≤ reachBytes) :
    ∃ a l cap ns, v = .slice a l cap ∧ l = List.length ns ∧ RowI W a ns ∧ l ≤ cap ∧ cap ≤ 17592186043904 ∧ (a = none → cap = 0) ∧ ∀ n ∈ ns, -9223372036854775808 ≤ n ∧ n ≤ 9223372036854775807 := by
  rcases open_ints Tryz.underlying22 Tryz.underlying3 cellsInt h with ⟨hcs, hx⟩ | ⟨ad, l, c, zs, hcs, _, hl, hm, hz, hx, hcell, hwz⟩
  · simp at hcs
    subst hcs
    exact ⟨none, 0, 0, [], rfl, rfl, .inl rfl, Nat.le_refl _, by omega, fun _ => rfl, fun n hn => by cases hn⟩
  · simp at hcs
    subst hcs
    have hz' : zs.length = c := by simpa using hz
    have hcap : c ≤ 17592186043904 := by
      rw [hx] at hw
      have := hw (((lits .i64 (zs.take l) : List (DataW H)).length + (lits .i64 (zs.drop l) : List (DataW H)).length) * Tryz.prog.bytesOf 3) (by simp [DataW.weights, Tryz.underlying22])
      rw [bytesInt] at this
      simp only [reachBytes, lits, List.length_map, List.length_take, List.length_drop] at this
      omega
    refine ⟨some ad, l, c, zs.take l, rfl, by rw [List.length_take]; omega, ?_, hl, hcap, (fun e => by cases e), fun n hn => bounds_i64 (hwz n (List.mem_of_mem_take hn))⟩
    by_cases h0 : l = 0
    · left; simp [h0]
    · right
      obtain ⟨b, off, rfl⟩ := addr_off (hcell 0 (by omega))
      refine ⟨b, off, rfl, fun j m hj => ?_⟩
      have hjl : j < l := by have := (List.getElem?_eq_some_iff.1 hj).1; rw [List.length_take] at this; omega
      have hc := hcell j (by omega)
      rw [add_off] at hc
      rw [hc]
      rw [List.getElem?_take_of_lt hjl] at hj
      rw [List.getD_eq_getElem?_getD, hj]; rfl
end Go.Proofs.YtkoakingmnjdoaaGreatDoor

/- How parameters, two lists of bytes, a list of numbers and a number come in as one; facts for the frames of the laws; nothing of the program is proved here. -/
namespace Go.Proofs.YtkoakingmnjdoaaGreatDoor
open Go.ChangeShapes Go.WideShapes Go.ChangeAt Go.RowKit Gf Go.Joins
set_option linter.unusedVariables false
set_option maxRecDepth 20000
theorem array6 {α : Type} {cs : Array α} (h : cs.size = 6) : ∃ c0 c1 c2 c3 c4 c5, cs = #[c0, c1, c2, c3, c4, c5] := by
  obtain ⟨l⟩ := cs
  match l, h with
  | [c0, c1, c2, c3, c4, c5], _ => exact ⟨c0, c1, c2, c3, c4, c5, rfl⟩
theorem open_agg6 {H : Type} {enc : TypeId × Value → H} {P : Program} {w : World} {base : Nat} {spare : Nat → Bool} {held : Bool} {r : Reach} {b0 : Nat} {t : TypeId} {f0 f1 f2 f3 f4 f5 : Field} {v : Value} {d : DataW H} {p : List MemPlace} (hs : P.underlying t = some (.struct #[f0, f1, f2, f3, f4, f5])) (hone : Go.Deep.oneCellFields P #[f0, f1, f2, f3, f4, f5] = true) (hC : P.cellsOf t = 6)
    (hv : Value.okWide P w r b0 t v) (h : DataW.Trod enc P w base spare held t v d p) :
    ∃ (v0 v1 v2 v3 v4 v5 : Value) (y0 y1 y2 y3 y4 y5 : DataW H × List MemPlace) (n : Nat), v = .agg #[v0, v1, v2, v3, v4, v5] ∧ d = .agg [y0.1, y1.1, y2.1, y3.1, y4.1, y5.1] ∧
      DataW.trod enc P w base spare held n f0.type [v0] = some y0 ∧ DataW.trod enc P w base spare held n f1.type [v1] = some y1 ∧ DataW.trod enc P w base spare held n f2.type [v2] = some y2 ∧ DataW.trod enc P w base spare held n f3.type [v3] = some y3 ∧ DataW.trod enc P w base spare held n f4.type [v4] = some y4 ∧ DataW.trod enc P w base spare held n f5.type [v5] = some y5 := by
  obtain ⟨cs, rfl, hsz⟩ := okWide_struct hs hv
  obtain ⟨c0, c1, c2, c3, c4, c5, rfl⟩ := array6 (hsz.trans hC)
  obtain ⟨fuel, hf⟩ := h
  obtain ⟨xs, n, _, hx, hl, hlen, hel⟩ := DataW.trod_struct hs hf
  match xs, hlen with
  | [y0, y1, y2, y3, y4, y5], _ =>
    obtain ⟨o0, k0⟩ := Go.Deep.hone_of hone 0 f0 rfl
    obtain ⟨o1, k1⟩ := Go.Deep.hone_of hone 1 f1 rfl
    obtain ⟨o2, k2⟩ := Go.Deep.hone_of hone 2 f2 rfl
    obtain ⟨o3, k3⟩ := Go.Deep.hone_of hone 3 f3 rfl
    obtain ⟨o4, k4⟩ := Go.Deep.hone_of hone 4 f4 rfl
    obtain ⟨o5, k5⟩ := Go.Deep.hone_of hone 5 f5 rfl
    have h0 := hel 0 f0 rfl
    have h1 := hel 1 f1 rfl
    have h2 := hel 2 f2 rfl
    have h3 := hel 3 f3 rfl
    have h4 := hel 4 f4 rfl
    have h5 := hel 5 f5 rfl
    simp only [Prod.mk.injEq] at hx
    exact ⟨c0, c1, c2, c3, c4, c5, y0, y1, y2, y3, y4, y5, n, rfl, by rw [hx.1]; rfl, by simpa [Value.cells, o0, k0] using h0, by simpa [Value.cells, o1, k1] using h1, by simpa [Value.cells, o2, k2] using h2, by simpa [Value.cells, o3, k3] using h3, by simpa [Value.cells, o4, k4] using h4, by simpa [Value.cells, o5, k5] using h5⟩
end Go.Proofs.YtkoakingmnjdoaaGreatDoor

/- What numbersOf of package code answers, of all shards: the numbers of their halves, or ErrHalf. -/
namespace Go.Proofs.YtkoakingmnjdoaaGreatDoor
open Go.RowKit Gf
set_option linter.unusedVariables false
set_option maxRecDepth 20000
/-- shards whose numbers are in range and apart -/
def GoodT (k r : Nat) (T : List (Int × List F × List F)) : Prop := (∀ s ∈ T, 0 ≤ s.1 ∧ s.1 < k + r) ∧ (T.map fun s => s.1).Nodup
/-- their numbers -/
def numT (T : List (Int × List F × List F)) : List Nat := T.map fun s => s.1.toNat
theorem numT_len (T : List (Int × List F × List F)) : (numT T).length = T.length := by simp [numT]
theorem numT_mem {k r : Nat} {T : List (Int × List F × List F)} {m : Int} (h : GoodT k r T) (hm : 0 ≤ m) : m.toNat ∈ numT T ↔ m ∈ T.map fun s => s.1 := by
  simp only [numT, List.mem_map]
  refine ⟨fun ⟨s, hs, e⟩ => ⟨s, hs, ?_⟩, fun ⟨s, hs, e⟩ => ⟨s, hs, by rw [e]⟩⟩
  have := (h.1 s hs).1
  omega
theorem good_nil (k r : Nat) : GoodT k r [] := ⟨by simp, by simp⟩
theorem good_snoc {k r : Nat} {T : List (Int × List F × List F)} {s : Int × List F × List F} (h : GoodT k r T) (h0 : 0 ≤ s.1) (h1 : s.1 < k + r) (hn : s.1.toNat ∉ numT T) : GoodT k r (T ++ [s]) := by
  refine ⟨fun t ht => ?_, ?_⟩
  · rcases List.mem_append.1 ht with ht | ht
    · exact h.1 t ht
    · obtain rfl := List.mem_singleton.1 ht
      exact ⟨h0, h1⟩
  · rw [List.map_append, List.nodup_append]
    refine ⟨h.2, by simp, fun x hx y hy e => ?_⟩
    simp only [List.map_cons, List.map_nil, List.mem_singleton] at hy
    subst hy
    subst e
    exact hn ((numT_mem h h0).2 hx)
theorem good_take {k r j : Nat} {S : List (Int × List F × List F)} (h : GoodT k r S) : GoodT k r (S.take j) :=
  ⟨fun s hs => h.1 s (List.mem_of_mem_take hs), (List.Sublist.map _ (List.take_sublist j S)).nodup h.2⟩
theorem good_dup {k r j : Nat} {S : List (Int × List F × List F)} {s : Int × List F × List F} (hs : S[j]? = some s) (h0 : 0 ≤ s.1) (hT : GoodT k r (S.take j)) (hd : s.1.toNat ∈ numT (S.take j)) : ¬ GoodT k r S := fun h => by
  have h1 := (good_take (j := j + 1) h).2
  rw [List.take_add_one, hs, Option.toList_some, List.map_append, List.nodup_append] at h1
  exact h1.2.2 _ ((numT_mem hT h0).1 hd) s.1 (by simp) rfl
theorem good_range {k r j : Nat} {S : List (Int × List F × List F)} {s : Int × List F × List F} (hs : S[j]? = some s) (hr : ¬ (0 ≤ s.1 ∧ s.1 < k + r)) : ¬ GoodT k r S := fun h => hr (h.1 s (List.mem_of_getElem? hs))
theorem good_nums {k r : Nat} {S : List (Int × List F × List F)} (h : GoodT k r S) : (∀ j s, S[j]? = some s → s.1 = (((numT S).getD j 0 : Nat) : Int)) ∧ (∀ x ∈ numT S, x < k + r) ∧ (numT S).Nodup := by
  refine ⟨fun j s hs => ?_, fun x hx => ?_, ?_⟩
  · have := (h.1 s (List.mem_of_getElem? hs)).1
    simp only [numT, List.getD_eq_getElem?_getD, List.getElem?_map, hs, Option.map_some, Option.getD_some]
    omega
  · simp only [numT, List.mem_map] at hx
    obtain ⟨s, hs, rfl⟩ := hx
    have := h.1 s hs
    omega
  · have : ∀ T : List (Int × List F × List F), GoodT k r T → (numT T).Nodup := by
      intro T
      induction T with
      | nil => intro _; simp [numT]
      | cons t T ih =>
        intro h
        have hT : GoodT k r T := ⟨fun s hs => h.1 s (List.mem_cons_of_mem _ hs), by have := h.2; rw [List.map_cons, List.nodup_cons] at this; exact this.2⟩
        rw [numT, List.map_cons, List.nodup_cons]
        refine ⟨fun hm => ?_, ih hT⟩
        have h2 := h.2
        rw [List.map_cons, List.nodup_cons] at h2
        exact h2.1 ((numT_mem hT (h.1 t (List.mem_cons_self ..)).1).1 hm)
    exact this S h
/-- the numbers with p halves of shard s behind -/
def bothN (L : List Nat) (s p : Nat) : List Nat := bothH L ++ (List.range p).map fun q => 2 * s + q
theorem bothN_zero (L : List Nat) (s : Nat) : bothN L s 0 = bothH L := by simp [bothN]
theorem bothN_two (L : List Nat) (s : Nat) : bothN L s 2 = bothH (L ++ [s]) := by simp [bothN, bothH, List.range_succ]
theorem bothN_snoc (L : List Nat) (s p : Nat) : bothN L s p ++ [2 * s + p] = bothN L s (p + 1) := by simp [bothN, List.range_succ]
theorem bothN_len (L : List Nat) (s p : Nat) : (bothN L s p).length = 2 * L.length + p := by simp [bothN, bothH_len]
theorem bothN_mem {L : List Nat} {s p : Nat} (hp : p < 2) : 2 * s + p ∈ bothN L s p ↔ s ∈ L := by
  simp only [bothN, bothH, List.mem_append, List.mem_flatMap, List.mem_map, List.mem_range, List.mem_cons, List.not_mem_nil, or_false]
  constructor
  · rintro (⟨x, hx, h | h⟩ | ⟨q, hq, h⟩)
    · obtain rfl : x = s := by omega
      exact hx
    · obtain rfl : x = s := by omega
      exact hx
    · omega
  · exact fun h => .inl ⟨s, h, by omega⟩
theorem castL_mem {L : List Nat} {x : Nat} : ((x : Nat) : Int) ∈ castL L ↔ x ∈ L := by
  simp only [castL, List.mem_map]
  exact ⟨fun ⟨y, hy, e⟩ => by obtain rfl : y = x := by omega
                              exact hy, fun h => ⟨x, h, rfl⟩⟩
end Go.Proofs.YtkoakingmnjdoaaGreatDoor

/- The rows of the halves of any k shards, taken out of all rows: their rank. -/
namespace Go.Proofs.YtkoakingmnjdoaaGreatDoor
open Go.RowKit Gf
set_option linter.unusedVariables false
set_option maxRecDepth 20000
theorem bothH_snoc (L : List Nat) (s : Nat) : bothH (L ++ [s]) = bothH L ++ [2 * s, 2 * s + 1] := by simp [bothH]
theorem bothH_lt {L : List Nat} {n : Nat} (h : ∀ x ∈ L, x < n) : ∀ x ∈ bothH L, x < 2 * n := fun x hx => by
  simp only [bothH, List.mem_flatMap, List.mem_cons, List.not_mem_nil, or_false] at hx
  obtain ⟨s, hs, rfl | rfl⟩ := hx
  · have := h s hs; omega
  · have := h s hs; omega
theorem htakeM_grid {k n : Nat} {xs : List F} {A : Nat → Nat → F} {L : List Nat} (hn : ∀ x ∈ L, x < n) (hx : xs = grid k A n) : (takeM k xs (castL L)).flatten = grid k (fun i j => A (L.getD i 0) j) L.length := by
  subst hx
  rw [grid_flat k (fun i j => A (L.getD i 0) j)]
  congr 1
  apply List.ext_getElem
  · simp [takeM, castL]
  · intro i h1 h2
    have hi : i < L.length := by simpa [takeM, castL] using h1
    have e : L.getD i 0 = L[i] := by simp [List.getD, hi]
    simp only [takeM, castL, List.getElem_map, List.getElem_range, Int.toNat_natCast]
    rw [rowAt_grid (hn _ (List.getElem_mem hi)), e]
theorem half_take {k r : Nat} {L : List Nat} (hd : L.Nodup) (hl : L.length = k) (hn : ∀ x ∈ L, x < k + r) (h3 : k + r ≤ 16) :
    (pivL (cellF (2 * k) (takeM (2 * k) (halfM k r) (castL (bothH L))).flatten) (2 * k) (2 * k)).length = 2 * k := by
  rw [htakeM_grid (xs := halfM k r) (A := halfF k (carN (groupN k r))) (bothH_lt hn) rfl, pivL_congr (B := fun i j => halfF k (carN (groupN k r)) ((bothH L).getD i 0) j) (fun i hi j hj => by
    rw [bothH_len, hl]; exact at8_grid hi hj)]
  exact half_rank hd hl hn (by omega)
theorem htake_yes (r c l cap ln cn : Nat) (a an : Option Addr) (xs : List F) (ns : List Int) (w : World) (hr : r ≤ 64) (hc : c ≤ 64) (hl : l = r * c) (hx : xs.length = r * c) (hcap : l ≤ cap) (hX : Row8 w a xs) (hnil : a = none → cap = 0)
    (hln : ln = ns.length) (hn : ln ≤ 64) (hN : RowI w an ns) (s : Addr) (hs : w.cell? ⟨3, 0, none⟩ = some (errAt s)) (hall : ∀ n ∈ ns, 0 ≤ n ∧ n < r) :
    Calls Tryz.prog 89 #[.agg #[.int .i64 r, .int .i64 c, .slice a l cap], .slice an ln cn] w fun e w' =>
      ∃ g m, e = .returned (.tuple #[.agg #[.int .i64 ln, .int .i64 c, .slice (some ⟨g, 0, none⟩) m m], .nilIface]) ∧ m = ln * c ∧ w.heap.size ≤ g ∧
        w'.heap[g]? = some (.cells (vfs (takeM c xs ns).flatten) 5 (0, 0)) ∧ Below w.heap.size w w' :=
  (take_F r c l cap ln cn a an xs ns w hr hc hl hx hcap hX hnil hln hn hN s hs).mono fun e w' h => h.elim (fun h => h.2) (fun h => absurd hall h.1)
end Go.Proofs.YtkoakingmnjdoaaGreatDoor

/- What Inverse of package solve answers, of all matrices. -/
namespace Go.Proofs.YtkoakingmnjdoaaGreatDoor
open Go.RowKit Gf
set_option linter.unusedVariables false
set_option maxRecDepth 20000
def slX (n : Nat) (g : Nat → Value) : Array Value := ((List.range n).map g).toArray
theorem slX_size (n : Nat) (g : Nat → Value) : (slX n g).size = n := by simp [slX]
theorem slX_at {n k : Nat} {g : Nat → Value} (h : k < n) : (slX n g)[k]? = some (g k) := by simp [slX, h]
theorem slX_set {n k : Nat} {g : Nat → Value} (v : Value) (h : k < n) : (slX n g).setIfInBounds k v = slX n (fun x => if x = k then v else g x) := by
  apply Array.ext_getElem?
  intro i
  rw [Array.getElem?_setIfInBounds]
  by_cases hi : i < n
  · rw [slX_at hi, slX_at hi, slX_size]
    by_cases e : k = i
    · subst e; simp [hi]
    · simp [e, show ¬ i = k from fun h => e h.symm]
  · rw [Array.getElem?_eq_none (by rw [slX_size]; omega), Array.getElem?_eq_none (by rw [slX_size]; omega), slX_size]
    simp; omega
theorem augL_one {n : Nat} {xs : List F} : ∀ i, i < n → ∀ j, j < n + n → augL n n xs (oneM n) i j = augI n (cellF n xs) i j := fun i hi j hj => by
  simp only [augL, augI, cellF]
  by_cases h : j < n
  · rw [if_pos h, if_pos h]
  · rw [if_neg h, if_neg h, oneM, at8_grid hi (by omega)]
    by_cases e : i = j - n
    · rw [if_pos e, if_pos (by omega)]
    · rw [if_neg e, if_neg (by omega)]
theorem row8T_tail {w : World} {b off n c : Nat} {f : Nat → F} (h : Row8T w (some ⟨b, off, none⟩) (rowF (c + n) f)) (hn : 0 < n) : Row8T w (some ⟨b, off + c, none⟩) (rowF n fun j => f (c + j)) := by
  rcases h with e | ⟨b', off', cs, fr, e, hb, h⟩
  · have := congrArg List.length e
    rw [rowF_len] at this
    simp at this; omega
  · cases e
    refine .inr ⟨b, off + c, cs, fr, rfl, hb, fun j hj => ?_⟩
    rw [rowF_len] at hj
    have := h (c + j) (by rw [rowF_len]; omega)
    rw [at8_rowF (by omega)] at this
    rw [at8_rowF hj, Nat.add_assoc]
    exact this
/-- a matrix that undoes another one, on either side -/
structure InvOf (n : Nat) (A B : Mt) : Prop where
  right : ∀ i, i < n → ∀ j, j < n → mulF n A B i j = if i = j then 1 else 0
  left : ∀ i, i < n → ∀ j, j < n → mulF n B A i j = if i = j then 1 else 0
end Go.Proofs.YtkoakingmnjdoaaGreatDoor

/- What Decode of package code answers, of all numbers and shards where k, r and the size are legal; the refusals. -/
namespace Go.Proofs.YtkoakingmnjdoaaGreatDoor
open Go.RowKit Gf
set_option linter.unusedVariables false
set_option maxRecDepth 20000
theorem comb_inv {c H i : Nat} {Y A : Mt} {L : List (List F)} {D : Nat → Nat → F} (hI : InvOf c A Y) (hD : ∀ i, i < c → ∀ b, b < H → bytesD L i b = sumF (fun u => gm (A i u) (D u b)) c) (hi : i < c) : combL c H (grid c Y c) L i = rowF H (D i) :=
  rowF_congr fun b hb => by
    rw [sumF_congr (g := fun v => sumF (fun u => gm (gm (Y i v) (A v u)) (D u b)) c) (fun v hv => by
      rw [at8_grid hi hv, hD v hv b hb, sumF_mul_left]
      exact sumF_congr fun u _ => (F.mul_assoc _ _ _).symm), sumF_swap (fun v u => gm (gm (Y i v) (A v u)) (D u b)) c c]
    rw [sumF_congr (g := fun u => gm (if i = u then 1 else 0) (D u b)) (fun u hu => by
      rw [← hI.left i hi u hu, mulF, sumF_mul_right])]
    rw [sumF_pick _ i c hi fun u _ hne => by rw [if_neg (fun e => hne e.symm), F.zero_mul]]
    rw [if_pos rfl, F.one_mul]
/-- the bytes of these data halves -/
def joinD (k H n : Nat) (D : Nat → Nat → F) : List F := (((List.range (2 * k)).map fun v => rowF H (D v)).flatten).take n
theorem flatD_len (k H : Nat) (D : Nat → Nat → F) : (((List.range (2 * k)).map fun v => rowF H (D v)).flatten).length = 2 * k * H := by
  rw [flat_len (c := H) (fun ys hy => by obtain ⟨v, _, rfl⟩ := List.mem_map.1 hy; exact rowF_len _ _)]; simp
theorem joinD_len {k H n : Nat} {D : Nat → Nat → F} (h : n ≤ 2 * k * H) : (joinD k H n D).length = n := by
  rw [joinD, List.length_take, flatD_len]; omega
theorem joinD_congr {k H n : Nat} {D E : Nat → Nat → F} (h : ∀ v, v < 2 * k → ∀ b, b < H → D v b = E v b) : joinD k H n D = joinD k H n E := by
  unfold joinD
  congr 2
  apply List.map_congr_left
  intro v hv
  exact rowF_congr fun b hb => h v (by simpa using hv) b hb
/-- the errors that Decode names -/
def ErrsC (w : World) (E : Nat → Addr) : Prop := ErrsF w E ∧ w.cell? ⟨5, 0, none⟩ = some (errAt (E 2)) ∧ w.cell? ⟨1, 0, none⟩ = some (errAt (E 3)) ∧ w.cell? ⟨6, 0, none⟩ = some (errAt (E 4))
theorem errsC_below {w w' : World} {E : Nat → Addr} (h : ErrsC w E) (hb : Below w.heap.size w w') : ErrsC w' E := ⟨errsF_below h.1 hb, cell_later hb h.2.1, cell_later hb h.2.2.1, cell_later hb h.2.2.2⟩
/-- of these data halves the halves of these shards are made -/
def MadeOf (k r H : Nat) (nums : List Nat) (L : List (List F)) (D : Nat → Nat → F) : Prop :=
  ∀ i, i < 2 * k → ∀ b, b < H → bytesD L i b = sumF (fun u => gm (numM k (carN (groupN k r)) (bothH nums) i u) (D u b)) (2 * k)
theorem made_ex {k r H : Nat} {S : List (Int × List F × List F)} (hg : GoodT k r S) (hl : S.length = k) (h3 : k + r ≤ 16) (L : List (List F)) : ∃ D, MadeOf k r H (numT S) L D := by
  obtain ⟨_, g2, g3⟩ := good_nums hg
  have hrk := num_rank (car := carN (groupN k r)) g3 (by rw [numT_len, hl]) g2 (show k + r ≤ 256 by omega)
  obtain ⟨D, hD⟩ := full_table hrk (bytesD L)
  exact ⟨D, fun i hi b _ => hD i hi b⟩
theorem made_one {k r H : Nat} {S : List (Int × List F × List F)} (hg : GoodT k r S) (hl : S.length = k) (h3 : k + r ≤ 16) {L : List (List F)} {D E : Nat → Nat → F} (hD : MadeOf k r H (numT S) L D) (hE : MadeOf k r H (numT S) L E) : ∀ v, v < 2 * k → ∀ b, b < H → D v b = E v b := fun v hv b hb => by
  obtain ⟨_, g2, g3⟩ := good_nums hg
  have hrk := num_rank (car := carN (groupN k r)) g3 (by rw [numT_len, hl]) g2 (show k + r ≤ 256 by omega)
  exact full_one (R := fun i => bytesD L i b) (D := fun u => D u b) (E := fun u => E u b) hrk (fun i hi => hD i hi b hb) (fun i hi => hE i hi b hb) v hv
end Go.Proofs.YtkoakingmnjdoaaGreatDoor

/- How parameters, two lists of numbers and a list of bytes come in as one; facts for the frames of the laws; nothing of the program is proved here. -/
namespace Go.Proofs.YtkoakingmnjdoaaGreatDoor
open Go.ChangeShapes Go.WideShapes Go.ChangeAt Go.RowKit Gf Go.Joins
set_option linter.unusedVariables false
set_option maxRecDepth 20000
theorem cellsDmg : Tryz.prog.cellsOf 25 = 5 := by kernel_rfl
theorem openDmg {H : Type} {enc : TypeId × Value → H} {W : World} {v : Value} {d : DataW H} {p : List MemPlace} {base : Nat} {ts : List TypeId} {ds : List (DataW H)} {j : Nat}
    (hv : Value.okWide Tryz.prog W .any base 25 v) (h : DataW.Trod enc Tryz.prog W 0 (fun _ => true) true 25 v d p)
    (hsz : (DataW.weightsEach Tryz.prog ts ds).all (· ≤ reachBytes) = true) (ht : ts[j]? = some 25) (hd : ds[j]? = some d) :
    ∃ (k r : Int) (a b c : Option Addr) (la ca lb cb lc cc : Nat) (xs ys : List Int) (zs : List F), v = .agg #[.int .i64 k, .int .i64 r, .slice a la ca, .slice b lb cb, .slice c lc cc] ∧
      (-9223372036854775808 ≤ k ∧ k ≤ 9223372036854775807) ∧ (-9223372036854775808 ≤ r ∧ r ≤ 9223372036854775807) ∧
      (la = xs.length ∧ RowI W a xs ∧ la ≤ ca ∧ ca ≤ 17592186043904 ∧ (a = none → ca = 0) ∧ ∀ n ∈ xs, -9223372036854775808 ≤ n ∧ n ≤ 9223372036854775807) ∧
      (lb = ys.length ∧ RowI W b ys ∧ lb ≤ cb ∧ cb ≤ 17592186043904 ∧ (b = none → cb = 0) ∧ ∀ n ∈ ys, -9223372036854775808 ≤ n ∧ n ≤ 9223372036854775807) ∧
      (lc = zs.length ∧ Row8 W c zs ∧ lc ≤ cc ∧ cc ≤ 140737488351232 ∧ (c = none → cc = 0)) := by
  obtain ⟨v0, v1, v2, v3, v4, y0, y1, y2, y3, y4, n, rfl, rfl, e0, e1, e2, e3, e4⟩ := open_agg5 Tryz.underlying25 (by kernel_rfl) cellsDmg hv h
  obtain ⟨k, s0, _, w0⟩ := DataW.trod_int Tryz.underlying3 e0
  obtain ⟨r, s1, _, w1⟩ := DataW.trod_int Tryz.underlying3 e1
  have hw : ∀ n ∈ DataW.weights Tryz.prog 25 (.agg [y0.1, y1.1, y2.1, y3.1, y4.1]), n ≤ reachBytes := fun n hn => by
    simpa using List.all_eq_true.1 hsz _ (DataW.weights_mem_each ht hd n hn)
  simp only [DataW.weights, Tryz.underlying25] at hw
  obtain ⟨a, la, ca, xs, s2, x2⟩ := openInts_cell e2 (fun n hn => hw n (by simp [DataW.weightsEach, hn]))
  obtain ⟨b, lb, cb, ys, s3, x3⟩ := openInts_cell e3 (fun n hn => hw n (by simp [DataW.weightsEach, hn]))
  obtain ⟨c, lc, cc, zs, s4, ea, ka, ra, da, na⟩ := open8_cells e4
  have r2 : Room2 y4.1 cc := da.imp (fun h => ⟨h.1, h.2.2⟩) id
  have x4 := room2_le r2 (fun n hn => hw n (by simp [DataW.weightsEach, hn]))
  simp only [List.cons.injEq, and_true] at s0 s1 s2 s3 s4
  subst s0 s1 s2 s3 s4
  exact ⟨k, r, a, b, c, la, ca, lb, cb, lc, cc, xs, ys, zs, rfl, bounds_i64 w0, bounds_i64 w1, x2, x3, ⟨ea, ra, ka, x4, na⟩⟩
end Go.Proofs.YtkoakingmnjdoaaGreatDoor

/- What For of package plan answers of stripes that are gone. -/
namespace Go.Proofs.YtkoakingmnjdoaaGreatDoor
open Go.RowKit Gf
set_option linter.unusedVariables false
set_option maxRecDepth 20000
set_option linter.unusedSimpArgs false
set_option maxRecDepth 100000 in
set_option maxHeartbeats 8000000 in
theorem for_gone (k r ll lc wl wc : Nat) (la wa : Option Addr) (lost W : List Nat) (w : World) (E : Nat → Addr) (hE : ErrsG w E) (hEL : w.cell? ⟨2, 0, none⟩ = some (errAt (E 5))) (h1 : 1 ≤ k) (h2 : 2 ≤ r) (h3 : k + r ≤ 16) (hl : ll = lost.length) (hcap : ll ≤ lc) (hX : RowI w la (natJ8 lost)) (hu : lost.Pairwise (· < ·)) (hr : ∀ x ∈ lost, x < 2 * (k + r)) (hwl : wl = W.length) (hW : RowI w wa (natJ8 W)) (hWu : W.Pairwise (· < ·)) (hWl : ∀ x ∈ W, x ∈ lost) (hg : goneB k (2 * (k + r)) (carN (groupN k r)) lost = true) :
    Calls Tryz.prog 11 #[.int .i64 k, .int .i64 r, .slice la ll lc, .slice wa wl wc] w fun e w' => e = .returned (.tuple #[noProg, errAt (E 5)]) ∧ Below w.heap.size w w' := by
  have hwant : wantB (natJ8 lost) (natJ8 W) = true := wantB_yes ⟨by rw [natJ8, List.pairwise_map]; exact hWu.imp fun h => by omega, fun x hx => by
    obtain ⟨y, hy, rfl⟩ := List.mem_map.1 hx
    exact natJ8_mem.2 (hWl y hy)⟩
  have hw32 : wl ≤ 32 := by have := pair_len hWu (fun x hx => hr x (hWl x hx)); omega
  have HCK : Hid (∀ u, Below w.heap.size w u → Calls Tryz.prog 34 #[.int .i64 k, .int .i64 r, .slice la ll lc, .slice wa wl wc] u fun e w' => e = .returned .nilIface ∧ Below u.heap.size u w') := fun u hub => by
    have := plcheck_ok k r ll lc wl wc la wa (natJ8 lost) (natJ8 W) u E (errsG_below hE hub).1 h1 h2 h3 (by rw [natJ8_len]; exact hl) hcap (rowI_below hX hub) (goodH_of hu hr) (by rw [natJ8_len]; exact hwl) (by omega) (rowI_below hW hub)
    rw [hwant] at this
    exact this
  have hk1 : kindN k lost ≠ 1 := fun h => by
    obtain ⟨s, hs, hlost⟩ := kind_one h
    rw [hlost, gone_none (by omega) (by omega)] at hg
    cases hg
  have HCN : Hid (∀ u, Below w.heap.size w u → Calls Tryz.prog 168 #[.agg #[], .agg #[.int .i64 k, .int .i64 r, .slice la ll lc]] u fun e w' => e = .returned (.tuple #[.slice none 0 0, .bool false, .nilIface]) ∧ Below u.heap.size u w') := fun u hub => cheap_no k r ll lc la lost u E (errsG_below hE hub) h1 h2 h3 hl hcap (rowI_below hX hub) hu hr hk1
  have HGL : Hid (∀ u, Below w.heap.size w u → Calls Tryz.prog 195 #[.agg #[], .agg #[.int .i64 k, .int .i64 r, .slice la ll lc]] u fun e w' => e = .returned (.tuple #[.slice none 0 0, .bool false, .nilIface]) ∧ Below u.heap.size u w') := fun u hub => general_gone k r ll lc la lost u E (errsG_below hE hub) h1 h2 h3 hl hcap (rowI_below hX hub) hu hr hg
  have HEL : Hid (∀ u, Below w.heap.size w u → u.cell? ⟨2, 0, none⟩ = some (errAt (E 5))) := fun u hub => cell_later hub hEL
  generalize E 5 = es at *
  clear hEL hk1
  obtain ⟨R, hR⟩ : ∃ R, R = w.heap.size := ⟨_, rfl⟩
  obtain ⟨W0, hW0⟩ : ∃ W0, W0 = w.alloc (.cells #[.slice none 0 0, .slice none 0 0, .int .i64 0, .slice none 0 0] 30) := ⟨_, rfl⟩
  have hb0 : Below w.heap.size w W0 := by rw [hW0]; exact (Below.refl _ _).alloc (Nat.le_refl _) _
  have hr0 : W0.heap[R]? = some (.cells #[.slice none 0 0, .slice none 0 0, .int .i64 0, .slice none 0 0] 30 (0, 0)) := by rw [hW0, hR]; exact heap_alloc_last _ _
  have HB0 : Hid (Below w.heap.size w W0) := hb0
  have HR0 : Hid (W0.heap[R]? = some (.cells #[.slice none 0 0, .slice none 0 0, .int .i64 0, .slice none 0 0] 30 (0, 0))) := hr0
  have HWE : Hid (W0 = w.alloc (.cells #[.slice none 0 0, .slice none 0 0, .int .i64 0, .slice none 0 0] 30)) := hW0
  have HRE : Hid (R = w.heap.size) := hR
  have HC0 : Hid _ := HCK.out W0 hb0
  clear hE hl hcap hX hu hr hwl hW hWu hWl hg hwant hR hW0 hb0 hr0
  unfold noProg errAt at *
  go_enter Tryz.func11, Tryz.ntmps11
  go_upto_region 1 with fail
  rw [← HWE.out, ← HRE.out]
  go_wp2_with fail
  refine Calls.mono HC0.out ?_
  rintro e Y ⟨rfl, hy⟩
  have HRY : Hid _ := heap_later HR0.out hy
  have HBY : Hid (Below w.heap.size w Y) := HB0.out.trans (hy.mono HB0.out.size)
  obtain ⟨Y1, hY1⟩ : ∃ Y1, Y1 = Y.alloc (.cells #[.int .i64 k, .int .i64 r, .slice la ll lc] 63) := ⟨_, rfl⟩
  obtain ⟨Q, hQ⟩ : ∃ Q, Q = Y.heap.size := ⟨_, rfl⟩
  have hby1 : Below Y.heap.size Y Y1 := by rw [hY1]; exact (Below.refl _ _).alloc (Nat.le_refl _) _
  have HQ1 : Hid (Y1.heap[Q]? = some (.cells #[.int .i64 k, .int .i64 r, .slice la ll lc] 63 (0, 0))) := by show _ = _; rw [hY1, hQ]; exact heap_alloc_last _ _
  have HRY1 : Hid _ := heap_later HRY.out hby1
  have HBY1 : Hid (Below w.heap.size w Y1) := HBY.out.trans (hby1.mono HBY.out.size)
  have HY1E : Hid (Y1 = Y.alloc (.cells #[.int .i64 k, .int .i64 r, .slice la ll lc] 63)) := hY1
  have HQE : Hid (Q = Y.heap.size) := hQ
  clear hy hY1 hQ hby1 HC0 HB0 HR0 HWE HCK
  go_upto_region 5 with fail
  rw [← HY1E.out, ← HQE.out]
  clear HY1E HQE HRY HBY
  go_wp2_with fail
  refine Calls.mono (paths_F Y1) ?_
  rintro e Y2 ⟨rfl, hy2⟩
  obtain ⟨G, hG⟩ : ∃ G, G = Y1.heap.size := ⟨_, rfl⟩
  have hby2 : Below Y1.heap.size Y1 Y2 := by rw [hy2]; exact (Below.refl _ _).alloc (Nat.le_refl _) _
  have HG2 : Hid (Y2.heap[G]? = some (.cells #[.iface 97 (.agg #[]), .iface 98 (.agg #[])] 67 (0, 0))) := by show _ = _; rw [hy2, hG]; exact heap_alloc_last _ _
  have HQ2 : Hid _ := heap_later HQ1.out hby2
  have HRY2 : Hid _ := heap_later HRY1.out hby2
  have HBY2 : Hid (Below w.heap.size w Y2) := HBY1.out.trans (hby2.mono HBY1.out.size)
  rw [← hG]
  clear hy2 hG hby2 HQ1 HRY1 HBY1
  go_wp2
  go_loopw [32] (fun t wr => ∃ i : Nat, i ≤ 2 ∧ t = .int .i64 (i : Int) ∧ Below Y2.heap.size Y2 wr) (fun t _ => 2 - (intOf t).toNat)
  case atStart => exact ⟨0, by decide, rfl, Below.refl _ _⟩
  case round =>
    obtain ⟨i, hi, rfl, hb⟩ := hrel
    have HB : Hid (Below Y2.heap.size Y2 wr) := hb
    generalize wr = Z at *
    have HBZ : Hid (Below w.heap.size w Z) := HBY2.out.trans (HB.out.mono HBY2.out.size)
    have hgz := heap_later HG2.out HB.out
    have hqz := heap_later HQ2.out HB.out
    have k0 := cellAt hqz 0 _ rfl
    have k1 := cellAt hqz 1 _ rfl
    have k2 := cellAt hqz 2 _ rfl
    have zq := ltHeap hqz
    have HRZ : Hid _ := heap_later HRY2.out HB.out
    clear hb hqz
    have hi3 : i = 0 ∨ i = 1 ∨ i = 2 := by omega
    rcases hi3 with rfl | rfl | rfl
    · have g0 := cellAt hgz 0 _ rfl
      clear hgz hi
      have HCA' : Hid _ := HCN.out Z HBZ.out
      go_wp2_with (fail)
      refine Calls.mono HCA'.out ?_
      rintro e Z1 ⟨rfl, hz1⟩
      have HZ1 : Hid (Below Y2.heap.size Y2 Z1) := HB.out.trans (hz1.mono HB.out.size)
      clear hz1 k0 k1 k2 zq g0
      go_wp2
      exact ⟨⟨1, by decide, rfl, HZ1.out⟩, by simp [intOf]⟩
    · have g0 := cellAt hgz 1 _ rfl
      clear hgz hi
      have HCA' : Hid _ := HGL.out Z HBZ.out
      go_wp2_with (fail)
      refine Calls.mono HCA'.out ?_
      rintro e Z1 ⟨rfl, hz1⟩
      have HZ1 : Hid (Below Y2.heap.size Y2 Z1) := HB.out.trans (hz1.mono HB.out.size)
      clear hz1 k0 k1 k2 zq g0
      go_wp2
      exact ⟨⟨2, by decide, rfl, HZ1.out⟩, by simp [intOf]⟩
    · have ce := fun u (hu : Below w.heap.size w u) => HEL.out u hu
      have hRY := HRZ.out
      have c9 := HEL.out Z HBZ.out
      have HRL : Hid (R < Z.heap.size) := ltHeap hRY
      clear hgz hi k0 k1 k2 zq ce
      go_upto_region 14 with fail
      refine wp_region_noPanic ?_
      refine wp_region_held_drew (S := fun u => Z.grownBy u (some R)) (by kernel_rfl) ?_ (fun hHeld => ?_)
      · exact grownBy_drew (World.grownBy.refl _ _)
      obtain ⟨X, hX⟩ : ∃ X, X = Z.drew := ⟨_, rfl⟩
      have GX : Hid (Z.grownBy X (some R)) := by show World.grownBy ..; rw [hX]; exact grownBy_drew (World.grownBy.refl _ _)
      have HRX : Hid (X.heap[R]? = some (.cells #[.slice none 0 0, .slice none 0 0, .int .i64 0, .slice none 0 0] 30 (0, 0))) := by show _ = _; rw [hX]; exact HRZ.out
      have HBX : Hid (Below w.heap.size w X) := by show Below ..; rw [hX]; exact HBZ.out.drew
      have HKG : Hid (∀ u, Z.grownBy u (some R) → u.cell? ⟨2, 0, none⟩ = some (errAt es)) := fun u hu => cell_grownO hu (HEL.out Z HBZ.out) (fun e => by
        have h1 := World.block_lt_of_cell? w _ (HEL.out w (Below.refl _ _))
        have h2 : R = 2 := Option.some.inj e
        have h3 := HRE.out
        simp only at h1
        omega)
      unfold errAt at HKG
      rw [← hX] at hHeld ⊢
      clear hX
      refine wpAnyH_take (i := 0) (oi := { dst := some 55, op := Op.build 30 #[], type := 30, pos := "plan.go:106", after := #[], guard := none }) (v := ?_) rfl (by kernel_rfl) (by kernel_rfl) (by kernel_rfl) (fun _ _ _ h => h) (Or.inl ⟨by rfl, ?_⟩) hHeld ?_
      rotate_left
      · intro u hSw
        go_simp
        try with_reducible rfl
      try simp only [Act.put, List.setIfInBounds_toArray, List.set_cons_zero, List.set_cons_succ]
      refine wpAnyH_take (i := 1) (oi := { dst := some 56, op := Op.load 32 (Operand.global 2), type := 32, pos := "plan.go:106", after := #[{ on := 2, ground := Ground.gcOnly Departure.lateStores }], guard := none }) (v := ?_) rfl (by kernel_rfl) (by kernel_rfl) (by kernel_rfl) (fun _ _ _ h => h) (Or.inl ⟨by rfl, ?_⟩) hHeld ?_
      rotate_left
      · intro u hSw
        have k9 := HKG.out u hSw
        go_simp
        try with_reducible rfl
      try simp only [Act.put, List.setIfInBounds_toArray, List.set_cons_zero, List.set_cons_succ]
      refine wpAnyH_ready (rs := [2]) (by kernel_rfl) (by simp) ?_
      refine (AllReadyH.cons (o := { dst := none, op := Op.store 30 (Operand.tmp 8) (Operand.tmp 55), type := 0, pos := "plan.go:106", after := #[{ on := 0, ground := Ground.data }, { on := 0, ground := Ground.phase }, { on := 1, ground := Ground.textOnly Departure.lateStores }], guard := none }) rfl (fun K hK => ?_) AllReadyH.nil)
      have r0 := cellAt HRX.out 0 _ rfl
      have r1 := cellAt HRX.out 1 _ rfl
      have r2 := cellAt HRX.out 2 _ rfl
      have r3 := cellAt HRX.out 3 _ rfl
      have e0 : X.frozen? ⟨R, 0, none⟩ = false := frozen_of_row _ _ _ _ _ HRX.out
      have e1 : X.frozen? ⟨R, 1, none⟩ = false := frozen_of_row _ _ _ _ _ HRX.out
      have e2 : X.frozen? ⟨R, 2, none⟩ = false := frozen_of_row _ _ _ _ _ HRX.out
      have e3 : X.frozen? ⟨R, 3, none⟩ = false := frozen_of_row _ _ _ _ _ HRX.out
      go_simp
      refine hK.out _ _ ?_ (fun hHeld => ?_)
      · exact grownBy_setCell (grownBy_setCell (grownBy_setCell (grownBy_setCell GX.out _) _) _) _
      clear hK K
      try simp only [Act.put, List.setIfInBounds_toArray, List.set_cons_zero, List.set_cons_succ]
      refine wpAnyH_take (i := 3) (oi := { dst := some 9, op := Op.assign (Operand.tmp 56), type := 32, pos := "plan.go:106", after := #[{ on := 1, ground := Ground.data }, { on := 2, ground := Ground.chain }, { on := 0, ground := Ground.phase }, { on := 1, ground := Ground.phase }, { on := 2, ground := Ground.phase }], guard := none }) (v := ?_) rfl (by kernel_rfl) (by kernel_rfl) (by kernel_rfl) (fun _ _ _ h => h) (Or.inl ⟨by rfl, ?_⟩) hHeld ?_
      rotate_left
      · intro u hSw
        go_simp
        try with_reducible rfl
      try simp only [Act.put, List.setIfInBounds_toArray, List.set_cons_zero, List.set_cons_succ]
      refine wpAnyH_done (by kernel_rfl) ?_ _
      refine NoPanic.normal ?_
      obtain ⟨U, hU⟩ : ∃ U, U = (((X.setCell ⟨R, 0, none⟩ (.slice none 0 0)).setCell ⟨R, 1, none⟩ (.slice none 0 0)).setCell ⟨R, 2, none⟩ (.int .i64 0)).setCell ⟨R, 3, none⟩ (.slice none 0 0) := ⟨_, rfl⟩
      have hRU : U.heap[R]? = some (.cells #[.slice none 0 0, .slice none 0 0, .int .i64 0, .slice none 0 0] 30 (0, 0)) := by
        rw [hU, heap_setCell_same _ _ _ _ _ _ (heap_setCell_same _ _ _ _ _ _ (heap_setCell_same _ _ _ _ _ _ (heap_setCell_same _ _ _ _ _ _ HRX.out)))]
        rfl
      have HBU : Hid (Below w.heap.size w U) := by
        have hr : w.heap.size ≤ R := by rw [HRE.out]; exact Nat.le_refl _
        show Below ..; rw [hU]
        exact (((HBX.out.setCell (p := ⟨R, 0, none⟩) hr _).setCell (p := ⟨R, 1, none⟩) hr _).setCell (p := ⟨R, 2, none⟩) hr _).setCell (p := ⟨R, 3, none⟩) hr _
      have HUE : Hid (U = (((X.setCell ⟨R, 0, none⟩ (.slice none 0 0)).setCell ⟨R, 1, none⟩ (.slice none 0 0)).setCell ⟨R, 2, none⟩ (.int .i64 0)).setCell ⟨R, 3, none⟩ (.slice none 0 0)) := hU
      have q0 := cellAt hRU 0 _ rfl
      have q1 := cellAt hRU 1 _ rfl
      have q2 := cellAt hRU 2 _ rfl
      have q3 := cellAt hRU 3 _ rfl
      have zz := ltHeap hRU
      clear hU hRU c9
      rw [← HUE.out]
      go_wp2
      refine bodyPost_ret (v := .tuple #[.agg #[.slice none 0 0, .slice none 0 0, .int .i64 0, .slice none 0 0], .iface 191 (.pointer (some es))]) (by simp [results, Tryz.results11, go_sem, q0, q1, q2, q3, zz]) rfl ⟨rfl, HBU.out⟩
end Go.Proofs.YtkoakingmnjdoaaGreatDoor

/- What Compile, Reads and Cheap of package plan answer. -/
namespace Go.Proofs.YtkoakingmnjdoaaGreatDoor
open Go.RowKit Gf
set_option linter.unusedVariables false
set_option maxRecDepth 20000
set_option linter.unusedSimpArgs false
abbrev pAgg (ia : Option Addr) (il ic : Nat) (oa : Option Addr) (ol oc : Nat) (rg : Int) (ta : Option Addr) (tl tc : Nat) : Value := .agg #[.slice ia il ic, .slice oa ol oc, .int .i64 rg, .slice ta tl tc]
/-- Compile answers what For answers -/
theorem compile_any (k r : Int) (ll lc : Nat) (la : Option Addr) (w : World) (Φ : Option Addr → Nat → Nat → Option Addr → Nat → Nat → Int → Option Addr → Nat → Nat → Value → World → World → Prop)
    (hF : ∀ u, Below w.heap.size w u → u.heap.size = w.heap.size + 1 → Calls Tryz.prog 11 #[.int .i64 k, .int .i64 r, .slice la ll lc, .slice la ll lc] u fun e w' => ∃ ia il ic oa ol oc rg ta tl tc ev, e = .returned (.tuple #[pAgg ia il ic oa ol oc rg ta tl tc, ev]) ∧ Φ ia il ic oa ol oc rg ta tl tc ev u w' ∧ Below u.heap.size u w') :
    Calls Tryz.prog 12 #[.int .i64 k, .int .i64 r, .slice la ll lc] w fun e w' => ∃ ia il ic oa ol oc rg ta tl tc ev u Y, e = .returned (.tuple #[pAgg ia il ic oa ol oc rg ta tl tc, ev]) ∧ u.heap.size = w.heap.size + 1 ∧ Φ ia il ic oa ol oc rg ta tl tc ev u Y ∧ Y.grownBy w' (some w.heap.size) ∧ Below w.heap.size w w' := by
  obtain ⟨R, hR⟩ : ∃ R, R = w.heap.size := ⟨_, rfl⟩
  obtain ⟨W0, hW0⟩ : ∃ W0, W0 = w.alloc (.cells #[.slice none 0 0, .slice none 0 0, .int .i64 0, .slice none 0 0] 30) := ⟨_, rfl⟩
  have hb0 : Below w.heap.size w W0 := by rw [hW0]; exact (Below.refl _ _).alloc (Nat.le_refl _) _
  have hr0 : W0.heap[R]? = some (.cells #[.slice none 0 0, .slice none 0 0, .int .i64 0, .slice none 0 0] 30 (0, 0)) := by rw [hW0, hR]; exact heap_alloc_last _ _
  have hs0 : W0.heap.size = w.heap.size + 1 := by rw [hW0]; simp
  have HC : Hid _ := hF W0 hb0 hs0
  have HB0 : Hid (Below w.heap.size w W0) := hb0
  have HS0 : Hid (W0.heap.size = w.heap.size + 1) := hs0
  have HR0 : Hid (W0.heap[R]? = some (.cells #[.slice none 0 0, .slice none 0 0, .int .i64 0, .slice none 0 0] 30 (0, 0))) := hr0
  have HWE : Hid (W0 = w.alloc (.cells #[.slice none 0 0, .slice none 0 0, .int .i64 0, .slice none 0 0] 30)) := hW0
  have HRE : Hid (R = w.heap.size) := hR
  clear hF hR hW0 hb0 hr0 hs0
  go_enter Tryz.func12, Tryz.ntmps12
  go_upto_region 1 with fail
  rw [← HWE.out, ← HRE.out]
  go_wp2_with fail
  refine Calls.mono HC.out ?_
  rintro e Y ⟨ia, il, ic, oa, ol, oc, rg, ta, tl, tc, ev, rfl, hphi, hy⟩
  have hRY := heap_later HR0.out hy
  have hBY : Below w.heap.size w Y := HB0.out.trans (hy.mono HB0.out.size)
  obtain ⟨U, hU⟩ : ∃ U, U = (((Y.setCell ⟨R, 0, none⟩ (.slice ia il ic)).setCell ⟨R, 1, none⟩ (.slice oa ol oc)).setCell ⟨R, 2, none⟩ (.int .i64 rg)).setCell ⟨R, 3, none⟩ (.slice ta tl tc) := ⟨_, rfl⟩
  have hRU : U.heap[R]? = some (.cells #[.slice ia il ic, .slice oa ol oc, .int .i64 rg, .slice ta tl tc] 30 (0, 0)) := by
    rw [hU, heap_setCell_same _ _ _ _ _ _ (heap_setCell_same _ _ _ _ _ _ (heap_setCell_same _ _ _ _ _ _ (heap_setCell_same _ _ _ _ _ _ hRY)))]
    rfl
  have HGU : Hid (Y.grownBy U (some w.heap.size)) := by show World.grownBy ..; rw [hU, ← HRE.out]; exact grownBy_setCell (grownBy_setCell (grownBy_setCell (grownBy_setCell (World.grownBy.refl _ _) _) _) _) _
  have HBU : Hid (Below w.heap.size w U) := by
    have hr : w.heap.size ≤ R := by rw [HRE.out]; exact Nat.le_refl _
    show Below ..; rw [hU]
    exact (((hBY.setCell (p := ⟨R, 0, none⟩) hr _).setCell (p := ⟨R, 1, none⟩) hr _).setCell (p := ⟨R, 2, none⟩) hr _).setCell (p := ⟨R, 3, none⟩) hr _
  have HUE : Hid (U = (((Y.setCell ⟨R, 0, none⟩ (.slice ia il ic)).setCell ⟨R, 1, none⟩ (.slice oa ol oc)).setCell ⟨R, 2, none⟩ (.int .i64 rg)).setCell ⟨R, 3, none⟩ (.slice ta tl tc)) := hU
  have HPHI : Hid (Φ ia il ic oa ol oc rg ta tl tc ev W0 Y) := hphi
  have zR := ltHeap hRY
  have r0 := cellAt hRY 0 _ rfl
  have r1 := cellAt hRY 1 _ rfl
  have r2 := cellAt hRY 2 _ rfl
  have r3 := cellAt hRY 3 _ rfl
  have e0 : Y.frozen? ⟨R, 0, none⟩ = false := frozen_of_row _ _ _ _ _ hRY
  have e1 : Y.frozen? ⟨R, 1, none⟩ = false := frozen_of_row _ _ _ _ _ hRY
  have e2 : Y.frozen? ⟨R, 2, none⟩ = false := frozen_of_row _ _ _ _ _ hRY
  have e3 : Y.frozen? ⟨R, 3, none⟩ = false := frozen_of_row _ _ _ _ _ hRY
  have q0 := cellAt hRU 0 _ rfl
  have q1 := cellAt hRU 1 _ rfl
  have q2 := cellAt hRU 2 _ rfl
  have q3 := cellAt hRU 3 _ rfl
  have zz := ltHeap hRU
  clear hy hRY hBY hU hRU hphi HC
  go_wp2
  rw [← HUE.out]
  refine bodyPost_ret (v := .tuple #[.agg #[.slice ia il ic, .slice oa ol oc, .int .i64 rg, .slice ta tl tc], ev]) (by simp [results, Tryz.results12, go_sem, q0, q1, q2, q3, zz]) rfl ⟨ia, il, ic, oa, ol, oc, rg, ta, tl, tc, ev, W0, Y, rfl, HS0.out, HPHI.out, HGU.out, HBU.out⟩
/-- where For refuses -/
theorem compile_err (k r : Int) (ll lc : Nat) (la : Option Addr) (w : World) (s : Addr) (hF : ∀ u, Below w.heap.size w u → Calls Tryz.prog 11 #[.int .i64 k, .int .i64 r, .slice la ll lc, .slice la ll lc] u fun e w' => e = .returned (.tuple #[noProg, errAt s]) ∧ Below u.heap.size u w') :
    Calls Tryz.prog 12 #[.int .i64 k, .int .i64 r, .slice la ll lc] w fun e w' => e = .returned (.tuple #[noProg, errAt s]) ∧ Below w.heap.size w w' := by
  refine (compile_any k r ll lc la w (fun ia il ic oa ol oc rg ta tl tc ev u Y => pAgg ia il ic oa ol oc rg ta tl tc = noProg ∧ ev = errAt s) (fun u hu _ => (hF u hu).mono ?_)).mono ?_
  · rintro e w' ⟨he, hb⟩
    exact ⟨none, 0, 0, none, 0, 0, 0, none, 0, 0, errAt s, he, ⟨rfl, rfl⟩, hb⟩
  · rintro e w' ⟨ia, il, ic, oa, ol, oc, rg, ta, tl, tc, ev, u, Y, rfl, _, ⟨h1, rfl⟩, _, hb⟩
    exact ⟨by rw [h1], hb⟩
theorem compile_ok (k r ll lc : Nat) (la : Option Addr) (lost : List Nat) (w : World) (E : Nat → Addr) (hE : ErrsG w E) (h1 : 1 ≤ k) (h2 : 2 ≤ r) (h3 : k + r ≤ 16) (hl : ll = lost.length) (hcap : ll ≤ lc) (hn : la = none → lc = 0) (hX : RowI w la (natJ8 lost)) (hu : lost.Pairwise (· < ·)) (hr : ∀ x ∈ lost, x < 2 * (k + r)) (hg : goneB k (2 * (k + r)) (carN (groupN k r)) lost = false) :
    Calls Tryz.prog 12 #[.int .i64 k, .int .i64 r, .slice la ll lc] w fun e w' => ∃ v, e = .returned (.tuple #[v, .nilIface]) ∧ ProgAt w' w.heap.size k r lost lost v ∧ Below w.heap.size w w' := by
  refine (compile_any k r ll lc la w (fun ia il ic oa ol oc rg ta tl tc ev u Y => ev = .nilIface ∧ ∃ I ss, (il = List.length I ∧ ol = lost.length ∧ rg = ((lost.length + 1 : Nat) : Int)) ∧ PrgW Y ia oa ta (List.length I) ic lost.length oc tl tc (natJ8 I) (natJ8 lost) ss ∧ PrgUp u.heap.size ia oa ta ∧ MadeP k r lost lost I ss) (fun u hub _ => (for_ok k r ll lc ll lc la la lost lost u E (errsG_below hE hub) h1 h2 h3 hl hcap (rowI_below hX hub) hu hr hl hcap hn (rowI_below hX hub) hu (fun x h => h) hg).mono ?_)).mono ?_
  · rintro e w' ⟨v, he, ⟨ia, ic, oa, oc, ta, tc, tl, I, ss, rfl, hpw, hup, hmd⟩, hb⟩
    exact ⟨ia, _, ic, oa, _, oc, _, ta, tl, tc, .nilIface, he, ⟨rfl, I, ss, ⟨rfl, rfl, rfl⟩, hpw, hup, hmd⟩, hb⟩
  · rintro e w' ⟨ia, il, ic, oa, ol, oc, rg, ta, tl, tc, ev, u, Y, rfl, hs, ⟨rfl, I, ss, ⟨rfl, rfl, rfl⟩, hpw, hup, hmd⟩, hg2, hb⟩
    exact ⟨_, rfl, ⟨ia, ic, oa, oc, ta, tc, tl, I, ss, rfl, hpw.grownO hg2 hup (by omega), hup.mono (by omega), hmd⟩, hb⟩
/-- the error of a loss: 0: none -/
noncomputable def lossE (k r : Int) (lost : List Int) : Nat := open Classical in if chkE k r lost ≠ 0 then chkE k r lost else if ∃ ns : List Nat, lost = natJ8 ns ∧ goneB k.toNat (2 * (k.toNat + r.toNat)) (carN (groupN k.toNat r.toNat)) ns = true then 6 else 0
theorem lossE_gone {k r : Nat} {ns : List Nat} (h1 : 1 ≤ k) (h2 : 2 ≤ r) (h3 : k + r ≤ 16) (hu : ns.Pairwise (· < ·)) (hr : ∀ x ∈ ns, x < 2 * (k + r)) : lossE k r (natJ8 ns) = if goneB k (2 * (k + r)) (carN (groupN k r)) ns = true then 6 else 0 := by
  unfold lossE
  rw [chkE_ok h1 h2 h3 (goodH_of hu hr), if_neg (by simp)]
  simp only [Int.toNat_natCast]
  by_cases h : goneB k (2 * (k + r)) (carN (groupN k r)) ns = true
  · rw [if_pos h, if_pos ⟨ns, rfl, h⟩]
  · rw [if_neg h, if_neg]
    rintro ⟨ms, e, hm⟩
    rw [natJ8_inj e] at h
    exact h hm
/-- a loss is refused, or it is a list of halves in form of a stripe that is not gone -/
theorem loss_split {k r : Int} {lost : List Int} (h : lossE k r lost = 0) : ∃ (a b : Nat) (ns : List Nat), k = a ∧ r = b ∧ lost = natJ8 ns ∧ 1 ≤ a ∧ 2 ≤ b ∧ a + b ≤ 16 ∧ ns.Pairwise (· < ·) ∧ (∀ x ∈ ns, x < 2 * (a + b)) ∧ goneB a (2 * (a + b)) (carN (groupN a b)) ns = false := by
  by_cases hL : LegalP k r
  · obtain ⟨a, b, rfl, rfl, h1, h2, h3⟩ := legal_nat hL
    by_cases hg : GoodH (2 * (a + b)) lost
    · obtain ⟨ns, rfl, hu, hr⟩ := goodH_nats hg
      rw [lossE_gone h1 h2 h3 hu hr] at h
      by_cases hgo : goneB a (2 * (a + b)) (carN (groupN a b)) ns = true
      · rw [if_pos hgo] at h; cases h
      · exact ⟨a, b, ns, rfl, rfl, rfl, h1, h2, h3, hu, hr, by simpa using hgo⟩
    · exfalso
      unfold lossE at h
      rw [chkE_no h1 h2 h3 hg, if_pos (by decide)] at h
      cases h
  · exfalso
    unfold lossE at h
    rw [chkE_bad hL, if_pos (by decide)] at h
    cases h
theorem compile_E (k r : Int) (ll lc : Nat) (la : Option Addr) (lost : List Int) (w : World) (E : Nat → Addr) (hE : ErrsG w E) (hEL : w.cell? ⟨2, 0, none⟩ = some (errAt (E 5))) (hk0 : -9223372036854775808 ≤ k) (hk1 : k ≤ 9223372036854775807) (hr0 : -9223372036854775808 ≤ r) (hr1 : r ≤ 9223372036854775807) (hl : ll = lost.length) (hl9 : ll ≤ 4611686018427387904) (hcap : ll ≤ lc) (hX : RowI w la lost) (h : lossE k r lost ≠ 0) :
    Calls Tryz.prog 12 #[.int .i64 k, .int .i64 r, .slice la ll lc] w fun e w' => e = .returned (.tuple #[noProg, errAt (E (lossE k r lost - 1))]) ∧ Below w.heap.size w w' := by
  refine compile_err k r ll lc la w _ fun u hub => ?_
  by_cases hc : chkE k r lost ≠ 0
  · have e : lossE k r lost = chkE k r lost := by unfold lossE; rw [if_pos hc]
    rw [e]
    exact for_stop k r ll lc ll lc la la u _ fun v hv => plcheck_err k r ll lc ll lc la la lost v E (errsH_below (errsG_below hE hub).1 hv) hk0 hk1 hr0 hr1 hl hl9 hcap (rowI_below (rowI_below hX hub) hv) hc
  · by_cases hL : LegalP k r
    · obtain ⟨a, b, rfl, rfl, h1, h2, h3⟩ := legal_nat hL
      by_cases hg : GoodH (2 * (a + b)) lost
      · obtain ⟨ns, rfl, hu, hr⟩ := goodH_nats hg
        have e := lossE_gone h1 h2 h3 hu hr
        rw [e] at h ⊢
        by_cases hgo : goneB a (2 * (a + b)) (carN (groupN a b)) ns = true
        · rw [if_pos hgo]
          exact for_gone a b ll lc ll lc la la ns ns u E (errsG_below hE hub) (cell_later hub hEL) h1 h2 h3 (by rw [hl, natJ8_len]) hcap (rowI_below hX hub) hu hr (by rw [hl, natJ8_len]) (rowI_below hX hub) hu (fun x hx => hx) hgo
        · rw [if_neg hgo] at h; exact absurd rfl h
      · exact absurd (by rw [chkE_no h1 h2 h3 hg]; decide) hc
    · exact absurd (by rw [chkE_bad hL]; decide) hc
/-- where Compile refuses -/
theorem reads_err (k r : Int) (ll lc : Nat) (la : Option Addr) (w : World) (s : Addr) (hF : Calls Tryz.prog 12 #[.int .i64 k, .int .i64 r, .slice la ll lc] w fun e w' => e = .returned (.tuple #[noProg, errAt s]) ∧ Below w.heap.size w w') :
    Calls Tryz.prog 22 #[.int .i64 k, .int .i64 r, .slice la ll lc] w fun e w' => e = .returned (.tuple #[.int .i64 0, errAt s]) ∧ Below w.heap.size w w' := by
  have HF : Hid _ := hF
  clear hF
  unfold errAt noProg at *
  go_enter Tryz.func22, Tryz.ntmps22
  go_wp2_with fail
  refine Calls.mono HF.out ?_
  rintro e Y ⟨rfl, hy⟩
  have HY : Hid (Below w.heap.size w Y) := hy
  clear hy
  go_wp2
  go_ret2
  exact ⟨rfl, HY.out.alloc HY.out.size _⟩
theorem reads_ok (k r ll lc : Nat) (la : Option Addr) (lost : List Nat) (w : World) (hF : Calls Tryz.prog 12 #[.int .i64 k, .int .i64 r, .slice la ll lc] w fun e w' => ∃ v, e = .returned (.tuple #[v, .nilIface]) ∧ ProgAt w' w.heap.size k r lost lost v ∧ Below w.heap.size w w') :
    Calls Tryz.prog 22 #[.int .i64 k, .int .i64 r, .slice la ll lc] w fun e w' => ∃ n I ss, e = .returned (.tuple #[.int .i64 (n : Nat), .nilIface]) ∧ n = List.length I ∧ MadeP k r lost lost I ss ∧ Below w.heap.size w w' := by
  have HF : Hid _ := hF
  clear hF
  go_enter Tryz.func22, Tryz.ntmps22
  go_wp2_with fail
  refine Calls.mono HF.out ?_
  rintro e Y ⟨v, rfl, ⟨ia, ic, oa, oc, ta, tc, tl, I, ss, rfl, hpw, hup, hmd⟩, hy⟩
  have HY : Hid (Below w.heap.size w Y) := hy
  have HM : Hid (MadeP k r lost lost I ss) := hmd
  obtain ⟨il, hil⟩ : ∃ il, il = I.length := ⟨_, rfl⟩
  have HIL : Hid (il = I.length) := hil
  rw [← hil]
  have hil9 : il ≤ 1000 := by have := pair_len (n := 2 * (k + r)) ((by have := hmd.form.1.1; rw [natJ8, List.pairwise_map] at this; exact this.imp fun h => by omega) : I.Pairwise (· < ·)) (fun x hx => (hmd.low x hx).1); have := hmd.form.1; have h9 := goodH_len this; rw [natJ8_len] at h9; omega
  clear hy hpw hup hmd hil
  go_wp2
  go_ret2
  exact ⟨il, I, ss, rfl, HIL.out, HM.out, HY.out.alloc HY.out.size _⟩
/-- a number that is no data shard's -/
theorem cheap_err (k r x : Int) (w : World) (s : Addr) (hC : ∀ u, Below w.heap.size w u → Calls Tryz.prog 43 #[.int .i64 k, .int .i64 r, .int .i64 x] u fun e w' => e = .returned (.tuple #[.int .i64 0, errAt s]) ∧ Below u.heap.size u w') :
    Calls Tryz.prog 21 #[.int .i64 k, .int .i64 r, .int .i64 x] w fun e w' => e = .returned (.tuple #[noProg, errAt s]) ∧ Below w.heap.size w w' := by
  obtain ⟨R, hR⟩ : ∃ R, R = w.heap.size := ⟨_, rfl⟩
  obtain ⟨W0, hW0⟩ : ∃ W0, W0 = w.alloc (.cells #[.slice none 0 0, .slice none 0 0, .int .i64 0, .slice none 0 0] 30) := ⟨_, rfl⟩
  have hb0 : Below w.heap.size w W0 := by rw [hW0]; exact (Below.refl _ _).alloc (Nat.le_refl _) _
  have hr0 : W0.heap[R]? = some (.cells #[.slice none 0 0, .slice none 0 0, .int .i64 0, .slice none 0 0] 30 (0, 0)) := by rw [hW0, hR]; exact heap_alloc_last _ _
  have HC : Hid _ := hC W0 hb0
  have HB0 : Hid (Below w.heap.size w W0) := hb0
  have HR0 : Hid (W0.heap[R]? = some (.cells #[.slice none 0 0, .slice none 0 0, .int .i64 0, .slice none 0 0] 30 (0, 0))) := hr0
  have HWE : Hid (W0 = w.alloc (.cells #[.slice none 0 0, .slice none 0 0, .int .i64 0, .slice none 0 0] 30)) := hW0
  have HRE : Hid (R = w.heap.size) := hR
  clear hC hR hW0 hb0 hr0
  unfold errAt noProg at *
  go_enter Tryz.func21, Tryz.ntmps21
  go_upto_region 1 with fail
  rw [← HWE.out, ← HRE.out]
  go_wp2_with fail
  refine Calls.mono HC.out ?_
  rintro e Y ⟨rfl, hy⟩
  have hRY := heap_later HR0.out hy
  have hBY : Below w.heap.size w Y := HB0.out.trans (hy.mono HB0.out.size)
  obtain ⟨U, hU⟩ : ∃ U, U = (((Y.setCell ⟨R, 0, none⟩ (.slice none 0 0)).setCell ⟨R, 1, none⟩ (.slice none 0 0)).setCell ⟨R, 2, none⟩ (.int .i64 0)).setCell ⟨R, 3, none⟩ (.slice none 0 0) := ⟨_, rfl⟩
  have hRU : U.heap[R]? = some (.cells #[.slice none 0 0, .slice none 0 0, .int .i64 0, .slice none 0 0] 30 (0, 0)) := by
    rw [hU, heap_setCell_same _ _ _ _ _ _ (heap_setCell_same _ _ _ _ _ _ (heap_setCell_same _ _ _ _ _ _ (heap_setCell_same _ _ _ _ _ _ hRY)))]
    rfl
  have HBU : Hid (Below w.heap.size w U) := by
    have hr : w.heap.size ≤ R := by rw [HRE.out]; exact Nat.le_refl _
    show Below ..; rw [hU]
    exact (((hBY.setCell (p := ⟨R, 0, none⟩) hr _).setCell (p := ⟨R, 1, none⟩) hr _).setCell (p := ⟨R, 2, none⟩) hr _).setCell (p := ⟨R, 3, none⟩) hr _
  have HUE : Hid (U = (((Y.setCell ⟨R, 0, none⟩ (.slice none 0 0)).setCell ⟨R, 1, none⟩ (.slice none 0 0)).setCell ⟨R, 2, none⟩ (.int .i64 0)).setCell ⟨R, 3, none⟩ (.slice none 0 0)) := hU
  have zR := ltHeap hRY
  have r0 := cellAt hRY 0 _ rfl
  have r1 := cellAt hRY 1 _ rfl
  have r2 := cellAt hRY 2 _ rfl
  have r3 := cellAt hRY 3 _ rfl
  have e0 : Y.frozen? ⟨R, 0, none⟩ = false := frozen_of_row _ _ _ _ _ hRY
  have e1 : Y.frozen? ⟨R, 1, none⟩ = false := frozen_of_row _ _ _ _ _ hRY
  have e2 : Y.frozen? ⟨R, 2, none⟩ = false := frozen_of_row _ _ _ _ _ hRY
  have e3 : Y.frozen? ⟨R, 3, none⟩ = false := frozen_of_row _ _ _ _ _ hRY
  have q0 := cellAt hRU 0 _ rfl
  have q1 := cellAt hRU 1 _ rfl
  have q2 := cellAt hRU 2 _ rfl
  have q3 := cellAt hRU 3 _ rfl
  have zz := ltHeap hRU
  clear hy hRY hBY hU hRU
  go_wp2
  rw [← HUE.out]
  refine bodyPost_ret (v := .tuple #[.agg #[.slice none 0 0, .slice none 0 0, .int .i64 0, .slice none 0 0], .iface 191 (.pointer (some s))]) (by simp [results, Tryz.results21, go_sem, q0, q1, q2, q3, zz]) rfl ⟨rfl, HBU.out⟩
set_option maxHeartbeats 4000000 in
theorem cheap_ok (k r s : Nat) (w : World) (E : Nat → Addr) (hE : ErrsG w E) (h1 : 1 ≤ k) (h2 : 2 ≤ r) (h3 : k + r ≤ 16) (hs : s < k) :
    Calls Tryz.prog 21 #[.int .i64 k, .int .i64 r, .int .i64 s] w fun e w' => ∃ v, e = .returned (.tuple #[v, .nilIface]) ∧ ProgAt w' w.heap.size k r [2 * s, 2 * s + 1] [2 * s, 2 * s + 1] v ∧ Below w.heap.size w w' := by
  obtain ⟨R, hR⟩ : ∃ R, R = w.heap.size := ⟨_, rfl⟩
  obtain ⟨W0, hW0⟩ : ∃ W0, W0 = w.alloc (.cells #[.slice none 0 0, .slice none 0 0, .int .i64 0, .slice none 0 0] 30) := ⟨_, rfl⟩
  obtain ⟨p, hp⟩ : ∃ p, p = 2 * s := ⟨_, rfl⟩
  obtain ⟨q, hq⟩ : ∃ q, q = 2 * s + 1 := ⟨_, rfl⟩
  have hpI : 2 * (s : Int) = (p : Int) := by omega
  have hqI : 2 * (s : Int) + 1 = (q : Int) := by omega
  have hqp : (p : Int) + 1 = (q : Int) := by omega
  obtain ⟨W1, hW1⟩ : ∃ W1, W1 = W0.alloc (.cells #[.int .i64 p, .int .i64 q] 3) := ⟨_, rfl⟩
  obtain ⟨Q, hQ⟩ : ∃ Q, Q = W0.heap.size := ⟨_, rfl⟩
  have hb0 : Below w.heap.size w W0 := by rw [hW0]; exact (Below.refl _ _).alloc (Nat.le_refl _) _
  have hs0 : W0.heap.size = w.heap.size + 1 := by rw [hW0]; simp
  have hr0 : W0.heap[R]? = some (.cells #[.slice none 0 0, .slice none 0 0, .int .i64 0, .slice none 0 0] 30 (0, 0)) := by rw [hW0, hR]; exact heap_alloc_last _ _
  have hb1 : Below W0.heap.size W0 W1 := by rw [hW1]; exact (Below.refl _ _).alloc (Nat.le_refl _) _
  have hq1 : W1.heap[Q]? = some (.cells #[.int .i64 p, .int .i64 q] 3 (0, 0)) := by rw [hW1, hQ]; exact heap_alloc_last _ _
  have hrow : RowI W1 (some ⟨Q, 0, none⟩) (natJ8 [p, q]) := .inr ⟨Q, 0, rfl, fun j n hj => by
    have hj2 : j < 2 := by have := (List.getElem?_eq_some_iff.1 hj).1; simpa [natJ8] using this
    have : j = 0 ∨ j = 1 := by omega
    rcases this with rfl | rfl
    · obtain rfl : (p : Int) = n := by simpa [natJ8] using hj
      exact cellAt hq1 0 _ rfl
    · obtain rfl : (q : Int) = n := by simpa [natJ8] using hj
      exact cellAt hq1 1 _ rfl⟩
  have hb01 : Below w.heap.size w W1 := hb0.trans (hb1.mono hb0.size)
  have hgone : goneB k (2 * (k + r)) (carN (groupN k r)) [p, q] = false := by rw [hp, hq]; exact gone_none (by omega) (by omega)
  have HC : Hid _ := compile_ok k r 2 2 (some ⟨Q, 0, none⟩) [p, q] W1 E (errsG_below hE hb01) h1 h2 h3 rfl (Nat.le_refl _) (fun h => by cases h) hrow (by simp; omega) (by simp; omega) hgone
  have HCA : Hid _ := fun u => hcarrier_ok k r s u h1 h2 h3 hs
  rw [← hq, ← hp]
  have HB0 : Hid (Below w.heap.size w W0) := hb0
  have HB1 : Hid (Below w.heap.size w W1) := hb01
  have HS1 : Hid (R < W1.heap.size ∧ w.heap.size ≤ W1.heap.size) := ⟨by have := hb1.size; omega, hb01.size⟩
  have HR1 : Hid (W1.heap[R]? = some (.cells #[.slice none 0 0, .slice none 0 0, .int .i64 0, .slice none 0 0] 30 (0, 0))) := heap_later hr0 hb1
  have HWE : Hid (W0 = w.alloc (.cells #[.slice none 0 0, .slice none 0 0, .int .i64 0, .slice none 0 0] 30)) := hW0
  have HW1E : Hid (W1 = W0.alloc (.cells #[.int .i64 p, .int .i64 q] 3)) := hW1
  have HQE : Hid (Q = W0.heap.size) := hQ
  have HRE : Hid (R = w.heap.size) := hR
  clear hE hR hW0 hW1 hQ hb0 hs0 hr0 hb1 hq1 hrow hb01 hgone hp hq
  go_enter Tryz.func21, Tryz.ntmps21
  go_upto_region 1 with fail
  rw [← HWE.out, ← HRE.out]
  go_wp2_with fail
  refine Calls.mono (HCA.out _) ?_
  rintro e Y0 ⟨rfl, rfl⟩
  go_wp2_with fail
  rw [← HW1E.out, ← HQE.out]
  refine Calls.mono HC.out ?_
  rintro e Y9 ⟨v9, rfl, ⟨ia, ic, oa, oc, ta, tc, tl, I, ss, rfl, hpw, hup, hmd⟩, hy9⟩
  have hRY := heap_later HR1.out hy9
  have hBY : Below w.heap.size w Y9 := HB1.out.trans (hy9.mono HB1.out.size)
  obtain ⟨il, hil⟩ : ∃ il, il = I.length := ⟨_, rfl⟩
  rw [← hil] at hpw
  rw [← hil]
  have e2 : [p, q].length = 2 := rfl
  have e3 : (([p, q].length + 1 : Nat) : Int) = 3 := rfl
  rw [e2] at hpw
  rw [e3, e2]
  obtain ⟨U, hU⟩ : ∃ U, U = (((Y9.setCell ⟨R, 0, none⟩ (.slice ia il ic)).setCell ⟨R, 1, none⟩ (.slice oa 2 oc)).setCell ⟨R, 2, none⟩ (.int .i64 3)).setCell ⟨R, 3, none⟩ (.slice ta tl tc) := ⟨_, rfl⟩
  have hgU : Y9.grownBy U (some R) := by rw [hU]; exact grownBy_setCell (grownBy_setCell (grownBy_setCell (grownBy_setCell (World.grownBy.refl _ _) _) _) _) _
  have HPU : Hid (PrgW U ia oa ta il ic 2 oc tl tc (natJ8 I) (natJ8 [p, q]) ss) := hpw.grownO hgU hup HS1.out.1
  have HUP : Hid (PrgUp w.heap.size ia oa ta) := hup.mono HS1.out.2
  have HMD : Hid (MadeP k r [p, q] [p, q] I ss) := hmd
  have hRU : U.heap[R]? = some (.cells #[.slice ia il ic, .slice oa 2 oc, .int .i64 3, .slice ta tl tc] 30 (0, 0)) := by
    rw [hU, heap_setCell_same _ _ _ _ _ _ (heap_setCell_same _ _ _ _ _ _ (heap_setCell_same _ _ _ _ _ _ (heap_setCell_same _ _ _ _ _ _ hRY)))]
    rfl
  have HBU : Hid (Below w.heap.size w U) := by
    have hr : w.heap.size ≤ R := by rw [HRE.out]; exact Nat.le_refl _
    show Below ..; rw [hU]
    exact (((hBY.setCell (p := ⟨R, 0, none⟩) hr _).setCell (p := ⟨R, 1, none⟩) hr _).setCell (p := ⟨R, 2, none⟩) hr _).setCell (p := ⟨R, 3, none⟩) hr _
  have HUE : Hid (U = (((Y9.setCell ⟨R, 0, none⟩ (.slice ia il ic)).setCell ⟨R, 1, none⟩ (.slice oa 2 oc)).setCell ⟨R, 2, none⟩ (.int .i64 3)).setCell ⟨R, 3, none⟩ (.slice ta tl tc)) := hU
  have HILE : Hid (il = I.length) := hil
  have zR := ltHeap hRY
  have r0 := cellAt hRY 0 _ rfl
  have r1 := cellAt hRY 1 _ rfl
  have r2 := cellAt hRY 2 _ rfl
  have r3 := cellAt hRY 3 _ rfl
  have e0 : Y9.frozen? ⟨R, 0, none⟩ = false := frozen_of_row _ _ _ _ _ hRY
  have e1 : Y9.frozen? ⟨R, 1, none⟩ = false := frozen_of_row _ _ _ _ _ hRY
  have e2 : Y9.frozen? ⟨R, 2, none⟩ = false := frozen_of_row _ _ _ _ _ hRY
  have e3 : Y9.frozen? ⟨R, 3, none⟩ = false := frozen_of_row _ _ _ _ _ hRY
  have q0 := cellAt hRU 0 _ rfl
  have q1 := cellAt hRU 1 _ rfl
  have q2 := cellAt hRU 2 _ rfl
  have q3 := cellAt hRU 3 _ rfl
  have zz := ltHeap hRU
  clear hpw hup hmd hy9 hRY hBY hil hU hgU hRU
  go_wp2
  rw [← HUE.out]
  refine bodyPost_ret (v := .tuple #[.agg #[.slice ia il ic, .slice oa 2 oc, .int .i64 3, .slice ta tl tc], .nilIface]) (by simp [results, Tryz.results21, go_sem, q0, q1, q2, q3, zz]) rfl ⟨_, rfl, ⟨ia, ic, oa, oc, ta, tc, tl, I, ss, ?_, ?_, HUP.out, HMD.out⟩, HBU.out⟩
  · rw [← HILE.out]; rfl
  · rw [← HILE.out]; exact HPU.out
end Go.Proofs.YtkoakingmnjdoaaGreatDoor

/- What the document's own Parity and Generator answer, of all legal numbers; nothing that was there turns. -/
namespace Go.Proofs.YtkoakingmnjdoaaGreatDoor
open Go.RowKit Gf
set_option linter.unusedVariables false
set_option maxRecDepth 20000
theorem rcy_inv (w : World) {s j : Nat} {x : F} (hx : x = ga (elN s) (elN j)) (hs : s < 256) (hj : j < 256) (hne : s ≠ j) :
    Calls Tryz.prog 54 #[.int .u8 (x.toNat : Int)] w fun e w' => e = .returned (.tuple #[.int .u8 ((cyN s j).toNat : Int), .bool true]) ∧ w = w' := by
  subst hx
  exact rinv_yes (ga_ne fun e => hne (elN_inj hs hj e)) w
theorem xor_el64 {s j : Nat} (hs : s < 256) (hj : j < 256) : bits .xor .i64 (s : Int) (j : Int) = ((ga (elN s) (elN j)).toNat : Int) := by
  rw [i64_xor_nat s j (by omega) (by omega), F.val_add, elN, elN, toNat_of hs, toNat_of hj]
set_option maxHeartbeats 4000000 in
theorem rparity_F (k r : Nat) (w : World) (h1 : 1 ≤ k) (h2 : 2 ≤ r) (h3 : k + r ≤ 16) :
    Calls Tryz.prog 76 #[.int .i64 k, .int .i64 r] w fun e w' => ∃ g m, e = .returned (.agg #[.int .i64 r, .int .i64 k, .slice (some ⟨g, 0, none⟩) m m]) ∧ m = r * k ∧ w.heap.size ≤ g ∧
      w'.heap[g]? = some (.cells (vfs (parM k r)) 5 (0, 0)) ∧ Below w.heap.size w w' := by
  go_enter Tryz.func76, Tryz.ntmps76
  go_wp2_with fail
  refine Calls.mono (rzero_F r k _ (by omega) (by omega)) ?_
  rintro e w2 ⟨g, m, rfl, hm, hg, hh, hb2⟩
  have hA := holds_later (holds_new (holds_nil w) #[.int .i64 0, .int .i64 0, .slice none 0 0] 73) hb2
  have z0 := ltHeap (holds_at hA 0 rfl)
  have zg : g < w2.heap.size := ltHeap hh
  simp only [World.size_alloc] at hg
  have HM : Hid _ := hm
  have HB' : Hid (Below w.heap.size w w2) := ((Below.refl w.heap.size w).alloc (Nat.le_refl _) _).trans (hb2.mono (by simp))
  have hA := holds_new (holds_cons hA hh) #[.int .i64 r, .int .i64 k, .slice (some ⟨g, 0, none⟩) m m] 73
  have HA : Hid _ := hA
  have B4 : Hid (Below w.heap.size w (w2.alloc (.cells #[.int .i64 r, .int .i64 k, .slice (some ⟨g, 0, none⟩) m m] 73))) := HB'.out.alloc (by omega) _
  clear hm hh hb2 hA HB'
  go_wp2
  generalize hM : w2.heap.size = M at *
  generalize (w2.alloc (.cells #[.int .i64 r, .int .i64 k, .slice (some ⟨g, 0, none⟩) m m] 73)) = W3 at *
  clear hM
  go_loopw [6] (fun i wr => ∃ a : Nat, a ≤ r ∧ i = .int .i64 a ∧ W3.grownBy wr (some g) ∧ wr.heap[g]? = some (.cells (vfs (gridP k (fun i j => cyN (k + i) j) r a 0)) 5 (0, 0))) (fun i _ => r - (intOf i).toNat)
  case atStart => exact ⟨0, by omega, rfl, World.grownBy.refl _ _, by rw [← gridP_zero]; exact holds_at HA.out 1 rfl⟩
  case round =>
    obtain ⟨a, ha, rfl, hgb, hs⟩ := hrel
    have HGB : Hid _ := hgb
    have HS : Hid _ := hs
    by_cases hlt : a < r
    · clear hgb hs
      go_wp2
      go_loopw [7] (fun i wq => ∃ j : Nat, j ≤ k ∧ i = .int .i64 j ∧ W3.grownBy wq (some g) ∧ wq.heap[g]? = some (.cells (vfs (gridP k (fun i j => cyN (k + i) j) r a j)) 5 (0, 0))) (fun i _ => k - (intOf i).toNat)
      case atStart => exact ⟨0, by omega, rfl, HGB.out, HS.out⟩
      case round =>
        obtain ⟨j, hj, rfl, hgb, hs⟩ := hrel
        by_cases hltj : j < k
        · have c1 : ∀ u, W3.grownBy u (some g) → u.cell? ⟨M, 2, none⟩ = some (.slice (some ⟨g, 0, none⟩) m m) := fun u h => cellAt (grown_block h (holds_at HA.out 0 rfl) (by omega)) 2 _ rfl
          obtain ⟨p, hp⟩ : ∃ p, p = a * k := ⟨_, rfl⟩
          have h1' := place_lt (c := k) hlt hltj
          have m1 : (a : Int) * (k : Int) = (p : Int) := by rw [hp]; simp
          have e1 : p + j < m := by rw [hp, HM.out]; exact h1'
          have n1 : m ≤ 4096 := by have := mul_small (r := r) (c := k) (by omega) (by omega); have := HM.out; have e : (r : Int) * (k : Int) = ((r * k : Nat) : Int) := by simp
                                   omega
          obtain ⟨x, hx⟩ : ∃ x, x = ga (elN (k + a)) (elN j) := ⟨_, rfl⟩
          have ex : bits .xor .i64 ((k : Int) + a) (j : Int) = (x.toNat : Int) := by
            have := xor_el64 (s := k + a) (j := j) (by omega) (by omega)
            rw [hx, ← this]; simp
          have hxb : (x.toNat : Int) < 256 := by have := bl x; omega
          have HX : Hid _ := hx
          have hs' : (wr.drew).heap[g]? = some (.cells (vfs (gridP k (fun i j => cyN (k + i) j) r a j)) 5 (0, 0)) := hs
          have c6 := cellAt hs' _ _ (vfs_get _ _ (show p + j < (gridP k (fun i j => cyN (k + i) j) r a j).length by rw [gridP_len, ← HM.out]; exact e1))
          have c7 : (wr.drew).frozen? ⟨g, p + j, none⟩ = false := frozen_of_row _ _ _ _ _ hs'
          have HS2 : Hid _ := hs'
          have HT : Hid _ := gridP_step (f := fun i j => cyN (k + i) j) hlt hltj
          have HP : Hid _ := hp
          have HGB2 : Hid _ := hgb
          have w1 : IntKind.i64.wrap (p : Int) = p := IntWalk.i64_in _ (by omega)
          have w2 : IntKind.i64.wrap ((p : Int) + j) = (p : Int) + j := IntWalk.i64_in _ (by omega)
          have w3 : IntKind.i64.wrap ((k : Int) + a) = (k : Int) + a := IntWalk.i64_in _ (by omega)
          have w4 : IntKind.u8.wrap (x.toNat : Int) = x.toNat := by have := bl x; exact IntWalk.u8_in _ (by omega)
          have w5 : 0 ≤ (p : Int) + j ∧ (p : Int) + j < m := by omega
          have w6 : ((p : Int) + j).toNat = p + j := by omega
          clear hs hs' hx hp h1' hgb
          go_wp2
          -- REGION
          refine wp_region_noPanic ?_
          refine wp_region_held_drew (S := fun u => W3.grownBy u (some g)) (by kernel_rfl) ?_ (fun hHeld => ?_)
          · exact grownBy_drew HGB2.out
          refine wpAnyH_take (i := 0) (oi := { dst := some 22, op := Op.fieldAddr 73 (Operand.tmp 5) 2, type := 0, pos := "ref.go:27", after := #[], guard := none }) (v := ?_) rfl (by kernel_rfl) (by kernel_rfl) (by kernel_rfl) (fun _ _ _ h => h) (Or.inl ⟨by rfl, ?_⟩) hHeld ?_
          rotate_left
          · intro u hSw
            go_simp
            try with_reducible rfl
          try simp only [Act.put, List.setIfInBounds_toArray, List.set_cons_zero, List.set_cons_succ]
          refine wpAnyH_take (i := 1) (oi := { dst := some 23, op := Op.load 23 (Operand.tmp 22), type := 23, pos := "ref.go:27", after := #[{ on := 0, ground := Ground.data }], guard := none }) (v := ?_) rfl (by kernel_rfl) (by kernel_rfl) (by kernel_rfl) (fun _ _ _ h => h) (Or.inl ⟨by rfl, ?_⟩) hHeld ?_
          rotate_left
          · intro u hSw
            have c9 := c1 u hSw
            go_simp
            try with_reducible rfl
          try simp only [Act.put, List.setIfInBounds_toArray, List.set_cons_zero, List.set_cons_succ]
          refine wpAnyH_take (i := 2) (oi := { dst := some 24, op := Op.move (Operand.tmp 6), type := 3, pos := "ref.go:27", after := #[], guard := none }) (v := ?_) rfl (by kernel_rfl) (by kernel_rfl) (by kernel_rfl) (fun _ _ _ h => h) (Or.inl ⟨by rfl, ?_⟩) hHeld ?_
          rotate_left
          · intro u hSw
            go_simp
            try with_reducible rfl
          try simp only [Act.put, List.setIfInBounds_toArray, List.set_cons_zero, List.set_cons_succ]
          refine wpAnyH_take (i := 3) (oi := { dst := some 25, op := Op.move (Operand.tmp 0), type := 3, pos := "ref.go:27", after := #[], guard := none }) (v := ?_) rfl (by kernel_rfl) (by kernel_rfl) (by kernel_rfl) (fun _ _ _ h => h) (Or.inl ⟨by rfl, ?_⟩) hHeld ?_
          rotate_left
          · intro u hSw
            go_simp
            try with_reducible rfl
          try simp only [Act.put, List.setIfInBounds_toArray, List.set_cons_zero, List.set_cons_succ]
          refine wpAnyH_take (i := 4) (oi := { dst := some 26, op := Op.binOp BinOp.mul 3 (Operand.tmp 24) (Operand.tmp 25) 3, type := 3, pos := "ref.go:27", after := #[{ on := 2, ground := Ground.data }, { on := 3, ground := Ground.data }], guard := none }) (v := ?_) rfl (by kernel_rfl) (by kernel_rfl) (by kernel_rfl) (fun _ _ _ h => h) (Or.inl ⟨by rfl, ?_⟩) hHeld ?_
          rotate_left
          · intro u hSw
            go_simp
            try with_reducible rfl
          try simp only [Act.put, List.setIfInBounds_toArray, List.set_cons_zero, List.set_cons_succ]
          refine wpAnyH_take (i := 5) (oi := { dst := some 27, op := Op.move (Operand.tmp 7), type := 3, pos := "ref.go:27", after := #[], guard := none }) (v := ?_) rfl (by kernel_rfl) (by kernel_rfl) (by kernel_rfl) (fun _ _ _ h => h) (Or.inl ⟨by rfl, ?_⟩) hHeld ?_
          rotate_left
          · intro u hSw
            go_simp
            try with_reducible rfl
          try simp only [Act.put, List.setIfInBounds_toArray, List.set_cons_zero, List.set_cons_succ]
          refine wpAnyH_take (i := 6) (oi := { dst := some 28, op := Op.binOp BinOp.add 3 (Operand.tmp 26) (Operand.tmp 27) 3, type := 3, pos := "ref.go:27", after := #[{ on := 4, ground := Ground.data }, { on := 5, ground := Ground.data }], guard := none }) (v := ?_) rfl (by kernel_rfl) (by kernel_rfl) (by kernel_rfl) (fun _ _ _ h => h) (Or.inl ⟨by rfl, ?_⟩) hHeld ?_
          rotate_left
          · intro u hSw
            go_simp
            try with_reducible rfl
          try simp only [Act.put, List.setIfInBounds_toArray, List.set_cons_zero, List.set_cons_succ]
          refine wpAnyH_take (i := 7) (oi := { dst := some 29, op := Op.move (Operand.tmp 0), type := 3, pos := "ref.go:27", after := #[], guard := none }) (v := ?_) rfl (by kernel_rfl) (by kernel_rfl) (by kernel_rfl) (fun _ _ _ h => h) (Or.inl ⟨by rfl, ?_⟩) hHeld ?_
          rotate_left
          · intro u hSw
            go_simp
            try with_reducible rfl
          try simp only [Act.put, List.setIfInBounds_toArray, List.set_cons_zero, List.set_cons_succ]
          refine wpAnyH_take (i := 8) (oi := { dst := some 30, op := Op.move (Operand.tmp 6), type := 3, pos := "ref.go:27", after := #[], guard := none }) (v := ?_) rfl (by kernel_rfl) (by kernel_rfl) (by kernel_rfl) (fun _ _ _ h => h) (Or.inl ⟨by rfl, ?_⟩) hHeld ?_
          rotate_left
          · intro u hSw
            go_simp
            try with_reducible rfl
          try simp only [Act.put, List.setIfInBounds_toArray, List.set_cons_zero, List.set_cons_succ]
          refine wpAnyH_take (i := 9) (oi := { dst := some 31, op := Op.binOp BinOp.add 3 (Operand.tmp 29) (Operand.tmp 30) 3, type := 3, pos := "ref.go:27", after := #[{ on := 7, ground := Ground.data }, { on := 8, ground := Ground.data }], guard := none }) (v := ?_) rfl (by kernel_rfl) (by kernel_rfl) (by kernel_rfl) (fun _ _ _ h => h) (Or.inl ⟨by rfl, ?_⟩) hHeld ?_
          rotate_left
          · intro u hSw
            go_simp
            try with_reducible rfl
          try simp only [Act.put, List.setIfInBounds_toArray, List.set_cons_zero, List.set_cons_succ]
          refine wpAnyH_take (i := 10) (oi := { dst := some 32, op := Op.move (Operand.tmp 7), type := 3, pos := "ref.go:27", after := #[], guard := none }) (v := ?_) rfl (by kernel_rfl) (by kernel_rfl) (by kernel_rfl) (fun _ _ _ h => h) (Or.inl ⟨by rfl, ?_⟩) hHeld ?_
          rotate_left
          · intro u hSw
            go_simp
            try with_reducible rfl
          try simp only [Act.put, List.setIfInBounds_toArray, List.set_cons_zero, List.set_cons_succ]
          refine wpAnyH_take (i := 11) (oi := { dst := some 33, op := Op.binOp BinOp.xor 3 (Operand.tmp 31) (Operand.tmp 32) 3, type := 3, pos := "ref.go:27", after := #[{ on := 9, ground := Ground.data }, { on := 10, ground := Ground.data }], guard := none }) (v := ?_) rfl (by kernel_rfl) (by kernel_rfl) (by kernel_rfl) (fun _ _ _ h => h) (Or.inl ⟨by rfl, ?_⟩) hHeld ?_
          rotate_left
          · intro u hSw
            go_simp
            try with_reducible rfl
          try simp only [Act.put, List.setIfInBounds_toArray, List.set_cons_zero, List.set_cons_succ]
          refine wpAnyH_take (i := 12) (oi := { dst := some 34, op := Op.convert 3 5 (Operand.tmp 33), type := 5, pos := "ref.go:27", after := #[{ on := 11, ground := Ground.data }], guard := none }) (v := ?_) rfl (by kernel_rfl) (by kernel_rfl) (by kernel_rfl) (fun _ _ _ h => h) (Or.inl ⟨by rfl, ?_⟩) hHeld ?_
          rotate_left
          · intro u hSw
            go_simp
            try with_reducible rfl
          try simp only [Act.put, List.setIfInBounds_toArray, List.set_cons_zero, List.set_cons_succ]
          refine wpAnyH_ready (rs := [13]) (by kernel_rfl) (by simp) ?_
          refine AllReadyH.cons (o := { dst := some 35, op := Op.call { callee := Callee.value (Operand.func 54), args := #[Operand.tmp 34], argTypes := #[5] }, type := 92, pos := "ref.go:27", after := #[{ on := 12, ground := Ground.data }], guard := none }) rfl (fun K hK => ?_) AllReadyH.nil
          go_simp
          refine Calls.mono (rcy_inv _ HX.out (by omega) (by omega) (by omega)) ?_
          rintro e w' ⟨rfl, rfl⟩
          go_wp2_with fail
          refine hK.out _ _ ?_ (fun hHeld => ?_)
          · exact grownBy_drew HGB2.out
          clear hK K
          try simp only [Act.put, List.setIfInBounds_toArray, List.set_cons_zero, List.set_cons_succ]
          refine wpAnyH_take (i := 14) (oi := { dst := some 21, op := Op.move (Operand.tmp 35), type := 92, pos := "ref.go:27", after := #[{ on := 13, ground := Ground.data }], guard := none }) (v := ?_) rfl (by kernel_rfl) (by kernel_rfl) (by kernel_rfl) (fun _ _ _ h => h) (Or.inl ⟨by rfl, ?_⟩) hHeld ?_
          rotate_left
          · intro u hSw
            go_simp
            try with_reducible rfl
          try simp only [Act.put, List.setIfInBounds_toArray, List.set_cons_zero, List.set_cons_succ]
          refine wpAnyH_take (i := 15) (oi := { dst := some 36, op := Op.extract (Operand.tmp 21) 0, type := 5, pos := "ref.go:27", after := #[{ on := 14, ground := Ground.data }], guard := none }) (v := ?_) rfl (by kernel_rfl) (by kernel_rfl) (by kernel_rfl) (fun _ _ _ h => h) (Or.inl ⟨by rfl, ?_⟩) hHeld ?_
          rotate_left
          · intro u hSw
            go_simp
            try with_reducible rfl
          try simp only [Act.put, List.setIfInBounds_toArray, List.set_cons_zero, List.set_cons_succ]
          refine wpAnyH_take (i := 16) (oi := { dst := some 37, op := Op.extract (Operand.tmp 21) 1, type := 4, pos := "ref.go:27", after := #[{ on := 14, ground := Ground.data }, { on := 18, ground := Ground.gcOnly Departure.lateStores }], guard := none }) (v := ?_) rfl (by kernel_rfl) (by kernel_rfl) (by kernel_rfl) (fun _ _ _ h => h) (Or.inl ⟨by rfl, ?_⟩) hHeld ?_
          rotate_left
          · intro u hSw
            go_simp
            try with_reducible rfl
          try simp only [Act.put, List.setIfInBounds_toArray, List.set_cons_zero, List.set_cons_succ]
          refine wpAnyH_take (i := 17) (oi := { dst := some 38, op := Op.indexAddr 23 (Operand.tmp 23) (Operand.tmp 28), type := 0, pos := "ref.go:27", after := #[{ on := 1, ground := Ground.data }, { on := 6, ground := Ground.data }, { on := 0, ground := Ground.phase }, { on := 1, ground := Ground.phase }, { on := 2, ground := Ground.phase }, { on := 3, ground := Ground.phase }, { on := 4, ground := Ground.phase }, { on := 5, ground := Ground.phase }, { on := 6, ground := Ground.phase }, { on := 7, ground := Ground.phase }, { on := 8, ground := Ground.phase }, { on := 9, ground := Ground.phase }, { on := 10, ground := Ground.phase }, { on := 11, ground := Ground.phase }, { on := 12, ground := Ground.phase }, { on := 13, ground := Ground.phase }, { on := 14, ground := Ground.phase }, { on := 15, ground := Ground.phase }, { on := 16, ground := Ground.textOnly Departure.lateStores }], guard := none }) (v := ?_) rfl (by kernel_rfl) (by kernel_rfl) (by kernel_rfl) (fun _ _ _ h => h) (Or.inl ⟨by rfl, ?_⟩) hHeld ?_
          rotate_left
          · intro u hSw
            go_simp
            try with_reducible rfl
          try simp only [Act.put, List.setIfInBounds_toArray, List.set_cons_zero, List.set_cons_succ]
          refine wpAnyH_ready (rs := [18]) (by kernel_rfl) (by simp) ?_
          refine AllReadyH.cons (o := { dst := none, op := Op.store 5 (Operand.tmp 38) (Operand.tmp 36), type := 0, pos := "ref.go:27", after := #[{ on := 17, ground := Ground.data }, { on := 15, ground := Ground.data }, { on := 13, ground := Ground.chain }, { on := 0, ground := Ground.phase }, { on := 1, ground := Ground.phase }, { on := 2, ground := Ground.phase }, { on := 3, ground := Ground.phase }, { on := 4, ground := Ground.phase }, { on := 5, ground := Ground.phase }, { on := 6, ground := Ground.phase }, { on := 7, ground := Ground.phase }, { on := 8, ground := Ground.phase }, { on := 9, ground := Ground.phase }, { on := 10, ground := Ground.phase }, { on := 11, ground := Ground.phase }, { on := 12, ground := Ground.phase }, { on := 13, ground := Ground.phase }, { on := 14, ground := Ground.phase }, { on := 15, ground := Ground.phase }, { on := 16, ground := Ground.textOnly Departure.lateStores }], guard := none }) rfl (fun K hK => ?_) AllReadyH.nil
          go_simp
          refine hK.out _ _ ?_ (fun hHeld => ?_)
          · exact grownBy_setCell (grownBy_drew HGB2.out) _
          clear hK K
          try simp only [Act.put, List.setIfInBounds_toArray, List.set_cons_zero, List.set_cons_succ]
          refine wpAnyH_done (by kernel_rfl) ?_ _
          refine NoPanic.normal ?_
          -- END REGION
          go_wp2
          refine ⟨⟨j + 1, by omega, by go_num, grownBy_setCell (grownBy_drew HGB2.out) _, ?_⟩, by simp [intOf]; omega⟩
          show (wr.setCell ⟨g, p + j, none⟩ (.int .u8 ((cyN (k + a) j).toNat : Int))).heap[g]? = _
          rw [heap_setCell_same wr _ _ _ _ _ HS2.out, vfs_set, ← HT.out, HP.out]
        · obtain rfl : j = k := by omega
          rw [gridP_row] at hs
          have HGB2 : Hid _ := hgb
          have HS4 : Hid _ := hs
          clear hgb hs
          go_wp2
          exact ⟨⟨a + 1, by omega, by go_num, HGB2.out, HS4.out⟩, by simp [intOf]; omega⟩
    · obtain rfl : a = r := by omega
      rw [gridP_done] at hs
      have HGB2 : Hid _ := hgb
      have HS2 : Hid _ := hs
      have k0 := grown_block hgb (holds_at HA.out 0 rfl) (by omega)
      have k1 := grown_block hgb (holds_at HA.out 2 rfl) (by omega)
      have c2 := cellAt k0 0 _ rfl
      have c3 := cellAt k0 1 _ rfl
      have c7 := cellAt k0 2 _ rfl
      have c4 := cellAt k1 0 _ rfl
      have c5 := cellAt k1 1 _ rfl
      have c6 := cellAt k1 2 _ rfl
      have d4 : wr.frozen? ⟨w.heap.size, 0, none⟩ = false := frozen_of_row _ _ _ _ _ k1
      have d5 : wr.frozen? ⟨w.heap.size, 1, none⟩ = false := frozen_of_row _ _ _ _ _ k1
      have d6 : wr.frozen? ⟨w.heap.size, 2, none⟩ = false := frozen_of_row _ _ _ _ _ k1
      clear k0 k1 hgb hs
      go_wp2
      refine bodyPost_ret (v := .agg #[.int .i64 a, .int .i64 k, .slice (some ⟨g, 0, none⟩) m m]) (by simp [results, Tryz.results76, go_sem, c4, c5, c6]) rfl ⟨g, m, rfl, HM.out, by omega, ?_, ?_⟩
      · rw [heap_setCell_other _ _ _ _ (by show g ≠ w.heap.size; omega), heap_setCell_other _ _ _ _ (by show g ≠ w.heap.size; omega), heap_setCell_other _ _ _ _ (by show g ≠ w.heap.size; omega)]
        exact HS2.out
      · exact (((below_grown B4.out HGB2.out (by omega)).setCell (Nat.le_refl _) _).setCell (Nat.le_refl _) _).setCell (Nat.le_refl _) _
end Go.Proofs.YtkoakingmnjdoaaGreatDoor

/- What the document's own Row of package half's chapter answers, of all legal numbers; nothing that was there turns. -/
namespace Go.Proofs.YtkoakingmnjdoaaGreatDoor
open Go.RowKit Gf
set_option linter.unusedVariables false
set_option maxRecDepth 20000
theorem half_unit {k c s p : Nat} {car : Nat → Nat} (hc : c = 2 * k) (hs : s < k) (hp : p < 2) : (zeros c).set (2 * s + p) 1 = rowF c (halfF k car (2 * s + p)) := by
  rw [colP_zero c (halfF k car (2 * s + p)), colP, rowF_set]
  refine rowF_congr fun v hv => ?_
  by_cases e : v = 2 * s + p
  · rw [if_pos e, e]
    unfold halfF
    rw [if_pos rfl, show (2 * s + p) / 2 = s by omega, genF, if_pos hs, if_pos rfl]
  · rw [if_neg e, if_neg (Nat.not_lt_zero v)]
    simp only [halfF]
    rw [show (2 * s + p) / 2 = s by omega]
    by_cases h2 : v % 2 = (2 * s + p) % 2
    · rw [if_pos h2, genF, if_pos hs, if_neg (by omega)]
    · rw [if_neg h2, if_neg (by omega)]
set_option maxHeartbeats 4000000 in
theorem rrow_unit (k r h s p : Nat) (w : World) (h1 : 1 ≤ k) (h2 : 2 ≤ r) (h3 : k + r ≤ 16) (hh : h = 2 * s + p) (hp : p < 2) (hs : s < k) :
    Calls Tryz.prog 60 #[.int .i64 k, .int .i64 r, .int .i64 h] w fun e w' => ∃ g n, e = .returned (.slice (some ⟨g, 0, none⟩) n n) ∧ n = 2 * k ∧ w.heap.size ≤ g ∧
      w'.heap[g]? = some (.cells (vfs (rowF (2 * k) (halfF k (carN (groupN k r)) h))) 5 (0, 0)) ∧ Below w.heap.size w w' := by
  obtain ⟨c, hc⟩ : ∃ c, c = 2 * k := ⟨_, rfl⟩
  have ec : (2 : Int) * (k : Int) = c := by omega
  have hu := half_unit (car := carN (groupN k r)) hc hs hp
  rw [← hc, hh]
  rw [← hh]
  rw [← hh] at hu
  have HU : Hid _ := hu
  have e1 : (h : Int) / 2 = s := by omega
  have e2 : (h : Int) % 2 = p := by omega
  have hlt : h < c := by omega
  have hc32 : c ≤ 32 := by omega
  have hmk := run_make8 c (by omega)
  have HH : Hid _ := hh
  clear hc hu hh
  go_enter Tryz.func60, Tryz.ntmps60
  have B1 := heap_alloc_last w (.cells (vfs (zeros c)) 5)
  have HB : Hid _ := (Below.refl w.heap.size w).alloc (Nat.le_refl _) (.cells (vfs (zeros c)) 5)
  have c5 := cellAt B1 h _ (vfs_get _ _ (by rw [zeros_len]; exact hlt))
  have c6 := frozen_of_row _ w.heap.size h _ _ B1
  have HB1 : Hid _ := B1
  clear B1
  go_wp2
  go_ret
  refine ⟨w.heap.size, c, rfl, rfl, Nat.le_refl _, ?_, (Below.refl w.heap.size w).alloc (Nat.le_refl _) _⟩
  rw [← HU.out, ← vfs_set]
  exact heap_alloc_last w _
theorem parM_at {k r i j : Nat} (hi : i < r) (hj : j < k) : at8 (parM k r) (i * k + j) = cyN (k + i) j := at8_grid hi hj
theorem half_even {k h i q p : Nat} {car : Nat → Nat} (hh : h = 2 * (k + i) + p) (hp : p < 2) : halfF k car h (2 * q + p) = cyN (k + i) q := by
  simp only [halfF]
  rw [if_pos (by omega), show h / 2 = k + i by omega, show (2 * q + p) / 2 = q by omega, genF, if_neg (by omega)]
theorem half_odd {k h i q : Nat} {car : Nat → Nat} (hh : h = 2 * (k + i)) : halfF k car h (2 * q + 1) = 0 := by
  simp only [halfF]
  rw [if_neg (by omega), if_neg (by omega)]
theorem half_car {k h i q : Nat} {car : Nat → Nat} (hh : h = 2 * (k + i) + 1) : halfF k car h (2 * q) = if car q = i then 1 else 0 := by
  simp only [halfF]
  rw [if_neg (by omega), show h / 2 = k + i by omega, show 2 * q / 2 = q by omega]
  by_cases e : car q = i
  · rw [if_pos e, if_pos ⟨by omega, by omega, by omega⟩]
  · rw [if_neg e, if_neg (fun h => e (by omega))]
theorem colP_at {r j : Nat} {f : Nat → F} (h : j < r) (k : Nat) (hk : k ≤ j) : at8 (colP r f k) j = 0 := by
  rw [colP, at8_rowF h, if_neg (by omega)]
set_option maxHeartbeats 4000000 in
theorem rrow_0 (k r h i : Nat) (w : World) (h1 : 1 ≤ k) (h2 : 2 ≤ r) (h3 : k + r ≤ 16) (hh : h = 2 * (k + i) + 0) (hi : i < r) :
    Calls Tryz.prog 60 #[.int .i64 k, .int .i64 r, .int .i64 h] w fun e w' => ∃ g n, e = .returned (.slice (some ⟨g, 0, none⟩) n n) ∧ n = 2 * k ∧ w.heap.size ≤ g ∧
      w'.heap[g]? = some (.cells (vfs (rowF (2 * k) (halfF k (carN (groupN k r)) h))) 5 (0, 0)) ∧ Below w.heap.size w w' := by
  obtain ⟨c, hc⟩ : ∃ c, c = 2 * k := ⟨_, rfl⟩
  have ec : (2 : Int) * (k : Int) = c := by omega
  have HCA : Hid _ := fun j w (hj : j ≤ 1000) => rcarrier_F k r j w h1 h2 h3 hj
  generalize carN (groupN k r) = car at *
  rw [← hc]
  obtain ⟨s, hs⟩ : ∃ s, s = k + i := ⟨_, rfl⟩
  have e1 : (h : Int) / 2 = s := by omega
  have e2 : (h : Int) % 2 = 0 := by omega
  have e3 : (s : Int) - k = i := by omega
  have hks : (k : Int) ≤ s := by omega
  have hs16 : s ≤ 16 := by omega
  have hh33 : h ≤ 33 := by omega
  obtain ⟨ik, hik⟩ : ∃ ik, ik = i * k := ⟨_, rfl⟩
  have e4 : (i : Int) * k = ik := by rw [hik]; simp
  have hik2 : ik + k ≤ 256 := by
    have h4 := Nat.mul_le_mul (show i + 1 ≤ 16 by omega) (show k ≤ 16 by omega)
    rw [Nat.succ_mul] at h4; omega
  have hikr : ik + k ≤ r * k := by
    have h4 := Nat.mul_le_mul_right k (show i + 1 ≤ r by omega)
    rw [Nat.succ_mul] at h4; omega
  have hc32 : c ≤ 32 := by omega
  have hmk := run_make8 c (by omega)
  have HH : Hid _ := hh
  have HC : Hid _ := hc
  have HIK : Hid _ := hik
  have HIKR : Hid _ := hikr
  have HI : Hid _ := hi
  clear hc hh hs hik hikr hi
  go_enter Tryz.func60, Tryz.ntmps60
  go_wp2_with fail
  have B1 := heap_alloc_last w (.cells (vfs (zeros c)) 5)
  have HB : Hid _ := (Below.refl w.heap.size w).alloc (Nat.le_refl _) (.cells (vfs (zeros c)) 5)
  have HA : Hid (Holds (w.alloc (.cells (vfs (zeros c)) 5)) [(w.heap.size, .cells (vfs (zeros c)) 5 (0, 0))]) := holds_cons (holds_nil _) B1
  clear B1
  refine Calls.mono (rparity_F k r _ h1 h2 h3) ?_
  rintro e w2 ⟨g, m, rfl, hm, hg, hh2, hb2⟩
  have HA2 : Hid _ := holds_new (holds_cons (holds_later HA.out hb2) hh2) #[.int .i64 r, .int .i64 k, .slice (some ⟨g, 0, none⟩) m m] 73
  have hB2 := HB.out.trans (hb2.mono HB.out.size)
  have HB2 : Hid _ := hB2.alloc hB2.size (.cells #[.int .i64 r, .int .i64 k, .slice (some ⟨g, 0, none⟩) m m] 73)
  have HM : Hid _ := hm
  have hz := hB2.size
  have HGN : Hid (w.heap.size < g) := by simp only [World.size_alloc] at hg; exact hg
  clear hb2 hh2 hm hB2 HA HB hmk hg
  go_wp2
  generalize hMM : w2.heap.size = M at *
  generalize (w2.alloc (.cells #[.int .i64 r, .int .i64 k, .slice (some ⟨g, 0, none⟩) m m] 73)) = W3 at *
  clear hMM
  obtain ⟨f, hf⟩ : ∃ f, f = halfF k car h := ⟨_, rfl⟩
  have HF : Hid _ := hf
  clear hf
  go_loopw [11] (fun v wr => ∃ j : Nat, j ≤ k ∧ v = .int .i64 j ∧ Below w.heap.size w wr ∧ Holds wr [(M, .cells #[.int .i64 r, .int .i64 k, .slice (some ⟨g, 0, none⟩) m m] 73 (0, 0)), (g, .cells (vfs (parM k r)) 5 (0, 0)), (w.heap.size, .cells (vfs (colP c f (2 * j))) 5 (0, 0))]) (fun v _ => k - (intOf v).toNat)
  case atStart => exact ⟨0, by omega, rfl, HB2.out, by rw [Nat.mul_zero, ← colP_zero]; exact HA2.out⟩
  case round =>
    obtain ⟨j, hj, rfl, hb, hh⟩ := hrel
    have HB : Hid _ := hb
    have HH1 : Hid _ := hh
    clear hb hh
    by_cases hlt : j < k
    · have c1 := cellAt (holds_at HH1.out 0 rfl) 2 _ rfl
      have hjc : 2 * j < c := by have := HC.out; omega
      have c2 := cellAt (holds_at HH1.out 2 rfl) (2 * j) _ (vfs_get _ _ (by rw [colP_len]; exact hjc))
      rw [colP_at hjc (2 * j) (by omega)] at c2
      have hc2 : (((0 : F).toNat : Nat) : Int) = 0 := rfl
      rw [hc2] at c2
      have c3 := frozen_of_row _ w.heap.size (2 * j) _ _ (holds_at HH1.out 2 rfl)
      have hpa : at8 (parM k r) (ik + j) = cyN (k + i) j := by rw [HIK.out]; exact parM_at HI.out hlt
      have c4 := cellAt (holds_at HH1.out 1 rfl) (ik + j) _ (vfs_get _ _ (by have := HIKR.out; rw [parM_len]; omega))
      rw [hpa] at c4
      have hx := xor_val 0 (cyN (k + i) j)
      rw [hc2, show ga 0 (cyN (k + i) j) = cyN (k + i) j from F.zero_add _] at hx
      have hfo : f (2 * j) = cyN (k + i) j := by rw [HF.out]; exact half_even (q := j) HH.out (by decide)
      rw [← hfo] at c4 hx
      have HFO : Hid _ := hfo
      clear hpa hc2 hfo
      have hjm : ik + j < m := by have := HIKR.out; rw [HM.out]; omega
      go_upto_region 10 with fail
      go_region
      have hL : (colP c f (2 * j)).set (2 * j) (f (2 * j)) = colP c f (2 * (j + 1)) := by
        rw [colP_step, colP_skip (by rw [HF.out]; exact half_odd HH.out)]
        rfl
      have k1 : (wr.setCell ⟨w.heap.size, 2 * j, none⟩ (.int .u8 ((f (2 * j)).toNat : Int))).drew.heap[w.heap.size]? = some (.cells (vfs (colP c f (2 * (j + 1)))) 5 (0, 0)) := by
        rw [← hL, ← vfs_set]
        exact heap_setCell_same _ _ _ _ _ _ (holds_at HH1.out 2 rfl)
      have kA : (wr.setCell ⟨w.heap.size, 2 * j, none⟩ (.int .u8 ((f (2 * j)).toNat : Int))).drew.heap[M]? = some (.cells #[.int .i64 r, .int .i64 k, .slice (some ⟨g, 0, none⟩) m m] 73 (0, 0)) := (heap_setCell_other _ _ _ _ (hkind_ne (holds_at HH1.out 0 rfl) (holds_at HH1.out 2 rfl) (by decide))).trans (holds_at HH1.out 0 rfl)
      have kG : (wr.setCell ⟨w.heap.size, 2 * j, none⟩ (.int .u8 ((f (2 * j)).toNat : Int))).drew.heap[g]? = some (.cells (vfs (parM k r)) 5 (0, 0)) := (heap_setCell_other _ _ _ _ (by have := HGN.out; show g ≠ w.heap.size; omega)).trans (holds_at HH1.out 1 rfl)
      have HBx : Hid _ := (HB.out.setCell (p := ⟨w.heap.size, 2 * j, none⟩) (Nat.le_refl _) (.int .u8 ((f (2 * j)).toNat : Int))).drew
      have HHx : Hid _ := holds_cons (holds_cons (holds_cons (holds_nil _) k1) kG) kA
      clear k1 kA kG c1 c2 c3 c4 hx
      generalize (wr.setCell ⟨w.heap.size, 2 * j, none⟩ (.int .u8 ((f (2 * j)).toNat : Int))).drew = wx at *
      go_wp2
      exact ⟨⟨j + 1, by omega, by go_num, HBx.out, HHx.out⟩, by simp [intOf]; omega⟩
    · obtain rfl : j = k := by omega
      have k1 := holds_at HH1.out 2 rfl
      rw [← HC.out, colP_done, HF.out] at k1
      have HK1 : Hid _ := k1
      clear k1
      go_wp2
      go_ret
      exact ⟨w.heap.size, c, rfl, rfl, Nat.le_refl _, HK1.out, HB.out⟩
set_option maxHeartbeats 4000000 in
theorem rrow_1 (k r h i : Nat) (w : World) (h1 : 1 ≤ k) (h2 : 2 ≤ r) (h3 : k + r ≤ 16) (hh : h = 2 * (k + i) + 1) (hi : i < r) :
    Calls Tryz.prog 60 #[.int .i64 k, .int .i64 r, .int .i64 h] w fun e w' => ∃ g n, e = .returned (.slice (some ⟨g, 0, none⟩) n n) ∧ n = 2 * k ∧ w.heap.size ≤ g ∧
      w'.heap[g]? = some (.cells (vfs (rowF (2 * k) (halfF k (carN (groupN k r)) h))) 5 (0, 0)) ∧ Below w.heap.size w w' := by
  obtain ⟨c, hc⟩ : ∃ c, c = 2 * k := ⟨_, rfl⟩
  have ec : (2 : Int) * (k : Int) = c := by omega
  have HCA : Hid _ := fun j w (hj : j ≤ 1000) => rcarrier_F k r j w h1 h2 h3 hj
  generalize carN (groupN k r) = car at *
  rw [← hc]
  obtain ⟨s, hs⟩ : ∃ s, s = k + i := ⟨_, rfl⟩
  have e1 : (h : Int) / 2 = s := by omega
  have e2 : (h : Int) % 2 = 1 := by omega
  have e3 : (s : Int) - k = i := by omega
  have hks : (k : Int) ≤ s := by omega
  have hs16 : s ≤ 16 := by omega
  have hh33 : h ≤ 33 := by omega
  obtain ⟨ik, hik⟩ : ∃ ik, ik = i * k := ⟨_, rfl⟩
  have e4 : (i : Int) * k = ik := by rw [hik]; simp
  have hik2 : ik + k ≤ 256 := by
    have h4 := Nat.mul_le_mul (show i + 1 ≤ 16 by omega) (show k ≤ 16 by omega)
    rw [Nat.succ_mul] at h4; omega
  have hikr : ik + k ≤ r * k := by
    have h4 := Nat.mul_le_mul_right k (show i + 1 ≤ r by omega)
    rw [Nat.succ_mul] at h4; omega
  have hc32 : c ≤ 32 := by omega
  have hmk := run_make8 c (by omega)
  have HH : Hid _ := hh
  have HC : Hid _ := hc
  have HIK : Hid _ := hik
  have HIKR : Hid _ := hikr
  have HI : Hid _ := hi
  clear hc hh hs hik hikr hi
  go_enter Tryz.func60, Tryz.ntmps60
  go_wp2_with fail
  have B1 := heap_alloc_last w (.cells (vfs (zeros c)) 5)
  have HB : Hid _ := (Below.refl w.heap.size w).alloc (Nat.le_refl _) (.cells (vfs (zeros c)) 5)
  have HA : Hid (Holds (w.alloc (.cells (vfs (zeros c)) 5)) [(w.heap.size, .cells (vfs (zeros c)) 5 (0, 0))]) := holds_cons (holds_nil _) B1
  clear B1
  refine Calls.mono (rparity_F k r _ h1 h2 h3) ?_
  rintro e w2 ⟨g, m, rfl, hm, hg, hh2, hb2⟩
  have HA2 : Hid _ := holds_new (holds_cons (holds_later HA.out hb2) hh2) #[.int .i64 r, .int .i64 k, .slice (some ⟨g, 0, none⟩) m m] 73
  have hB2 := HB.out.trans (hb2.mono HB.out.size)
  have HB2 : Hid _ := hB2.alloc hB2.size (.cells #[.int .i64 r, .int .i64 k, .slice (some ⟨g, 0, none⟩) m m] 73)
  have HM : Hid _ := hm
  have hz := hB2.size
  have HGN : Hid (w.heap.size < g) := by simp only [World.size_alloc] at hg; exact hg
  clear hb2 hh2 hm hB2 HA HB hmk hg
  go_wp2
  generalize hMM : w2.heap.size = M at *
  generalize (w2.alloc (.cells #[.int .i64 r, .int .i64 k, .slice (some ⟨g, 0, none⟩) m m] 73)) = W3 at *
  clear hMM
  obtain ⟨f, hf⟩ : ∃ f, f = halfF k car h := ⟨_, rfl⟩
  have HF : Hid _ := hf
  clear hf
  go_loopw [11] (fun v wr => ∃ j : Nat, j ≤ k ∧ v = .int .i64 j ∧ Below w.heap.size w wr ∧ Holds wr [(M, .cells #[.int .i64 r, .int .i64 k, .slice (some ⟨g, 0, none⟩) m m] 73 (0, 0)), (g, .cells (vfs (parM k r)) 5 (0, 0)), (w.heap.size, .cells (vfs (colP c f (2 * j))) 5 (0, 0))]) (fun v _ => k - (intOf v).toNat)
  case atStart => exact ⟨0, by omega, rfl, HB2.out, by rw [Nat.mul_zero, ← colP_zero]; exact HA2.out⟩
  case round =>
    obtain ⟨j, hj, rfl, hb, hh⟩ := hrel
    have HB : Hid _ := hb
    have HH1 : Hid _ := hh
    clear hb hh
    by_cases hlt : j < k
    · have c1 := cellAt (holds_at HH1.out 0 rfl) 2 _ rfl
      have hjc : 2 * j + 1 < c := by have := HC.out; omega
      have c2 := cellAt (holds_at HH1.out 2 rfl) (2 * j + 1) _ (vfs_get _ _ (by rw [colP_len]; exact hjc))
      rw [colP_at hjc (2 * j) (by omega)] at c2
      have hc2 : (((0 : F).toNat : Nat) : Int) = 0 := rfl
      rw [hc2] at c2
      have c3 := frozen_of_row _ w.heap.size (2 * j + 1) _ _ (holds_at HH1.out 2 rfl)
      have hpa : at8 (parM k r) (ik + j) = cyN (k + i) j := by rw [HIK.out]; exact parM_at HI.out hlt
      have c4 := cellAt (holds_at HH1.out 1 rfl) (ik + j) _ (vfs_get _ _ (by have := HIKR.out; rw [parM_len]; omega))
      rw [hpa] at c4
      have hx := xor_val 0 (cyN (k + i) j)
      rw [hc2, show ga 0 (cyN (k + i) j) = cyN (k + i) j from F.zero_add _] at hx
      have hfo : f (2 * j + 1) = cyN (k + i) j := by rw [HF.out]; exact half_even (q := j) HH.out (by decide)
      rw [← hfo] at c4 hx
      have HFO : Hid _ := hfo
      clear hpa hc2 hfo
      have hjm : ik + j < m := by have := HIKR.out; rw [HM.out]; omega
      go_upto_region 10 with fail
      go_region
      obtain ⟨L1, hL⟩ : ∃ L1, L1 = (colP c f (2 * j)).set (2 * j + 1) (f (2 * j + 1)) := ⟨_, rfl⟩
      have k1 : (wr.setCell ⟨w.heap.size, 2 * j + 1, none⟩ (.int .u8 ((f (2 * j + 1)).toNat : Int))).drew.heap[w.heap.size]? = some (.cells (vfs L1) 5 (0, 0)) := by
        rw [hL, ← vfs_set]
        exact heap_setCell_same _ _ _ _ _ _ (holds_at HH1.out 2 rfl)
      have kA : (wr.setCell ⟨w.heap.size, 2 * j + 1, none⟩ (.int .u8 ((f (2 * j + 1)).toNat : Int))).drew.heap[M]? = some (.cells #[.int .i64 r, .int .i64 k, .slice (some ⟨g, 0, none⟩) m m] 73 (0, 0)) := (heap_setCell_other _ _ _ _ (hkind_ne (holds_at HH1.out 0 rfl) (holds_at HH1.out 2 rfl) (by decide))).trans (holds_at HH1.out 0 rfl)
      have kG : (wr.setCell ⟨w.heap.size, 2 * j + 1, none⟩ (.int .u8 ((f (2 * j + 1)).toNat : Int))).drew.heap[g]? = some (.cells (vfs (parM k r)) 5 (0, 0)) := (heap_setCell_other _ _ _ _ (by have := HGN.out; show g ≠ w.heap.size; omega)).trans (holds_at HH1.out 1 rfl)
      have HBx : Hid _ := (HB.out.setCell (p := ⟨w.heap.size, 2 * j + 1, none⟩) (Nat.le_refl _) (.int .u8 ((f (2 * j + 1)).toNat : Int))).drew
      have HHx : Hid _ := holds_cons (holds_cons (holds_cons (holds_nil _) k1) kG) kA
      clear k1 kA kG c1 c2 c3 c4 hx
      generalize (wr.setCell ⟨w.heap.size, 2 * j + 1, none⟩ (.int .u8 ((f (2 * j + 1)).toNat : Int))).drew = wx at *
      have HL : Hid _ := hL
      clear hL
      go_wp2_with fail
      refine (HCA.out j _ (by omega)).mono ?_
      rintro e wy ⟨rfl, rfl⟩
      by_cases hcar : car j = i
      · have hff : f (2 * j) = 1 := by rw [HF.out, half_car HH.out, if_pos hcar]
        have hL2 : L1.set (2 * j) 1 = colP c f (2 * (j + 1)) := by
          rw [HL.out, ← hff, List.set_comm _ _ (by omega), colP_step, colP_step]
          rfl
        have c2 := cellAt (holds_at HHx.out 2 rfl) (2 * j) _ (vfs_get _ _ (by rw [HL.out, List.length_set, colP_len]; omega))
        have c0 : at8 L1 (2 * j) = 0 := by
          have := colP_at (f := f) (show 2 * j < c by omega) (2 * j) (Nat.le_refl _)
          rw [HL.out]
          simp only [at8] at this ⊢
          rw [List.getD_eq_getElem?_getD, List.getElem?_set_ne (by omega), ← List.getD_eq_getElem?_getD]
          exact this
        rw [c0, show (((0 : F).toNat : Nat) : Int) = 0 from rfl] at c2
        have c3 := frozen_of_row _ w.heap.size (2 * j) _ _ (holds_at HHx.out 2 rfl)
        have hx1 : bits .xor .u8 0 1 = 1 := by decide
        have hci : (car j : Int) = i := by omega
        have HL2 : Hid _ := hL2
        clear hL2 c0 hff hcar
        go_wp2
        have k1 : (wx.setCell ⟨w.heap.size, 2 * j, none⟩ (.int .u8 1)).heap[w.heap.size]? = some (.cells (vfs (colP c f (2 * (j + 1)))) 5 (0, 0)) := by
          rw [heap_setCell_same _ _ _ _ _ _ (holds_at HHx.out 2 rfl), ← HL2.out, ← vfs_set]
          rfl
        have kA : (wx.setCell ⟨w.heap.size, 2 * j, none⟩ (.int .u8 1)).heap[M]? = some (.cells #[.int .i64 r, .int .i64 k, .slice (some ⟨g, 0, none⟩) m m] 73 (0, 0)) := (heap_setCell_other _ _ _ _ (hkind_ne (holds_at HHx.out 0 rfl) (holds_at HHx.out 2 rfl) (by decide))).trans (holds_at HHx.out 0 rfl)
        have kG : (wx.setCell ⟨w.heap.size, 2 * j, none⟩ (.int .u8 1)).heap[g]? = some (.cells (vfs (parM k r)) 5 (0, 0)) := (heap_setCell_other _ _ _ _ (by have := HGN.out; show g ≠ w.heap.size; omega)).trans (holds_at HHx.out 1 rfl)
        exact ⟨⟨j + 1, by omega, by go_num, HBx.out.setCell (Nat.le_refl _) _, holds_cons (holds_cons (holds_cons (holds_nil _) k1) kG) kA⟩, by simp [intOf]; omega⟩
      · have hff : f (2 * j) = 0 := by rw [HF.out, half_car HH.out, if_neg hcar]
        have hL2 : L1 = colP c f (2 * (j + 1)) := by
          rw [HL.out, colP_skip hff, colP_step]
          rfl
        rw [hL2] at HHx
        have hci : ¬ (car j : Int) = i := by omega
        clear hL2 hff hcar
        go_wp2
        exact ⟨⟨j + 1, by omega, by go_num, HBx.out, HHx.out⟩, by simp [intOf]; omega⟩
    · obtain rfl : j = k := by omega
      have k1 := holds_at HH1.out 2 rfl
      rw [← HC.out, colP_done, HF.out] at k1
      have HK1 : Hid _ := k1
      clear k1
      go_wp2
      go_ret
      exact ⟨w.heap.size, c, rfl, rfl, Nat.le_refl _, HK1.out, HB.out⟩
theorem hrrow_F (k r h : Nat) (w : World) (h1 : 1 ≤ k) (h2 : 2 ≤ r) (h3 : k + r ≤ 16) (hh : h < 2 * (k + r)) :
    Calls Tryz.prog 60 #[.int .i64 k, .int .i64 r, .int .i64 h] w fun e w' => ∃ g n, e = .returned (.slice (some ⟨g, 0, none⟩) n n) ∧ n = 2 * k ∧ w.heap.size ≤ g ∧
      w'.heap[g]? = some (.cells (vfs (rowF (2 * k) (halfF k (carN (groupN k r)) h))) 5 (0, 0)) ∧ Below w.heap.size w w' := by
  by_cases hs : h / 2 < k
  · exact rrow_unit k r h (h / 2) (h % 2) w h1 h2 h3 (by omega) (by omega) hs
  · rcases (show h % 2 = 0 ∨ h % 2 = 1 by omega) with e | e
    · exact rrow_0 k r h (h / 2 - k) w h1 h2 h3 (by omega) (by omega)
    · exact rrow_1 k r h (h / 2 - k) w h1 h2 h3 (by omega) (by omega)
end Go.Proofs.YtkoakingmnjdoaaGreatDoor

/- What the document's own rows of listed halves answer; nothing that was there turns. -/
namespace Go.Proofs.YtkoakingmnjdoaaGreatDoor
open Go.RowKit Gf
set_option linter.unusedVariables false
set_option maxRecDepth 20000
set_option linter.unusedSimpArgs false
theorem hown_set11 {w : World} {B g i n : Nat} {v x : Value} {e : TypeId} {s : Nat} {xs : List Value} (h : w.ownsRow B e s v n xs) (hg : g < B) : (w.setCell ⟨g, i, none⟩ x).ownsRow B e s v n xs :=
  ⟨h.1, h.2.imp id fun ⟨g2, cap, cur, h1, h2, h3, h4⟩ => ⟨g2, cap, cur, h1, h2, (heap_setCell_other _ _ _ _ (by show g2 ≠ g; omega)).trans h3, h4⟩⟩
set_option maxHeartbeats 4000000 in
theorem rows11_F (k r n lc : Nat) (la : Option Addr) (L : List Nat) (w : World) (h1 : 1 ≤ k) (h2 : 2 ≤ r) (h3 : k + r ≤ 16) (hn : n = L.length) (hn32 : n ≤ 32) (hX : RowI w la (natJ8 L)) (hr : ∀ x ∈ L, x < 2 * (k + r)) :
    Calls Tryz.prog 41 #[.int .i64 k, .int .i64 r, .slice la n lc] w fun e w' => ∃ a l cap, e = .returned (.agg #[.int .i64 n, .int .i64 (2 * k : Nat), .slice a l cap]) ∧ l = n * (2 * k) ∧ l ≤ cap ∧
      Row8 w' a (grid (2 * k) (fun i => halfF k (carN (groupN k r)) (L.getD i 0)) n) ∧ Below w.heap.size w w' := by
  have HX : Hid (RowI w la (natJ8 L)) := hX
  have HNL : Hid (n = L.length) := hn
  have HRF : Hid _ := fun (j : Nat) w (hj : j < n) => hrrow_F k r (L.getD j 0) w h1 h2 h3 (hr _ (getD_mem (by rw [← hn]; exact hj)))
  obtain ⟨f, hf⟩ : ∃ f : Nat → Nat → F, f = fun i => halfF k (carN (groupN k r)) (L.getD i 0) := ⟨_, rfl⟩
  have HFE : Hid (∀ j, halfF k (carN (groupN k r)) (L.getD j 0) = f j) := fun j => by rw [hf]
  rw [← hf]
  obtain ⟨c, hc⟩ : ∃ c, c = 2 * k := ⟨_, rfl⟩
  rw [← hc] at HRF ⊢
  have ec : (2 : Int) * (k : Int) = c := by omega
  have hc32 : c ≤ 32 := by omega
  clear hf hc hX hn hr
  go_enter Tryz.func41, Tryz.ntmps41
  go_wp2
  have hA := holds_new (holds_new (holds_nil w) #[.int .i64 0, .int .i64 0, .slice none 0 0] 73) #[.int .i64 n, .int .i64 c, .slice none 0 0] 73
  rw [World.size_alloc] at hA
  have B4 : Hid (Below w.heap.size w ((w.alloc (.cells #[.int .i64 0, .int .i64 0, .slice none 0 0] 73)).alloc (.cells #[.int .i64 n, .int .i64 c, .slice none 0 0] 73))) := ((Below.refl _ _).alloc (Nat.le_refl _) _).alloc (by simp) _
  have HH : Hid _ := hA
  have z0 : w.heap.size + 2 ≤ ((w.alloc (.cells #[.int .i64 0, .int .i64 0, .slice none 0 0] 73)).alloc (.cells #[.int .i64 n, .int .i64 c, .slice none 0 0] 73)).heap.size := by simp
  clear hA
  generalize ((w.alloc (.cells #[.int .i64 0, .int .i64 0, .slice none 0 0] 73)).alloc (.cells #[.int .i64 n, .int .i64 c, .slice none 0 0] 73)) = W at *
  generalize hM : w.heap.size + 1 = M at *
  have hMw : w.heap.size < M := by omega
  have hM2 : w.heap.size + 2 = M + 1 := by omega
  rw [hM2] at z0
  clear hM hM2
  go_loopw [17] (fun i wr => ∃ j : Nat, ∃ v : Value, j ≤ n ∧ i = .int .i64 j ∧ Below w.heap.size w wr ∧ M + 1 ≤ wr.heap.size ∧ wr.heap[w.heap.size]? = some (.cells #[.int .i64 0, .int .i64 0, .slice none 0 0] 73 (0, 0)) ∧ wr.heap[M]? = some (.cells #[.int .i64 n, .int .i64 c, v] 73 (0, 0)) ∧ wr.ownsRow (M + 1) 5 1 v (j * c) ((grid c f j).map vf)) (fun i _ => n - (intOf i).toNat)
  case atStart => exact ⟨0, .slice none 0 0, by omega, rfl, B4.out, z0, holds_at HH.out 1 rfl, holds_at HH.out 0 rfl, by rw [Nat.zero_mul]; exact World.ownsRow_nil _ _ _ _⟩
  case round =>
    obtain ⟨j, v, hj, rfl, hbw, hzr, hp, hm, hown⟩ := hrel
    obtain ⟨av, capv, rfl, hrv, hnv, hnn⟩ := ownB_slice hown
    have HBW : Hid _ := hbw
    have HP : Hid _ := hp
    have HM : Hid _ := hm
    have HO : Hid _ := hown
    have HRV : Hid _ := hrv
    clear hbw hp hown hrv hnv hnn
    by_cases hlt : j < n
    · have hlk : j * c + c ≤ 4096 := by
        have h1 := Nat.mul_le_mul (show j + 1 ≤ 32 by omega) (show c ≤ 32 by omega)
        rw [Nat.succ_mul] at h1; omega
      obtain ⟨l, hl⟩ : ∃ l, l = j * c := ⟨_, rfl⟩
      rw [← hl] at hm HM HO hlk
      obtain ⟨hh, hhe⟩ : ∃ hh, hh = L.getD j 0 := ⟨_, rfl⟩
      have hjL : j < L.length := by rw [← HNL.out]; exact hlt
      rcases HX.out with e0 | ⟨b, off, rfl, hrows⟩
      · have := congrArg List.length e0
        rw [natJ8_len, List.length_nil] at this
        omega
      have cl := cell_later HBW.out (hrows j (hh : Int) (by rw [hhe, natJ8, List.getElem?_map, List.getElem?_eq_getElem hjL, List.getD_eq_getElem?_getD, List.getElem?_eq_getElem hjL]; rfl))
      have HRJ : Hid (∀ u, Calls Tryz.prog 60 #[.int .i64 k, .int .i64 r, .int .i64 hh] u fun e w' => ∃ g n, e = .returned (.slice (some ⟨g, 0, none⟩) n n) ∧ n = c ∧ u.heap.size ≤ g ∧ w'.heap[g]? = some (.cells (vfs (rowF c (f j))) 5 (0, 0)) ∧ Below u.heap.size u w') := fun u => by
        have := HRF.out j u hlt
        rw [HFE.out, ← hhe] at this
        exact this
      clear hrows hjL hhe
      go_upto_region 5 with fail
      have HL : Hid _ := hl
      clear hl hm cl
      refine wp_region_noPanic ?_
      refine wp_region_held_drew (S := fun u => Below w.heap.size w u) (by kernel_rfl) ?_ (fun hHeld => ?_)
      · exact HBW.out.drew
      refine wpAnyH_take (i := 0) (oi := { dst := some 21, op := Op.fieldAddr 73 (Operand.tmp 7) 2, type := 0, pos := "ref.go:28", after := #[], guard := none }) (v := ?_) rfl (by kernel_rfl) (by kernel_rfl) (by kernel_rfl) (fun _ _ _ h => h) (Or.inl ⟨by rfl, ?_⟩) hHeld ?_
      rotate_left
      · intro u hSw
        go_simp
        try with_reducible rfl
      try simp only [Act.put, List.setIfInBounds_toArray, List.set_cons_zero, List.set_cons_succ]
      refine wpAnyH_take (i := 2) (oi := { dst := some 23, op := Op.move (Operand.tmp 0), type := 3, pos := "ref.go:28", after := #[], guard := none }) (v := ?_) rfl (by kernel_rfl) (by kernel_rfl) (by kernel_rfl) (fun _ _ _ h => h) (Or.inl ⟨by rfl, ?_⟩) hHeld ?_
      rotate_left
      · intro u hSw
        go_simp
        try with_reducible rfl
      try simp only [Act.put, List.setIfInBounds_toArray, List.set_cons_zero, List.set_cons_succ]
      refine wpAnyH_take (i := 3) (oi := { dst := some 24, op := Op.move (Operand.tmp 1), type := 3, pos := "ref.go:28", after := #[], guard := none }) (v := ?_) rfl (by kernel_rfl) (by kernel_rfl) (by kernel_rfl) (fun _ _ _ h => h) (Or.inl ⟨by rfl, ?_⟩) hHeld ?_
      rotate_left
      · intro u hSw
        go_simp
        try with_reducible rfl
      try simp only [Act.put, List.setIfInBounds_toArray, List.set_cons_zero, List.set_cons_succ]
      refine wpAnyH_take (i := 4) (oi := { dst := some 25, op := Op.move (Operand.tmp 9), type := 3, pos := "ref.go:28", after := #[], guard := none }) (v := ?_) rfl (by kernel_rfl) (by kernel_rfl) (by kernel_rfl) (fun _ _ _ h => h) (Or.inl ⟨by rfl, ?_⟩) hHeld ?_
      rotate_left
      · intro u hSw
        go_simp
        try with_reducible rfl
      try simp only [Act.put, List.setIfInBounds_toArray, List.set_cons_zero, List.set_cons_succ]
      refine wpAnyH_ready (rs := [1, 5]) (by kernel_rfl) (by simp) ?_
      refine (AllReadyH.cons (o := { dst := some 22, op := Op.load 23 (Operand.tmp 21), type := 23, pos := "ref.go:28", after := #[{ on := 0, ground := Ground.data }], guard := none }) rfl (fun K hK => ?_) (AllReadyH.cons (o := { dst := some 26, op := Op.call { callee := Callee.value (Operand.func 60), args := #[Operand.tmp 23, Operand.tmp 24, Operand.tmp 25], argTypes := #[3, 3, 3] }, type := 23, pos := "ref.go:28", after := #[{ on := 2, ground := Ground.data }, { on := 3, ground := Ground.data }, { on := 4, ground := Ground.data }], guard := none }) rfl (fun K hK => ?_) AllReadyH.nil))
      · have cL := cellAt (show wr.drew.heap[M]? = _ from HM.out) 2 _ rfl
        go_simp
        refine hK.out _ _ ?_ (fun hHeld => ?_)
        · exact HBW.out.drew
        clear hK K
        try simp only [Act.put, List.setIfInBounds_toArray, List.set_cons_zero, List.set_cons_succ]
        refine wpAnyH_ready (rs := [5]) (by kernel_rfl) (by simp) ?_
        refine (AllReadyH.cons (o := { dst := some 26, op := Op.call { callee := Callee.value (Operand.func 60), args := #[Operand.tmp 23, Operand.tmp 24, Operand.tmp 25], argTypes := #[3, 3, 3] }, type := 23, pos := "ref.go:28", after := #[{ on := 2, ground := Ground.data }, { on := 3, ground := Ground.data }, { on := 4, ground := Ground.data }], guard := none }) rfl (fun K hK => ?_) AllReadyH.nil)
        go_simp
        refine Calls.mono (HRJ.out _) ?_
        rintro e w6 ⟨g6, n6, rfl, hn6, hg6, hh6, hb6⟩
        obtain rfl : n6 = c := by omega
        have hB6 : Below w.heap.size w w6 := Below.trans HBW.out.drew (Below.mono hb6 (below_size HBW.out.drew))
        have hM6 := heap_later (w := wr.drew) HM.out hb6
        have hP6 := heap_later (w := wr.drew) HP.out hb6
        have ho6 : w6.ownsRow (M + 1) 5 1 (.slice av l capv) l ((grid n6 f j).map vf) := own_below (w := wr.drew) HO.out hb6
        have hz6 := hb6.size
        have hzd : M + 1 ≤ wr.drew.heap.size := hzr
        obtain ⟨v', w7, hrun, ho7, hgr⟩ := appendB (m := n6) (c := n6) 23 ho6 (rowF_len n6 (f j)).symm (by omega) (row8_own hh6) (fun h => by cases h) (by omega)
        have hM7 := own_other ho6 hgr hM6 (by decide)
        have hP7 := own_other ho6 hgr hP6 (by decide)
        have hB7 : Below w.heap.size w w7 := below_own hB6 (own_mono (B' := w.heap.size) ho6 (by omega)) hgr hB6.size
        have hz7 := hgr.size
        obtain ⟨a7, cap7, rfl, h7, h8, h9⟩ := ownB_slice ho7
        clear h7 h8 h9
        have HRun : Hid _ := hrun
        have HO7 : Hid _ := ho7
        have HM6 : Hid _ := hM6
        have HM7 : Hid _ := hM7
        have HP7 : Hid _ := hP7
        have HB6 : Hid _ := hB6
        have HB7 : Hid _ := hB7
        have HZ7 : Hid (M + 1 ≤ w7.heap.size) := by show _ ≤ _; omega
        clear hn6 hg6 hh6 hb6 hB6 hM6 hP6 ho6 hz6 hzd hrun ho7 hgr hM7 hP7 hB7 hz7
        go_wp2_with fail
        refine hK.out _ _ ?_ (fun hHeld => ?_)
        · exact HB6.out
        clear hK K
        try simp only [Act.put, List.setIfInBounds_toArray, List.set_cons_zero, List.set_cons_succ]
        refine wpAnyH_ready (rs := [6]) (by kernel_rfl) (by simp) ?_
        refine (AllReadyH.cons (o := { dst := some 27, op := Op.call { callee := Callee.builtin Builtin.append, args := #[Operand.tmp 22, Operand.tmp 26], argTypes := #[23, 23] }, type := 23, pos := "ref.go:28", after := #[{ on := 1, ground := Ground.data }, { on := 5, ground := Ground.data }, { on := 5, ground := Ground.chain }], guard := none }) rfl (fun K hK => ?_) AllReadyH.nil)
        refine wanted_append_run rfl _ _ 23 rfl _ _ _ _ rfl rfl HRun.out ?_
        refine hK.out _ _ ?_ (fun hHeld => ?_)
        · exact HB7.out
        clear hK K
        try simp only [Act.put, List.setIfInBounds_toArray, List.set_cons_zero, List.set_cons_succ]
        refine wpAnyH_take (i := 7) (oi := { dst := some 28, op := Op.fieldAddr 73 (Operand.tmp 7) 2, type := 0, pos := "ref.go:28", after := #[{ on := 0, ground := Ground.phase }, { on := 1, ground := Ground.phase }, { on := 2, ground := Ground.phase }, { on := 3, ground := Ground.phase }, { on := 4, ground := Ground.phase }, { on := 5, ground := Ground.phase }, { on := 6, ground := Ground.phase }], guard := none }) (v := ?_) rfl (by kernel_rfl) (by kernel_rfl) (by kernel_rfl) (fun _ _ _ h => h) (Or.inl ⟨by rfl, ?_⟩) hHeld ?_
        rotate_left
        · intro u hSw
          go_simp
          try with_reducible rfl
        try simp only [Act.put, List.setIfInBounds_toArray, List.set_cons_zero, List.set_cons_succ]
        refine wpAnyH_ready (rs := [8]) (by kernel_rfl) (by simp) ?_
        refine (AllReadyH.cons (o := { dst := none, op := Op.store 23 (Operand.tmp 28) (Operand.tmp 27), type := 0, pos := "ref.go:28", after := #[{ on := 7, ground := Ground.data }, { on := 6, ground := Ground.data }, { on := 6, ground := Ground.chain }, { on := 0, ground := Ground.phase }, { on := 1, ground := Ground.phase }, { on := 2, ground := Ground.phase }, { on := 3, ground := Ground.phase }, { on := 4, ground := Ground.phase }, { on := 5, ground := Ground.phase }, { on := 6, ground := Ground.phase }], guard := none }) rfl (fun K hK => ?_) AllReadyH.nil)
        have cS := cellAt HM7.out 2 _ rfl
        have hM8 : w7.frozen? ⟨M, 2, none⟩ = false := frozen_of_row _ _ _ _ _ HM7.out
        go_simp
        refine hK.out _ _ ?_ (fun hHeld => ?_)
        · exact HB7.out.setCell (by show w.heap.size ≤ M; omega) _
        clear hK K
        try simp only [Act.put, List.setIfInBounds_toArray, List.set_cons_zero, List.set_cons_succ]
        refine wpAnyH_done (by kernel_rfl) ?_ _
        refine NoPanic.normal ?_
        clear cS hM8
        have k1 : (w7.setCell ⟨M, 2, none⟩ (.slice a7 (l + n6) cap7)).heap[M]? = some (.cells #[.int .i64 n, .int .i64 n6, .slice a7 (l + n6) cap7] 73 (0, 0)) := heap_setCell_same _ _ _ _ _ _ HM7.out
        have k2 : (w7.setCell ⟨M, 2, none⟩ (.slice a7 (l + n6) cap7)).heap[w.heap.size]? = some (.cells #[.int .i64 0, .int .i64 0, .slice none 0 0] 73 (0, 0)) := (heap_setCell_other _ _ _ _ (show w.heap.size ≠ M by omega)).trans HP7.out
        have HB8 : Hid (Below w.heap.size w (w7.setCell ⟨M, 2, none⟩ (.slice a7 (l + n6) cap7))) := HB7.out.setCell (by show w.heap.size ≤ M; omega) _
        have ho8 : (w7.setCell ⟨M, 2, none⟩ (.slice a7 (l + n6) cap7)).ownsRow (M + 1) 5 1 (.slice a7 (l + n6) cap7) ((j + 1) * n6) ((grid n6 f (j + 1)).map vf) := by
          have hl := HL.out
          rw [Nat.succ_mul, ← hl]
          exact hown_set11 HO7.out (by omega)
        have HK1 : Hid _ := k1
        have HK2 : Hid _ := k2
        have HO8 : Hid _ := ho8
        have HZ8 : Hid (M + 1 ≤ (w7.setCell ⟨M, 2, none⟩ (.slice a7 (l + n6) cap7)).heap.size) := by have := HZ7.out; show _ ≤ _; simpa using this
        clear k1 k2 ho8
        go_wp2
        exact ⟨⟨j + 1, _, by omega, by go_num, HB8.out, HZ8.out, HK2.out, HK1.out, HO8.out⟩, by simp [intOf]; omega⟩
      · go_simp
        refine Calls.mono (HRJ.out _) ?_
        rintro e w6 ⟨g6, n6, rfl, hn6, hg6, hh6, hb6⟩
        obtain rfl : n6 = c := by omega
        have hB6 : Below w.heap.size w w6 := Below.trans HBW.out.drew (Below.mono hb6 (below_size HBW.out.drew))
        have hM6 := heap_later (w := wr.drew) HM.out hb6
        have hP6 := heap_later (w := wr.drew) HP.out hb6
        have ho6 : w6.ownsRow (M + 1) 5 1 (.slice av l capv) l ((grid n6 f j).map vf) := own_below (w := wr.drew) HO.out hb6
        have hz6 := hb6.size
        have hzd : M + 1 ≤ wr.drew.heap.size := hzr
        obtain ⟨v', w7, hrun, ho7, hgr⟩ := appendB (m := n6) (c := n6) 23 ho6 (rowF_len n6 (f j)).symm (by omega) (row8_own hh6) (fun h => by cases h) (by omega)
        have hM7 := own_other ho6 hgr hM6 (by decide)
        have hP7 := own_other ho6 hgr hP6 (by decide)
        have hB7 : Below w.heap.size w w7 := below_own hB6 (own_mono (B' := w.heap.size) ho6 (by omega)) hgr hB6.size
        have hz7 := hgr.size
        obtain ⟨a7, cap7, rfl, h7, h8, h9⟩ := ownB_slice ho7
        clear h7 h8 h9
        have HRun : Hid _ := hrun
        have HO7 : Hid _ := ho7
        have HM6 : Hid _ := hM6
        have HM7 : Hid _ := hM7
        have HP7 : Hid _ := hP7
        have HB6 : Hid _ := hB6
        have HB7 : Hid _ := hB7
        have HZ7 : Hid (M + 1 ≤ w7.heap.size) := by show _ ≤ _; omega
        clear hn6 hg6 hh6 hb6 hB6 hM6 hP6 ho6 hz6 hzd hrun ho7 hgr hM7 hP7 hB7 hz7
        go_wp2_with fail
        refine hK.out _ _ ?_ (fun hHeld => ?_)
        · exact HB6.out
        clear hK K
        try simp only [Act.put, List.setIfInBounds_toArray, List.set_cons_zero, List.set_cons_succ]
        refine wpAnyH_ready (rs := [1]) (by kernel_rfl) (by simp) ?_
        refine (AllReadyH.cons (o := { dst := some 22, op := Op.load 23 (Operand.tmp 21), type := 23, pos := "ref.go:28", after := #[{ on := 0, ground := Ground.data }], guard := none }) rfl (fun K hK => ?_) AllReadyH.nil)
        have cL := cellAt HM6.out 2 _ rfl
        go_simp
        refine hK.out _ _ ?_ (fun hHeld => ?_)
        · exact HB6.out
        clear hK K
        try simp only [Act.put, List.setIfInBounds_toArray, List.set_cons_zero, List.set_cons_succ]
        refine wpAnyH_ready (rs := [6]) (by kernel_rfl) (by simp) ?_
        refine (AllReadyH.cons (o := { dst := some 27, op := Op.call { callee := Callee.builtin Builtin.append, args := #[Operand.tmp 22, Operand.tmp 26], argTypes := #[23, 23] }, type := 23, pos := "ref.go:28", after := #[{ on := 1, ground := Ground.data }, { on := 5, ground := Ground.data }, { on := 5, ground := Ground.chain }], guard := none }) rfl (fun K hK => ?_) AllReadyH.nil)
        refine wanted_append_run rfl _ _ 23 rfl _ _ _ _ rfl rfl HRun.out ?_
        refine hK.out _ _ ?_ (fun hHeld => ?_)
        · exact HB7.out
        clear hK K
        try simp only [Act.put, List.setIfInBounds_toArray, List.set_cons_zero, List.set_cons_succ]
        refine wpAnyH_take (i := 7) (oi := { dst := some 28, op := Op.fieldAddr 73 (Operand.tmp 7) 2, type := 0, pos := "ref.go:28", after := #[{ on := 0, ground := Ground.phase }, { on := 1, ground := Ground.phase }, { on := 2, ground := Ground.phase }, { on := 3, ground := Ground.phase }, { on := 4, ground := Ground.phase }, { on := 5, ground := Ground.phase }, { on := 6, ground := Ground.phase }], guard := none }) (v := ?_) rfl (by kernel_rfl) (by kernel_rfl) (by kernel_rfl) (fun _ _ _ h => h) (Or.inl ⟨by rfl, ?_⟩) hHeld ?_
        rotate_left
        · intro u hSw
          go_simp
          try with_reducible rfl
        try simp only [Act.put, List.setIfInBounds_toArray, List.set_cons_zero, List.set_cons_succ]
        refine wpAnyH_ready (rs := [8]) (by kernel_rfl) (by simp) ?_
        refine (AllReadyH.cons (o := { dst := none, op := Op.store 23 (Operand.tmp 28) (Operand.tmp 27), type := 0, pos := "ref.go:28", after := #[{ on := 7, ground := Ground.data }, { on := 6, ground := Ground.data }, { on := 6, ground := Ground.chain }, { on := 0, ground := Ground.phase }, { on := 1, ground := Ground.phase }, { on := 2, ground := Ground.phase }, { on := 3, ground := Ground.phase }, { on := 4, ground := Ground.phase }, { on := 5, ground := Ground.phase }, { on := 6, ground := Ground.phase }], guard := none }) rfl (fun K hK => ?_) AllReadyH.nil)
        have cS := cellAt HM7.out 2 _ rfl
        have hM8 : w7.frozen? ⟨M, 2, none⟩ = false := frozen_of_row _ _ _ _ _ HM7.out
        go_simp
        refine hK.out _ _ ?_ (fun hHeld => ?_)
        · exact HB7.out.setCell (by show w.heap.size ≤ M; omega) _
        clear hK K
        try simp only [Act.put, List.setIfInBounds_toArray, List.set_cons_zero, List.set_cons_succ]
        refine wpAnyH_done (by kernel_rfl) ?_ _
        refine NoPanic.normal ?_
        clear cS hM8
        have k1 : (w7.setCell ⟨M, 2, none⟩ (.slice a7 (l + n6) cap7)).heap[M]? = some (.cells #[.int .i64 n, .int .i64 n6, .slice a7 (l + n6) cap7] 73 (0, 0)) := heap_setCell_same _ _ _ _ _ _ HM7.out
        have k2 : (w7.setCell ⟨M, 2, none⟩ (.slice a7 (l + n6) cap7)).heap[w.heap.size]? = some (.cells #[.int .i64 0, .int .i64 0, .slice none 0 0] 73 (0, 0)) := (heap_setCell_other _ _ _ _ (show w.heap.size ≠ M by omega)).trans HP7.out
        have HB8 : Hid (Below w.heap.size w (w7.setCell ⟨M, 2, none⟩ (.slice a7 (l + n6) cap7))) := HB7.out.setCell (by show w.heap.size ≤ M; omega) _
        have ho8 : (w7.setCell ⟨M, 2, none⟩ (.slice a7 (l + n6) cap7)).ownsRow (M + 1) 5 1 (.slice a7 (l + n6) cap7) ((j + 1) * n6) ((grid n6 f (j + 1)).map vf) := by
          have hl := HL.out
          rw [Nat.succ_mul, ← hl]
          exact hown_set11 HO7.out (by omega)
        have HK1 : Hid _ := k1
        have HK2 : Hid _ := k2
        have HO8 : Hid _ := ho8
        have HZ8 : Hid (M + 1 ≤ (w7.setCell ⟨M, 2, none⟩ (.slice a7 (l + n6) cap7)).heap.size) := by have := HZ7.out; show _ ≤ _; simpa using this
        clear k1 k2 ho8
        go_wp2
        exact ⟨⟨j + 1, _, by omega, by go_num, HB8.out, HZ8.out, HK2.out, HK1.out, HO8.out⟩, by simp [intOf]; omega⟩
    · obtain rfl : j = n := by omega
      have c1 := cellAt hm 0 _ rfl
      have HCV : Hid (j * c ≤ capv) := by
        rcases HO.out.2 with ⟨e9, _⟩ | ⟨g9, cap9, cur9, e9, _, _, hle, _⟩
        · injection e9 with e1 e2 e3
          show _ ≤ _
          omega
        · injection e9 with e1 e2 e3
          show _ ≤ _
          omega
      have c2 := cellAt hm 1 _ rfl
      have c3 := cellAt hm 2 _ rfl
      have k1 := HP.out
      have c4 := cellAt k1 0 _ rfl
      have c5 := cellAt k1 1 _ rfl
      have c6 := cellAt k1 2 _ rfl
      have d4 : wr.frozen? ⟨w.heap.size, 0, none⟩ = false := frozen_of_row _ _ _ _ _ k1
      have d5 : wr.frozen? ⟨w.heap.size, 1, none⟩ = false := frozen_of_row _ _ _ _ _ k1
      have d6 : wr.frozen? ⟨w.heap.size, 2, none⟩ = false := frozen_of_row _ _ _ _ _ k1
      clear k1 hm
      go_wp2
      refine bodyPost_ret (v := .agg #[.int .i64 j, .int .i64 c, .slice av (j * c) capv]) (by simp [results, Tryz.results41, go_sem, c4, c5, c6]) rfl ⟨av, _, capv, rfl, rfl, HCV.out, ?_, ?_⟩
      · have ho := hown_set11 (g := w.heap.size) (i := 2) (x := .slice av (j * c) capv) (hown_set11 (g := w.heap.size) (i := 1) (x := .int .i64 c) (hown_set11 (g := w.heap.size) (i := 0) (x := .int .i64 j) HO.out (by omega)) (by omega)) (by omega)
        obtain ⟨a9, c9, e9, h9, _⟩ := ownB_slice ho
        cases e9
        exact h9
      · exact ((HBW.out.setCell (by simp) _).setCell (by simp) _).setCell (by simp) _
end Go.Proofs.YtkoakingmnjdoaaGreatDoor

/- What the document's own Meaning answers of programs in form. -/
namespace Go.Proofs.YtkoakingmnjdoaaGreatDoor
open Go.RowKit Gf
set_option linter.unusedVariables false
set_option maxRecDepth 20000
set_option linter.unusedSimpArgs false
/-- unit rows in blocks of their own behind a list of one's own -/
structure UniW (w : World) (B : Nat) (v : Value) (n k : Nat) (qs : Nat → Nat) : Prop where
  own : w.ownsRow B 23 1 v k ((List.range k).map fun i => .slice (some ⟨qs i, 0, none⟩) n n)
  row : ∀ i, i < k → w.heap[qs i]? = some (.cells (vfs (rowF n (unX (i : Int)))) 5 (0, 0))
theorem UniW.rows {w : World} {B n k c : Nat} {a : Option Addr} {qs : Nat → Nat} (hf : UniW w B (.slice a k c) n k qs) : Rows8 w a ((List.range k).map fun (i : Nat) => rowF n (unX (i : Int))) := by
  rcases hf.own.2 with ⟨e, h0⟩ | ⟨g, cap, cur, e, hB, hg, hle, h5, h6, h7⟩
  · subst h0
    exact .inl rfl
  · cases e
    refine .inr ⟨g, 0, rfl, fun j xs hj => ?_⟩
    have hjn : j < k := by
      have := (List.getElem?_eq_some_iff.1 hj).1
      simpa using this
    rw [List.getElem?_map, List.getElem?_range hjn, Option.map_some] at hj
    obtain rfl := Option.some.inj hj
    refine ⟨some ⟨qs j, 0, none⟩, n, ?_, row8_own (hf.row j hjn)⟩
    rw [rowF_len, Nat.zero_add]
    have h9 : (cur.toList.take (k * 1))[j]? = some (.slice (some ⟨qs j, 0, none⟩) n n) := by
      rw [h7, List.getElem?_map, List.getElem?_range hjn]; rfl
    rw [List.getElem?_take, if_pos (by omega)] at h9
    exact cellAt hg j _ (by simpa using h9)
theorem UniW.next {X Y : World} {B n k q g c : Nat} {v : Value} {qs : Nat → Nat} (hf : UniW X B v n k qs) (hr : X.heap[q]? = some (.cells (vfs (rowF n (unX (k : Int)))) 5 (0, 0))) (hg : X.grownBy Y v.ownBlock)
    (ho : Y.ownsRow B 23 1 (.slice (some ⟨g, 0, none⟩) (k + 1) c) (k + 1) (((List.range k).map fun i => .slice (some ⟨qs i, 0, none⟩) n n) ++ [.slice (some ⟨q, 0, none⟩) n n])) : UniW Y B (.slice (some ⟨g, 0, none⟩) (k + 1) c) n (k + 1) (fun i => if i = k then q else qs i) := by
  refine ⟨?_, fun i hi => ?_⟩
  · have e : ((List.range (k + 1)).map fun i => Value.slice (some ⟨if i = k then q else qs i, 0, none⟩) n n) = ((List.range k).map fun i => Value.slice (some ⟨qs i, 0, none⟩) n n) ++ [.slice (some ⟨q, 0, none⟩) n n] := by
      rw [List.range_succ, List.map_append]
      congr 1
      · apply List.map_congr_left
        intro i hi
        have := List.mem_range.1 hi
        rw [if_neg (by omega)]
      · simp
    rw [e]; exact ho
  · by_cases e : i = k
    · subst e; simp only [if_true]; exact own_other hf.own hg hr (by decide)
    · simp only [e, if_false]; exact own_other hf.own hg (hf.row i (by omega)) (by decide)
theorem UniW.below {w w' : World} {B n k : Nat} {v : Value} {qs : Nat → Nat} (hf : UniW w B v n k qs) (hb : Below w.heap.size w w') : UniW w' B v n k qs := ⟨own_below hf.own hb, fun i hi => heap_later (hf.row i hi) hb⟩
theorem own_row9 {w : World} {B g i k n : Nat} {v u : Value} {qs : Nat → Nat} (hf : UniW w B v n k qs) {cs : Array Value} (hg : w.heap[g]? = some (.cells cs 5 (0, 0))) (hq : ∀ i, i < k → qs i ≠ g) : UniW (w.setCell ⟨g, i, none⟩ u) B v n k qs := by
  refine ⟨⟨hf.own.1, hf.own.2.imp id fun ⟨g', cap, cur, h1, h2, h3, h4⟩ => ⟨g', cap, cur, h1, h2, ?_, h4⟩⟩, fun j hj => (heap_setCell_other _ _ _ _ (hq j hj)).trans (hf.row j hj)⟩
  refine (heap_setCell_other _ _ _ _ (fun e => ?_)).trans h3
  have h5 : g' = g := e
  rw [h5, hg] at h3
  injection h3 with h6
  injection h6 with h6 h7 h8
  exact absurd h7 (by decide)
theorem below_of_grown9 {B r : Nat} {w0 w Z : World} (h : Below B w0 w) (hg : w.grownBy Z (some r)) (hr : B ≤ r) (hB : B ≤ w.heap.size) : Below B w0 Z :=
  h.trans ⟨hg.os, hg.tape, hg.output, hg.size, fun k hk => hg.block k (by omega) (fun e => by have := Option.some.inj e; omega)⟩
theorem row8_mat {Z Y : World} {M q : Nat} {a b : Int} {v : Value} {t : TypeId} {fr : Nat × Nat} {xs : List F} (hm : Z.heap[M]? = some (.cells #[.int .i64 a, .int .i64 b, v] t fr)) (hg : Z.grownBy Y (some M)) (hr : Row8 Z (some ⟨q, 0, none⟩) xs) : Row8 Y (some ⟨q, 0, none⟩) xs := by
  rcases hr with e | ⟨c, off, e, h⟩
  · exact .inl e
  · cases e
    by_cases h0 : xs.length = 0
    · exact .inl (List.eq_nil_of_length_eq_zero h0)
    · refine .inr ⟨_, _, rfl, fun j hj => cell_grown9 hg (h j hj) (fun e => ?_)⟩
      have h1 := h 0 (by omega)
      rw [e] at h1
      have h2 := cellAt hm 0 _ rfl
      rw [Nat.add_zero, h2] at h1
      cases h1
set_option maxRecDepth 100000 in
set_option maxHeartbeats 16000000 in
theorem rmeaning_F (ia oa sa : Option Addr) (il ic ol oc sl sc rg : Nat) (ins outs : List Int) (ss : List Stp) (w : World) (hP : PrgW w ia oa sa il ic ol oc sl sc ins outs ss) (hF : InF ins outs rg ss) :
    Calls Tryz.prog 40 #[.agg #[.slice ia il ic, .slice oa ol oc, .int .i64 rg, .slice sa sl sc]] w fun e w' => ∃ a' n cap', e = .returned (.agg #[.int .i64 ol, .int .i64 il, .slice a' n cap']) ∧ n = ol * il ∧ n ≤ cap' ∧ Row8 w' a' (meanL il ol ss) ∧ Below w.heap.size w w' := by
  have hil32 : il ≤ 32 := by rw [hP.eil]; exact goodH_len hF.1
  have hol32 : ol ≤ 32 := by rw [hP.eol]; exact goodH_len hF.2.1
  have HP : Hid (PrgW w ia oa sa il ic ol oc sl sc ins outs ss) := hP
  have HF : Hid (InF ins outs rg ss) := hF
  obtain ⟨N, hN⟩ : ∃ N, N = w.heap.size := ⟨_, rfl⟩
  have hA := holds_new (holds_new (holds_new (holds_nil w) #[.slice ia il ic, .slice oa ol oc, .int .i64 rg, .slice sa sl sc] 30) #[.int .i64 0, .int .i64 0, .slice none 0 0] 73) #[] 23
  simp only [World.size_alloc] at hA
  obtain ⟨W, hW⟩ : ∃ W, W = ((w.alloc (.cells #[.slice ia il ic, .slice oa ol oc, .int .i64 rg, .slice sa sl sc] 30)).alloc (.cells #[.int .i64 0, .int .i64 0, .slice none 0 0] 73)).alloc (.cells #[] 23) := ⟨_, rfl⟩
  rw [← hW, ← hN] at hA
  have hbW : Below w.heap.size w W := by rw [hW]; exact (((Below.refl _ w).alloc (Nat.le_refl _) _).alloc (by simp) _).alloc (by simp; omega) _
  have HBW : Hid (Below w.heap.size w W) := hbW
  have HPX : Hid (W.heap[N]? = some (.cells #[.slice ia il ic, .slice oa ol oc, .int .i64 rg, .slice sa sl sc] 30 (0, 0))) := holds_at hA 2 rfl
  have HRX : Hid (W.heap[N + 1]? = some (.cells #[.int .i64 0, .int .i64 0, .slice none 0 0] 73 (0, 0))) := holds_at hA 1 rfl
  have HU0 : Hid (UniW W (N + 2) (.slice (some ⟨N + 1 + 1, 0, none⟩) 0 0) il 0 (fun _ => 0)) := ⟨own_empty (holds_at hA 0 rfl) (Nat.le_refl _), fun i hi => absurd hi (Nat.not_lt_zero _)⟩
  have HWE : Hid (W = ((w.alloc (.cells #[.slice ia il ic, .slice oa ol oc, .int .i64 rg, .slice sa sl sc] 30)).alloc (.cells #[.int .i64 0, .int .i64 0, .slice none 0 0] 73)).alloc (.cells #[] 23)) := hW
  have HNE : Hid (N = w.heap.size) := hN
  have k0 : (((w.alloc (.cells #[.slice ia il ic, .slice oa ol oc, .int .i64 rg, .slice sa sl sc] 30)).alloc (.cells #[.int .i64 0, .int .i64 0, .slice none 0 0] 73))).cell? ⟨w.heap.size, 0, none⟩ = some (.slice ia il ic) := cellAt (heap_later (heap_alloc_last w _) ((Below.refl _ _).alloc (Nat.le_refl _) _)) 0 _ rfl
  clear hP hF hA hW hbW hN
  go_enter Tryz.func40, Tryz.ntmps40
  go_upto_region 3 with fail
  rw [← HWE.out, ← HNE.out]
  clear HWE k0
  go_wp2
  go_loopw [5, 4] (fun i v wr => ∃ (k : Nat) (qs : Nat → Nat), k ≤ il ∧ i = .int .i64 k ∧ UniW wr (N + 2) v il k qs ∧ Below (N + 2) W wr) (fun i _ _ => il - (intOf i).toNat)
  case atStart => exact ⟨0, _, Nat.zero_le _, rfl, HU0.out, Below.refl _ _⟩
  case round =>
    obtain ⟨k, qs, hk, rfl, hu, hb⟩ := hrel
    have HU : Hid _ := hu
    have HB : Hid (Below (N + 2) W wr) := hb
    have hWN : N + 2 ≤ W.heap.size := by have := ltHeap HRX.out; omega
    have hWr : N + 2 ≤ wr.heap.size := Nat.le_trans hWN hb.size
    obtain ⟨av, cv, rfl⟩ := own_shape hu.own
    clear hu hb HU0
    by_cases hlt : k < il
    · have mk3 := fun u : World => run_make8 il (by omega) u
      obtain ⟨q, hq⟩ : ∃ q, q = wr.heap.size := ⟨_, rfl⟩
      obtain ⟨V1, hV1⟩ : ∃ V1, V1 = wr.alloc (.cells (vfs (zeros il)) 5) := ⟨_, rfl⟩
      have hb1 : Below wr.heap.size wr V1 := by rw [hV1]; exact (Below.refl _ _).alloc (Nat.le_refl _) _
      have hz : V1.heap[q]? = some (.cells (vfs (zeros il)) 5 (0, 0)) := by rw [hV1, hq]; exact heap_alloc_last _ _
      have c0 := cellAt hz k _ (vfs_get _ k (by rw [zeros_len]; exact hlt))
      rw [at8_zeros] at c0
      have f0 : V1.frozen? ⟨q, k, none⟩ = false := frozen_of_row _ _ _ _ _ hz
      obtain ⟨Y, hY⟩ : ∃ Y, Y = V1.setCell ⟨q, k, none⟩ (.int .u8 1) := ⟨_, rfl⟩
      have hu2 := own_row9 (i := k) (u := .int .u8 1) (HU.out.below hb1) hz (fun i hi => by have := ltHeap (HU.out.row i hi); omega)
      rw [← hY] at hu2
      have hr2 : Y.heap[q]? = some (.cells (vfs (rowF il (unX (k : Int)))) 5 (0, 0)) := by
        rw [hY, heap_setCell_same _ _ _ _ _ _ hz, ← zeros_set]
        have := vfs_set (zeros il) k 1
        rw [← this]; rfl
      have hb2 : Below (N + 2) W Y := by rw [hY]; exact (HB.out.trans (hb1.mono hWr)).setCell (p := ⟨q, k, none⟩) (by show N + 2 ≤ q; omega) _
      have HQE : Hid (q = wr.heap.size) := hq
      have HV1E : Hid (V1 = wr.alloc (.cells (vfs (zeros il)) 5)) := hV1
      have HYE : Hid (Y = V1.setCell ⟨q, k, none⟩ (.int .u8 1)) := hY
      have hYs : N + 2 ≤ Y.heap.size := Nat.le_trans hWN hb2.size
      clear hq hY hV1
      have hb3 : Below Y.heap.size Y (Y.alloc (.cells #[.slice (some ⟨q, 0, none⟩) il il] 23)) := (Below.refl _ _).alloc (Nat.le_refl _) _
      have hu3 := hu2.below hb3
      have hr3 := heap_later hr2 hb3
      obtain ⟨g, cap, w6, hrun, ho6, hgr, _⟩ := appendS (c := 1) 49 hu3.own (cellAt (heap_alloc_last Y _) 0 _ rfl) rfl (by omega) (Nat.le_trans hYs hb3.size)
      have HRun : Hid _ := hrun
      have HB6 : Hid (Below (N + 2) W w6) := below_own (hb2.trans (hb3.mono hYs)) hu3.own hgr (Nat.le_trans hYs hb3.size)
      have HU6 : Hid _ := hu3.next hr3 hgr ho6
      clear hb1 hz hu2 hr2 hb2 hb3 hu3 hr3 hrun ho6 hgr
      go_upto_region 7 with fail
      rw [← HV1E.out, ← HQE.out]
      clear HV1E HQE mk3
      go_upto_region 8 with fail
      rw [← HYE.out]
      clear HYE c0 f0
      go_wp2_with (at_builtin; refine wpList_append_run rfl _ _ 49 rfl _ _ _ _ rfl rfl HRun.out ?_)
      exact ⟨⟨k + 1, _, by omega, by go_num, HU6.out, HB6.out⟩, by simp [intOf]; omega⟩
    · obtain rfl : il = k := by omega
      have HPW : Hid _ := (HB.out.block N (by omega)).trans HPX.out
      have HRW : Hid _ := (HB.out.block (N + 1) (by omega)).trans HRX.out
      obtain ⟨V, hV⟩ : ∃ V, V = wr.alloc (.cells #[.int .i64 ol, .int .i64 il, .slice none 0 0] 73) := ⟨_, rfl⟩
      have hbv : Below wr.heap.size wr V := by rw [hV]; exact (Below.refl _ _).alloc (Nat.le_refl _) _
      obtain ⟨M, hM⟩ : ∃ M, M = wr.heap.size := ⟨_, rfl⟩
      have HMV : Hid (V.heap[M]? = some (.cells #[.int .i64 ol, .int .i64 il, .slice none 0 0] 73 (0, 0))) := by show _ = _; rw [hV, hM]; exact heap_alloc_last _ _
      have HBV : Hid (Below (N + 2) W V) := HB.out.trans (hbv.mono hWr)
      have HPV : Hid _ := heap_later HPW.out hbv
      have HRV : Hid _ := heap_later HRW.out hbv
      have HUV : Hid _ := HU.out.below hbv
      have hwV : Below w.heap.size w V := HBW.out.trans (HBV.out.mono (by rw [HNE.out]; omega))
      have HWV : Hid (Below w.heap.size w V) := hwV
      have HNM : Hid (N + 2 ≤ M) := by show _ ≤ _; omega
      have k1 := cellAt HPW.out 1 _ rfl
      have p0 := cellAt HPV.out 0 _ rfl
      have p1 := cellAt HPV.out 1 _ rfl
      have p2 := cellAt HPV.out 2 _ rfl
      have p3 := cellAt HPV.out 3 _ rfl
      obtain ⟨L, hL⟩ : ∃ L : List (List F), L = (List.range il).map fun (i : Nat) => rowF il (unX (i : Int)) := ⟨_, rfl⟩
      have HRL : Hid (Rows8 V av L) := by show Rows8 ..; rw [hL]; exact HUV.out.rows
      have HLL : Hid (il = L.length) := by show _ = _; rw [hL]; simp
      have HLE : Hid (L = (List.range il).map fun (i : Nat) => rowF il (unX (i : Int))) := hL
      have HVE : Hid (V = wr.alloc (.cells #[.int .i64 ol, .int .i64 il, .slice none 0 0] 73)) := hV
      have HME : Hid (M = wr.heap.size) := hM
      clear hV hbv hM hL hwV HU HUV
      go_upto_region 10 with fail
      rw [← HVE.out, ← HME.out]
      clear k1 HVE
      go_wp2_with fail
      refine Calls.mono (rrun_F ia oa sa av il ic ol oc sl sc rg il cv il ins outs ss L V (HP.out.below HWV.out) HF.out HLL.out (Nat.le_refl _) (by omega) (by omega) HRL.out (fun i xs hi hx => by
        rw [HLE.out] at hx
        simp only [List.getElem?_map, List.getElem?_range hi, Option.map_some] at hx
        rw [← Option.some.inj hx, rowF_len]
        exact Nat.le_refl _)) ?_
      rintro e Z ⟨Q, rfl, hQ, ho, hz⟩
      have HO : Hid (OutsW Z Q ol il (inX L) ss) := ho
      have HBZ : Hid (Below (N + 2) W Z) := HBV.out.trans (hz.mono (Nat.le_trans hWN HBV.out.size))
      have HMZ : Hid _ := heap_later HMV.out hz
      have HMN : Hid (∀ d : Nat, d < ol → rowF il (runO (inX L) ss noR noR (d : Int)) = rowF il (meanR ss (d : Int))) := fun d hd => rowF_congr fun b hb => by
        refine run_alike (X := inX L) (Y := unX) (b := b) (l := ss) (fun s hs h1 => ?_) noR noR noR noR (fun _ => rfl) (fun _ => rfl) (d : Int)
        have hok := HF.out.2.2.2.2.1 s hs
        unfold OkS at hok
        obtain ⟨q, hq⟩ := Int.eq_ofNat_of_zero_le (show 0 ≤ s.src by omega)
        have hql : q < il := by have := HP.out.eil; omega
        rw [hq, inX_at (xs := rowF il (unX (q : Int))) (by rw [HLE.out]; simp [hql]), at8_rowF hb]
      have HQM : Hid (Q ≠ M) := by have := ltHeap HMV.out; show _ ≠ _; omega
      clear ho hz hQ p0 p1 p2 p3
      generalize wr = wq at *
      have HMR : Hid (∀ d xs, (meanRows il ol ss)[d]? = some xs → d < ol ∧ xs = rowF il (runO (inX L) ss noR noR (d : Int))) := fun d xs hd => by
        have hdl : d < ol := by have := (List.getElem?_eq_some_iff.1 hd).1; rwa [meanRows_len] at this
        refine ⟨hdl, ?_⟩
        simp only [meanRows, List.getElem?_map, List.getElem?_range hdl, Option.map_some] at hd
        rw [← Option.some.inj hd, HMN.out d hdl]
      go_wp2
      go_loopw [38] (fun i wr => ∃ (d : Nat) (v : Value), d ≤ ol ∧ i = .int .i64 d ∧ Z.grownBy wr (some M) ∧ wr.heap[M]? = some (.cells #[.int .i64 ol, .int .i64 il, v] 73 (0, 0)) ∧ wr.ownsRow Z.heap.size 5 1 v (d * il) (((meanRows il ol ss).take d).flatten.map vf)) (fun i _ => ol - (intOf i).toNat)
      case atStart => exact ⟨0, _, Nat.zero_le _, rfl, World.grownBy.refl _ _, HMZ.out, by simpa using World.ownsRow_nil _ _ _ _⟩
      case round =>
        obtain ⟨d, v, hd, rfl, hg, hm, hown⟩ := hrel
        obtain ⟨av2, capv, rfl, hrv, hnv, hnn⟩ := ownB_slice hown
        have HG : Hid (Z.grownBy wr (some M)) := hg
        have HM : Hid _ := hm
        have hzM := ltHeap HMZ.out
        have hzs := hg.size
        by_cases hlt : d < ol
        · obtain ⟨q, c9, hq1, hq2⟩ := HO.out d hlt
          have hqr := row8_mat HMZ.out hg hq2
          have c0 := cell_grown9 hg hq1 HQM.out
          have hki : d * il + il ≤ 4096 := by
            have h1 := Nat.mul_le_mul (show d + 1 ≤ 64 by omega) (show il ≤ 64 by omega)
            rw [Nat.succ_mul] at h1; omega
          obtain ⟨v', w6, hrun, ho6, hgr⟩ := appendB (m := il) (c := c9) 23 hown (rowF_len _ _).symm (by omega) hqr (fun e => by cases e) hzs
          have hm6 := own_other hown hgr hm (by decide)
          have hg6 : Z.grownBy w6 (some M) := ⟨hgr.os.trans hg.os, hgr.tape.trans hg.tape, hgr.output.trans hg.output, Nat.le_trans hg.size hgr.size, fun k9 hk9 hne => (hgr.block k9 (by omega) (fun e1 => by have := (hown.lt k9 e1.symm).1; omega)).trans (hg.block k9 hk9 hne)⟩
          obtain ⟨a6, cap6, rfl, h7, h8, h9⟩ := ownB_slice ho6
          have HRun : Hid _ := hrun
          have HO6 : Hid _ := ho6
          have HM6 : Hid _ := hm6
          have HG6 : Hid (Z.grownBy (w6.setCell ⟨M, 2, none⟩ (.slice a6 (d * il + il) cap6)) (some M)) := grownBy_setCell hg6 _
          have c1 := cellAt hm 2 _ rfl
          have d1 := cellAt hm6 2 _ rfl
          have d2 : w6.frozen? ⟨M, 2, none⟩ = false := frozen_of_row _ _ _ _ _ hm6
          have HTk : Hid (((meanRows il ol ss).take d).flatten ++ rowF il (runO (inX L) ss noR noR (d : Int)) = ((meanRows il ol ss).take (d + 1)).flatten) := by
            show _ = _
            have hdl : d < (meanRows il ol ss).length := by rw [meanRows_len]; exact hlt
            rw [List.take_succ_eq_append_getElem hdl, List.flatten_append, ← (HMR.out d _ (List.getElem?_eq_getElem hdl)).2]; simp
          have hZ6 : Z.heap.size ≤ w6.heap.size := hg6.size
          clear hg hm hown hrv hnv hnn hq1 hq2 hqr hrun ho6 hgr hm6 hg6 h7 h8 h9
          go_wp2_with (at_builtin; refine wpList_append_run rfl _ _ 23 rfl _ _ _ _ rfl rfl HRun.out ?_)
          refine ⟨⟨d + 1, .slice a6 (d * il + il) cap6, by omega, by go_num, HG6.out, ?_, ?_⟩, by simp [intOf]; omega⟩
          · rw [heap_setCell_same _ _ _ _ _ _ HM6.out]; rfl
          · rw [← HTk.out, Nat.succ_mul]
            refine ⟨HO6.out.1, HO6.out.2.imp id fun ⟨g, cap, cur, h1, h2, h3, h4⟩ => ⟨g, cap, cur, h1, h2, ?_, h4⟩⟩
            rw [heap_setCell_other _ _ _ _ (by show g ≠ M; omega)]; exact h3
        · obtain rfl : ol = d := by omega
          have hfull : (meanRows il ol ss).take ol = meanRows il ol ss := List.take_of_length_le (by rw [meanRows_len]; exact Nat.le_refl _)
          rw [hfull] at hrv hown
          have HRV : Hid _ := hrv
          have hNM := HNM.out
          have k1 := (hg.block (N + 1) (by omega) (fun e => by have := Option.some.inj e; omega)).trans ((HBZ.out.block (N + 1) (by omega)).trans HRX.out)
          have c1 := cellAt hm 0 _ rfl
          have c2 := cellAt hm 1 _ rfl
          have c3 := cellAt hm 2 _ rfl
          have c4 := cellAt k1 0 _ rfl
          have c5 := cellAt k1 1 _ rfl
          have c6 := cellAt k1 2 _ rfl
          have d4 : wr.frozen? ⟨N + 1, 0, none⟩ = false := frozen_of_row _ _ _ _ _ k1
          have d5 : wr.frozen? ⟨N + 1, 1, none⟩ = false := frozen_of_row _ _ _ _ _ k1
          have d6 : wr.frozen? ⟨N + 1, 2, none⟩ = false := frozen_of_row _ _ _ _ _ k1
          have z6 := ltHeap k1
          have HOW : Hid _ := hown
          have HCV : Hid (ol * il ≤ capv) := by
            rcases hown.2 with ⟨e9, _⟩ | ⟨g9, cap9, cur9, e9, _, _, hle, _⟩
            · injection e9 with e1 e2 e3
              show _ ≤ _
              omega
            · injection e9 with e1 e2 e3
              show _ ≤ _
              omega
          have hNw : w.heap.size = N := HNE.out.symm
          have hbz : Below w.heap.size w Z := HBW.out.trans (HBZ.out.mono (by omega))
          have HBF : Hid (Below w.heap.size w wr) := below_of_grown9 hbz hg (by omega) (by have := hbz.size; omega)
          have HZS : Hid (N + 2 ≤ Z.heap.size) := by show _ ≤ _; omega
          clear hg hm hown hrv hnv hnn k1 hfull hNw hbz
          go_wp2
          refine bodyPost_ret (v := .agg #[.int .i64 ol, .int .i64 il, .slice av2 (ol * il) capv]) (by simp [results, Tryz.results40, go_sem, c4, c5, c6, z6]) rfl ⟨av2, ol * il, capv, rfl, rfl, HCV.out, ?_, ?_⟩
          · rcases HRV.out with e | ⟨b1, o1, e1, h1⟩
            · exact .inl e
            · refine .inr ⟨b1, o1, e1, fun j hj => ?_⟩
              have hne : b1 ≠ N + 1 := by
                have := World.ownsRow.lt (w := wr) (base := Z.heap.size) (e := 5) (size := 1) HOW.out b1 (by rw [e1]; rfl)
                have := HZS.out
                omega
              rw [World.cell?_setCell_far _ _ _ _ (by show N + 1 ≠ b1; omega), World.cell?_setCell_far _ _ _ _ (by show N + 1 ≠ b1; omega), World.cell?_setCell_far _ _ _ _ (by show N + 1 ≠ b1; omega)]
              exact h1 j hj
          · exact ((HBF.out.setCell (by show w.heap.size ≤ N + 1; have := HNE.out; omega) _).setCell (by show w.heap.size ≤ N + 1; have := HNE.out; omega) _).setCell (by show w.heap.size ≤ N + 1; have := HNE.out; omega) _
end Go.Proofs.YtkoakingmnjdoaaGreatDoor

/- The document's own Good, In, Left and Kind of lost halves. -/
namespace Go.Proofs.YtkoakingmnjdoaaGreatDoor
open Go.RowKit Go.Maps Gf
set_option linter.unusedVariables false
set_option maxRecDepth 20000
theorem goodH_step2 {n i : Nat} {xs : List Int} {x y : Int} (h : i < xs.length) (hx : xs[i] = x) (hy : xs.getD (i - 1) 0 = y) (hg : GoodH n (xs.take i)) : GoodH n (xs.take (i + 1)) ↔ (0 ≤ x ∧ x < n) ∧ (i = 0 ∨ y < x) := by
  rw [goodH_step h hg, hx]
  have hl : (xs.take i).length = i := by rw [List.length_take]; omega
  have e1 : xs.take i = [] ↔ i = 0 := by rw [← List.length_eq_zero_iff, hl]
  by_cases h0 : i = 0
  · simp [h0]
  · have e2 : (xs.take i).getD (i - 1) 0 = y := by
      rw [← hy, List.getD, List.getElem?_take_of_lt (by omega), ← List.getD]
    rw [hl, e2, e1]
theorem goodH_full {n i : Nat} {xs : List Int} (h : ¬ GoodH n (xs.take (i + 1))) : ¬ GoodH n xs := fun h2 => h (goodH_take h2 _)
noncomputable def goodB (n : Nat) (xs : List Int) : Bool := @decide (GoodH n xs) (Classical.propDecidable _)
theorem goodB_yes {n : Nat} {xs : List Int} (h : GoodH n xs) : goodB n xs = true := @decide_eq_true _ (Classical.propDecidable _) h
theorem goodB_no {n : Nat} {xs : List Int} (h : ¬ GoodH n xs) : goodB n xs = false := @decide_eq_false _ (Classical.propDecidable _) h
set_option maxHeartbeats 2000000 in
theorem rgood_F (k r l cap : Nat) (a : Option Addr) (xs : List Int) (w : World) (h3 : k + r ≤ 16) (hl : l = xs.length) (hl9 : l ≤ 4611686018427387904) (hcap : l ≤ cap) (hX : RowI w a xs) :
    Calls Tryz.prog 16 #[.int .i64 k, .int .i64 r, .slice a l cap] w fun e w' => e = .returned (.bool (goodB (2 * (k + r)) xs)) ∧ w = w' := by
  obtain ⟨d, hd⟩ : ∃ d, d = goodB (2 * (k + r)) xs := ⟨_, rfl⟩
  have HY : Hid (GoodH (2 * (k + r)) xs → d = true) := fun h => hd.trans (goodB_yes h)
  have HN0 : Hid (¬ GoodH (2 * (k + r)) xs → d = false) := fun h => hd.trans (goodB_no h)
  rw [← hd]
  clear hd
  have HL : Hid (l = xs.length) := hl
  have HX : Hid (RowI w a xs) := hX
  clear hl hX
  go_enter Tryz.func16, Tryz.ntmps16
  go_wp2
  go_loopw [11] (fun i wr => ∃ j : Nat, j ≤ l ∧ i = .int .i64 j ∧ wr = w ∧ GoodH (2 * (k + r)) (xs.take j)) (fun i _ => l - (intOf i).toNat)
  case atStart => exact ⟨0, by omega, rfl, rfl, by rw [List.take_zero]; exact goodH_nil _⟩
  case round =>
    obtain ⟨j, hj, rfl, rfl, hg⟩ := hrel
    have HG : Hid (GoodH (2 * (k + r)) (xs.take j)) := hg
    clear hg
    by_cases hlt : j < l
    · have hjx : j < xs.length := by rw [← HL.out]; exact hlt
      obtain ⟨b, off, hab, hbl, hc⟩ := rowI_cell HX.out hjx
      have c1 := hc j hjx
      have c0 := hc (j - 1) (by omega)
      rw [show xs.getD j 0 = xs[j] by simp [List.getD, hjx]] at c1
      obtain ⟨x, hx⟩ : ∃ x, xs[j] = x := ⟨_, rfl⟩
      obtain ⟨y, hy⟩ : ∃ y, xs.getD (j - 1) 0 = y := ⟨_, rfl⟩
      have HS : Hid _ := goodH_step2 (n := 2 * (k + r)) hjx hx hy HG.out
      have HF : Hid (¬ GoodH (2 * (k + r)) (xs.take (j + 1)) → ¬ GoodH (2 * (k + r)) xs) := fun h => goodH_full h
      rw [hx] at c1
      rw [hy] at c0
      clear hx hy hc hjx
      subst hab
      by_cases n1 : x < 0
      · have HB : Hid _ := HF.out (fun h => by have := (HS.out.1 h).1; omega)
        clear HS HF c0
        go_wp2
        go_ret
        exact ⟨by rw [HN0.out HB.out]; rfl, rfl⟩
      by_cases n2 : 2 * ((k : Int) + r) ≤ x
      · have HB : Hid _ := HF.out (fun h => by have := (HS.out.1 h).1; omega)
        clear HS HF c0
        go_wp2
        go_ret
        exact ⟨by rw [HN0.out HB.out]; rfl, rfl⟩
      by_cases n3 : j = 0
      · have HN : Hid _ := HS.out.2 ⟨by omega, .inl n3⟩
        clear HS HF c0
        subst n3
        rw [Nat.add_zero] at c1
        go_wp2
        exact ⟨⟨1, by omega, by go_num, by first | rfl | trivial, HN.out⟩, by simp [intOf]; omega⟩
      obtain ⟨q, rfl⟩ : ∃ q, j = q + 1 := ⟨j - 1, by omega⟩
      rw [Nat.add_sub_cancel] at c0
      by_cases n4 : x ≤ y
      · have HB : Hid _ := HF.out (fun h => by have := (HS.out.1 h).2; omega)
        clear HS HF
        go_wp2
        go_ret
        exact ⟨by rw [HN0.out HB.out]; rfl, rfl⟩
      · have HN : Hid _ := HS.out.2 ⟨by omega, .inr (by omega)⟩
        clear HS HF
        go_wp2
        exact ⟨⟨q + 1 + 1, by omega, by go_num, by first | rfl | trivial, HN.out⟩, by simp [intOf]; omega⟩
    · obtain rfl : j = l := by omega
      have HF : Hid (GoodH (2 * (k + r)) xs) := by have := HG.out; rwa [HL.out, List.take_length] at this
      go_wp2
      go_ret
      exact ⟨by rw [HY.out HF.out]; rfl, rfl⟩
set_option maxHeartbeats 1000000 in
theorem rin_F (l cap : Nat) (a : Option Addr) (ns : List Int) (x : Int) (w : World) (hl : l = ns.length) (hl9 : l ≤ 4611686018427387904) (hX : RowI w a ns) :
    Calls Tryz.prog 27 #[.slice a l cap, .int .i64 x] w fun e w' => e = .returned (.bool (decide (x ∈ ns))) ∧ w = w' := by
  have HL : Hid (l = ns.length) := hl
  have HX : Hid (RowI w a ns) := hX
  obtain ⟨d, hd⟩ : ∃ d, d = decide (x ∈ ns) := ⟨_, rfl⟩
  have HD : Hid (d = decide (x ∈ ns)) := hd
  rw [← hd]
  clear hl hX hd
  go_enter Tryz.func27, Tryz.ntmps27
  go_wp2
  go_loopw [9] (fun i wr => ∃ j : Nat, j ≤ l ∧ i = .int .i64 j ∧ wr = w ∧ (∀ q, q < j → ns[q]? ≠ some x)) (fun i _ => l - (intOf i).toNat)
  case atStart => exact ⟨0, by omega, rfl, rfl, fun q h => by omega⟩
  case round =>
    obtain ⟨j, hj, rfl, rfl, hq⟩ := hrel
    have HQ : Hid (∀ q, q < j → ns[q]? ≠ some x) := hq
    clear hq
    by_cases hlt : j < l
    · obtain ⟨b, off, rfl, hb, hc⟩ := rowI_cell HX.out (show j < ns.length by rw [← HL.out]; exact hlt)
      have c1 := hc j (by rw [← HL.out]; exact hlt)
      obtain ⟨y, hy⟩ : ∃ y, y = ns.getD j 0 := ⟨_, rfl⟩
      rw [← hy] at c1
      have HY : Hid (ns[j]? = some y) := by
        show _ = _
        rw [hy, List.getD_eq_getElem?_getD, List.getElem?_eq_getElem (by rw [← HL.out]; exact hlt)]; rfl
      clear hc hy
      by_cases he : y = x
      · have he' : (y == x) = true := by simp [he]
        have HT : Hid (d = true) := by show _ = _; rw [HD.out]; exact decide_eq_true (by rw [← he]; exact List.mem_of_getElem? HY.out)
        clear he HY HD HQ
        go_wp2
        go_ret
        exact ⟨by rw [HT.out]; rfl, rfl⟩
      · have he' : (y == x) = false := by simp [he]
        have HE : Hid (¬ y = x) := he
        clear he
        go_wp2
        refine ⟨⟨j + 1, by omega, by go_num, by first | rfl | trivial, fun q hq => ?_⟩, by simp [intOf]; omega⟩
        by_cases hqj : q < j
        · exact HQ.out q hqj
        · obtain rfl : q = j := by omega
          rw [HY.out]
          exact fun h => HE.out (Option.some.inj h)
    · obtain rfl : j = l := by omega
      have HT : Hid (d = false) := by
        show _ = _
        rw [HD.out]
        refine decide_eq_false fun h => ?_
        obtain ⟨q, hq⟩ := List.mem_iff_getElem?.1 h
        exact absurd hq (HQ.out q (by have := (List.getElem?_eq_some_iff.1 hq).1; rw [HL.out]; exact this))
      clear HD HQ
      go_wp2
      go_ret
      exact ⟨by rw [HT.out]; rfl, rfl⟩
theorem leftL_step (m : Nat) (ns : List Nat) : leftL (m + 1) ns = leftL m ns ++ (if m ∈ ns then [] else [m]) := by
  rw [leftL, List.range_succ, List.filter_append, ← leftL]
  congr 1
  by_cases h : m ∈ ns <;> simp [h]
set_option maxHeartbeats 4000000 in
theorem rleft_F (k r l cap : Nat) (a : Option Addr) (ns : List Nat) (w : World) (h3 : k + r ≤ 16) (hl : l = ns.length) (hl9 : l ≤ 4611686018427387904) (hX : RowI w a (natJ8 ns)) :
    Calls Tryz.prog 29 #[.int .i64 k, .int .i64 r, .slice a l cap] w fun e w' => ∃ v, e = .returned v ∧ ListOf w' w.heap.size v (leftL (2 * (k + r)) ns) ∧ Below w.heap.size w w' := by
  have HL : Hid (l = ns.length) := hl
  have HX : Hid (RowI w a (natJ8 ns)) := hX
  obtain ⟨n, hn⟩ : ∃ n, n = 2 * (k + r) := ⟨_, rfl⟩
  rw [← hn]
  have en : (2 : Int) * ((k : Int) + r) = n := by omega
  have hn32 : n ≤ 32 := by omega
  have HN : Hid _ := hn
  clear hl hX hn
  go_enter Tryz.func29, Tryz.ntmps29
  go_wp2
  have HO0 : Hid ((w.alloc (.cells #[] 3)).ownsRow w.heap.size 3 1 (.slice (some ⟨w.heap.size, 0, none⟩) 0 0) 0 ((natJ8 (leftL 0 ns)).map (Value.int .i64))) := ⟨rfl, .inr ⟨w.heap.size, 0, #[], rfl, Nat.le_refl _, heap_alloc_last _ _, Nat.le_refl _, by decide, rfl, rfl⟩⟩
  go_loopw [8, 7] (fun i v wr => ∃ j : Nat, j ≤ n ∧ i = .int .i64 j ∧ (∃ av cv, v = .slice av (leftL j ns).length cv) ∧ Below w.heap.size w wr ∧ wr.ownsRow w.heap.size 3 1 v (leftL j ns).length ((natJ8 (leftL j ns)).map (Value.int .i64))) (fun i _ _ => n - (intOf i).toNat)
  case atStart => exact ⟨0, by omega, rfl, ⟨_, _, rfl⟩, (Below.refl _ _).alloc (Nat.le_refl _) _, HO0.out⟩
  case round =>
    obtain ⟨j, hj, rfl, ⟨av, cv, rfl⟩, hb, ho⟩ := hrel
    have HB : Hid _ := hb
    clear hb
    by_cases hlt : j < n
    · have hs := leftL_step j ns
      have HWL : Hid _ := leftL_le j ns
      have HIN : Hid (decide ((j : Int) ∈ natJ8 ns) = decide (j ∈ ns)) := by show _ = _; simp only [natJ8_mem]
      have hlt2 : (j : Int) < 2 * ((k : Int) + r) := by omega
      by_cases q1 : j ∈ ns
      · rw [if_pos q1, List.append_nil] at hs
        have HS : Hid _ := hs
        have HO : Hid (wr.ownsRow w.heap.size 3 1 (.slice av (leftL j ns).length cv) (leftL j ns).length ((natJ8 (leftL j ns)).map (Value.int .i64))) := ho
        have HQ : Hid (decide (j ∈ ns) = true) := decide_eq_true q1
        clear hs ho q1
        go_wp2_with fail
        refine Calls.mono (rin_F l cap a (natJ8 ns) j _ (by rw [natJ8_len]; exact HL.out) hl9 (rowI_below HX.out HB.out)) ?_
        rw [HIN.out, HQ.out]
        rintro e w4 ⟨rfl, rfl⟩
        go_wp2
        exact ⟨⟨j + 1, by omega, by go_num, ⟨av, cv, by rw [HS.out]⟩, HB.out, by rw [HS.out]; exact HO.out⟩, by simp [intOf]; omega⟩
      · rw [if_neg q1] at hs
        have hb5 := HB.out.alloc HB.out.size (.cells #[.int .i64 j] 3)
        have ho5 := ho.alloc (.cells #[.int .i64 j] 3)
        obtain ⟨g2, cap2, w6, hrun, ho2, hgr, hor, hlt2⟩ := appendI (b := wr.heap.size) (c := 1) (x := (j : Int)) 22 ho5 (cellAt (heap_alloc_last wr (.cells #[.int .i64 j] 3)) 0 _ rfl) (by have := HWL.out; omega) (by have := HB.out.size; simp; omega)
        have hb6 := below_own hb5 ho5 hgr (by have := HB.out.size; simp; omega)
        have hn6 : (leftL (j + 1) ns).length = (leftL j ns).length + 1 := by rw [hs]; simp
        have hv6 : (natJ8 (leftL j ns)).map (Value.int .i64) ++ [.int .i64 (j : Int)] = (natJ8 (leftL (j + 1) ns)).map (Value.int .i64) := by rw [hs]; simp [natJ8]
        rw [hv6] at ho2
        have HRun : Hid _ := hrun
        have HO2 : Hid (w6.ownsRow w.heap.size 3 1 (.slice (some ⟨g2, 0, none⟩) ((leftL j ns).length + 1) cap2) ((leftL j ns).length + 1) ((natJ8 (leftL (j + 1) ns)).map (Value.int .i64))) := ho2
        have HB6 : Hid _ := hb6
        have HN6 : Hid _ := hn6
        have HQ : Hid (decide (j ∈ ns) = false) := decide_eq_false q1
        clear hs ho q1 hb5 ho5 hrun ho2 hgr hor hlt2 hb6 hn6 hv6
        go_wp2_with fail
        refine Calls.mono (rin_F l cap a (natJ8 ns) j _ (by rw [natJ8_len]; exact HL.out) hl9 (rowI_below HX.out HB.out)) ?_
        rw [HIN.out, HQ.out]
        rintro e w4 ⟨rfl, rfl⟩
        go_wp2_with (at_builtin; refine wpList_append_run rfl _ _ 22 rfl _ _ _ _ rfl rfl HRun.out ?_)
        exact ⟨⟨j + 1, by omega, by go_num, ⟨_, _, by rw [HN6.out]⟩, HB6.out, by rw [HN6.out]; exact HO2.out⟩, by simp [intOf]; omega⟩
    · obtain rfl : j = n := by omega
      have HV : Hid (ListOf wr w.heap.size (.slice av (leftL j ns).length cv) (leftL j ns)) := listOf_own (Nat.le_refl _) rfl ho
      have hlt2 : ¬ (j : Int) < 2 * ((k : Int) + r) := by omega
      clear ho
      go_wp2
      go_ret
      exact ⟨_, rfl, HV.out, HB.out⟩
end Go.Proofs.YtkoakingmnjdoaaGreatDoor

/- The document's own Right answers true of a right program. -/
namespace Go.Proofs.YtkoakingmnjdoaaGreatDoor
open Go.RowKit Gf
set_option linter.unusedVariables false
set_option maxRecDepth 20000
set_option linter.unusedSimpArgs false
theorem PrgW.inFormP {w : World} {ia oa sa : Option Addr} {il ic ol oc sl sc : Nat} {rg : Int} {ins outs : List Int} {ss : List Stp} (h : PrgW w ia oa sa il ic ol oc sl sc ins outs ss) :
    Calls Tryz.prog 38 #[.agg #[.slice ia il ic, .slice oa ol oc, .int .i64 rg, .slice sa sl sc]] w fun e w' => e = .returned (.bool (inFB ins outs rg ss)) ∧ Below w.heap.size w w' :=
  inForm_F ia oa sa il ic ol oc sl sc ins outs rg ss w h.eil h.eol h.esl h.i9 h.o9 h.s9 h.cil h.col h.I h.O h.S
/-- a right program's meaning times the rows of what it reads is the rows of what it makes -/
theorem made_product {k r : Nat} {lost W I : List Nat} {ss : List Stp} (h : MadeP k r lost W I ss) : mulM I.length (2 * k) (meanL I.length W.length ss) (grid (2 * k) (fun i => halfF k (carN (groupN k r)) (I.getD i 0)) I.length) W.length = grid (2 * k) (fun i => halfF k (carN (groupN k r)) (W.getD i 0)) W.length := by
  have e1 : meanL I.length W.length ss = grid I.length (fun d i => meanR ss (d : Int) i) W.length := (grid_flat _ _ _).symm
  unfold mulM
  refine grid_congr fun o j ho hj => ?_
  have h2 := h.makes (fun i b => halfF k (carN (groupN k r)) (I.getD i.toNat 0) b) (fun l => if l = j then 1 else 0) j (fun i x hi => by
    have e : I.getD i 0 = x := by rw [List.getD_eq_getElem?_getD, hi]; rfl
    simp only [Int.toNat_natCast]
    rw [e, sum_unit _ hj]) o ho
  rw [sum_unit _ hj] at h2
  rw [← h2, run_mean _ I.length j (fun s hs h1 => by
    have hok := h.form.2.2.2.2.1 s hs
    unfold OkS at hok
    rw [natJ8_len] at hok
    omega) (o : Int)]
  refine sumF_congr fun i hi => ?_
  rw [e1, at8_grid ho hi, at8_grid hi hj]
  simp only [Int.toNat_natCast]
  rfl
theorem strEq8T (xs : List F) : ((str8 xs).toList == (str8 xs).toList) = true := by simp
theorem kind_neM {w : World} {a b : Nat} {cs ds : Array Value} {t u : TypeId} {f1 f2 : Nat × Nat} (h1 : w.heap[a]? = some (.cells cs t f1)) (h2 : w.heap[b]? = some (.cells ds u f2)) (h : t ≠ u) : a ≠ b := fun e => by
  rw [e, h2] at h1
  injection h1 with h1
  injection h1 with _ h3 _
  exact h h3.symm
theorem storeM3 {w : World} {M : Nat} {a b c v0 v1 v2 : Value} {t : TypeId} (h : w.heap[M]? = some (.cells #[a, b, c] t (0, 0))) : (((w.setCell ⟨M, 0, none⟩ v0).setCell ⟨M, 1, none⟩ v1).setCell ⟨M, 2, none⟩ v2).heap[M]? = some (.cells #[v0, v1, v2] t (0, 0)) := by
  rw [heap_setCell_same _ _ _ _ _ _ (heap_setCell_same _ _ _ _ _ _ (heap_setCell_same _ _ _ _ _ _ h))]; rfl
theorem storeM3_other {w : World} {M g : Nat} {o : Obj} {v0 v1 v2 : Value} (h : w.heap[g]? = some o) (hne : g ≠ M) : (((w.setCell ⟨M, 0, none⟩ v0).setCell ⟨M, 1, none⟩ v1).setCell ⟨M, 2, none⟩ v2).heap[g]? = some o := by
  rw [heap_setCell_other _ _ _ _ hne, heap_setCell_other _ _ _ _ hne, heap_setCell_other _ _ _ _ hne]; exact h
set_option maxRecDepth 100000 in
set_option maxHeartbeats 16000000 in
theorem right_F (k r ll lc wl wcap B : Nat) (la wa : Option Addr) (lost W : List Nat) (v : Value) (w : World) (h1 : 1 ≤ k) (h2 : 2 ≤ r) (h3 : k + r ≤ 16) (hl : ll = lost.length) (hl9 : ll ≤ 1000) (hX : RowI w la (natJ8 lost)) (hwl : wl = W.length) (hW : RowI w wa (natJ8 W)) (hWr : ∀ x ∈ W, x < 2 * (k + r)) (hv : ProgAt w B k r lost W v) :
    Calls Tryz.prog 18 #[.int .i64 k, .int .i64 r, .slice la ll lc, .slice wa wl wcap, v] w fun e w' => e = .returned (.bool true) ∧ Below w.heap.size w w' := by
  obtain ⟨ia, ic, oa, oc, ta, tc, tl, I, ss, rfl, hpw, hup, hmd⟩ := hv
  obtain ⟨il, hil⟩ : ∃ il, il = I.length := ⟨_, rfl⟩
  have hIr : ∀ x ∈ I, x < 2 * (k + r) := fun x hx => (hmd.low x hx).1
  have hIu : I.Pairwise (· < ·) := by have := hmd.form.1.1; rw [natJ8, List.pairwise_map] at this; exact this.imp fun h => by omega
  have hWu : W.Pairwise (· < ·) := by have := hmd.form.2.1.1; rw [natJ8, List.pairwise_map] at this; exact this.imp fun h => by omega
  have hi32 : il ≤ 32 := by have := pair_len hIu hIr; omega
  have hw32 : wl ≤ 32 := by have := pair_len hWu hWr; omega
  have HPR : Hid (mulM il (2 * k) (meanL il wl ss) (grid (2 * k) (fun i => halfF k (carN (groupN k r)) (I.getD i 0)) il) wl = grid (2 * k) (fun i => halfF k (carN (groupN k r)) (W.getD i 0)) wl) := by
    show _ = _
    rw [hil, hwl]; exact made_product hmd
  rw [← hil, ← hwl] at hpw
  rw [← hil, ← hwl]
  obtain ⟨rg, hrg⟩ : ∃ rg : Nat, rg = wl + 1 := ⟨_, rfl⟩
  have HF : Hid (InF (natJ8 I) (natJ8 W) rg ss) := by
    have := hmd.form
    rw [show (W.length : Int) + 1 = (rg : Int) by omega] at this
    exact this
  rw [← hrg]
  have HPW : Hid (PrgW w ia oa ta il ic wl oc tl tc (natJ8 I) (natJ8 W) ss) := hpw
  have HLOW : Hid (∀ x ∈ I, x < 2 * (k + r) ∧ x ∉ lost) := hmd.low
  have HIL : Hid (il = I.length) := hil
  have HWL : Hid (wl = W.length) := hwl
  have HLL : Hid (ll = lost.length) := hl
  have HX : Hid (RowI w la (natJ8 lost)) := hX
  have HW : Hid (RowI w wa (natJ8 W)) := hW
  have HIR : Hid (∀ x ∈ I, x < 2 * (k + r)) := hIr
  have HWR : Hid (∀ x ∈ W, x < 2 * (k + r)) := hWr
  have hb0 : Below w.heap.size w (w.alloc (.cells #[.slice ia il ic, .slice oa wl oc, .int .i64 rg, .slice ta tl tc] 30)) := (Below.refl _ _).alloc (Nat.le_refl _) _
  have HB0 : Hid (Below w.heap.size w (w.alloc (.cells #[.slice ia il ic, .slice oa wl oc, .int .i64 rg, .slice ta tl tc] 30))) := hb0
  have HX0 : Hid ((w.alloc (.cells #[.slice ia il ic, .slice oa wl oc, .int .i64 rg, .slice ta tl tc] 30)).heap[w.heap.size]? = some (.cells #[.slice ia il ic, .slice oa wl oc, .int .i64 rg, .slice ta tl tc] 30 (0, 0))) := heap_alloc_last _ _
  clear hpw hup hmd hil hIr hIu hWu hrg hl hX hwl hW hWr hb0
  go_enter Tryz.func18, Tryz.ntmps18
  go_wp2_with fail
  refine Calls.mono ((HPW.out.below HB0.out).inFormP) ?_
  rw [inFB_yes HF.out]
  rintro e Y ⟨rfl, hy⟩
  have HB1 : Hid (Below w.heap.size w Y) := HB0.out.trans (hy.mono HB0.out.size)
  have HX1 : Hid _ := heap_later HX0.out hy
  clear hy HX0 HB0
  have k1 := cellAt HX1.out 1 _ rfl
  go_wp2
  clear k1
  go_loopw [31] (fun t wr => ∃ j : Nat, j ≤ wl ∧ t = .int .i64 j ∧ wr = Y) (fun t _ => wl - (intOf t).toNat)
  case atStart => exact ⟨0, Nat.zero_le _, rfl, rfl⟩
  case round =>
    obtain ⟨j, hj, rfl, rfl⟩ := hrel
    by_cases hlt : j < wl
    · have hjW : j < (natJ8 W).length := by rw [natJ8_len, ← HWL.out]; exact hlt
      obtain ⟨b1, o1, rfl, _, hc1⟩ := rowI_cell (rowI_below HPW.out.O HB1.out) hjW
      have c1 := hc1 j hjW
      obtain ⟨b2, o2, rfl, _, hc2⟩ := rowI_cell (rowI_below HW.out HB1.out) hjW
      have c2 := hc2 j hjW
      generalize (natJ8 W).getD j 0 = x at *
      clear hc1 hc2 hjW
      go_wp2
      exact ⟨⟨j + 1, by omega, by go_num, by first | rfl | trivial⟩, by simp [intOf]; omega⟩
    · obtain rfl : wl = j := by omega
      have k0 := cellAt HX1.out 0 _ rfl
      go_wp2
      clear k0
      generalize wr = Y at *
      go_loopw [46] (fun t wr => ∃ j : Nat, j ≤ il ∧ t = .int .i64 j ∧ wr = Y) (fun t _ => il - (intOf t).toNat)
      case atStart => exact ⟨0, Nat.zero_le _, rfl, rfl⟩
      case round =>
        obtain ⟨j, hj, rfl, rfl⟩ := hrel
        by_cases hlt : j < il
        · have hjI : j < I.length := by rw [← HIL.out]; exact hlt
          obtain ⟨x, hx⟩ : ∃ x, I[j]? = some x := ⟨_, List.getElem?_eq_getElem hjI⟩
          have hxm := List.mem_of_getElem? hx
          rcases (rowI_below HPW.out.I HB1.out) with e0 | ⟨b, off, rfl, hrows⟩
          · have := congrArg List.length e0
            rw [natJ8_len, List.length_nil] at this
            omega
          have c1 := hrows j (x : Int) (natJ8_at hx)
          have hx1 := (HLOW.out x hxm).1
          have hx2 := (HLOW.out x hxm).2
          have hx3 : ¬ (2 * ((k : Int) + (r : Int)) ≤ (x : Int)) := by omega
          have HIN : Hid _ := rin_F ll lc la (natJ8 lost) (x : Int) wr (by rw [natJ8_len]; exact HLL.out) (by omega) (rowI_below HX.out HB1.out)
          have hdm : decide ((x : Int) ∈ natJ8 lost) = false := decide_eq_false (fun h => hx2 (natJ8_mem.1 h))
          rw [hdm] at HIN
          clear hjI hx hxm hrows hx1 hx2 hdm
          go_wp2_with fail
          refine Calls.mono HIN.out ?_
          rintro e w5 ⟨rfl, rfl⟩
          go_wp2
          exact ⟨⟨j + 1, by omega, by go_num, by first | rfl | trivial⟩, by simp [intOf]; omega⟩
        · obtain rfl : il = j := by omega
          generalize wr = Y at *
          have PB0 : Hid (∀ u, Below Y.heap.size Y u → u.cell? ⟨w.heap.size, 0, none⟩ = some (.slice ia il ic)) := fun u hu => cellAt (heap_later HX1.out hu) 0 _ rfl
          have PB1 : Hid (∀ u, Below Y.heap.size Y u → u.cell? ⟨w.heap.size, 1, none⟩ = some (.slice oa wl oc)) := fun u hu => cellAt (heap_later HX1.out hu) 1 _ rfl
          have PB2 : Hid (∀ u, Below Y.heap.size Y u → u.cell? ⟨w.heap.size, 2, none⟩ = some (.int .i64 rg)) := fun u hu => cellAt (heap_later HX1.out hu) 2 _ rfl
          have PB3 : Hid (∀ u, Below Y.heap.size Y u → u.cell? ⟨w.heap.size, 3, none⟩ = some (.slice ta tl tc)) := fun u hu => cellAt (heap_later HX1.out hu) 3 _ rfl
          have HYD : Hid (Below Y.heap.size Y Y.drew) := (Below.refl _ _).drew
          go_upto_region 15 with fail
          go_cut [15] (fun s wx => ∃ M g m : Nat, s = .pointer (some ⟨M, 0, none⟩) ∧ wx.heap[M]? = some (.cells #[.int .i64 wl, .int .i64 (2 * k : Nat), .slice (some ⟨g, 0, none⟩) m m] 73 (0, 0)) ∧ m = wl * (2 * k) ∧ wx.heap[g]? = some (.cells (vfs (grid (2 * k) (fun i => halfF k (carN (groupN k r)) (W.getD i 0)) wl)) 5 (0, 0)) ∧ Below Y.heap.size Y wx)
          case first =>
            refine wp_region_noPanic ?_
            refine wp_region_held_drew (S := fun u => Below Y.heap.size Y u) (by kernel_rfl) ?_ (fun hHeld => ?_)
            · exact HYD.out
            refine wpAnyH_take (i := 0) (oi := { dst := some 62, op := Op.load 30 (Operand.tmp 9), type := 30, pos := "ref.go:48", after := #[], guard := none }) (v := ?_) rfl (by kernel_rfl) (by kernel_rfl) (by kernel_rfl) (fun _ _ _ h => h) (Or.inl ⟨by rfl, ?_⟩) hHeld ?_
            rotate_left
            · intro u hSw
              have q0 := PB0.out u hSw
              have q1 := PB1.out u hSw
              have q2 := PB2.out u hSw
              have q3 := PB3.out u hSw
              go_simp
              try with_reducible rfl
            try simp only [Act.put, List.setIfInBounds_toArray, List.set_cons_zero, List.set_cons_succ]
            refine wpAnyH_take (i := 2) (oi := { dst := some 64, op := Op.move (Operand.tmp 0), type := 3, pos := "ref.go:48", after := #[], guard := none }) (v := ?_) rfl (by kernel_rfl) (by kernel_rfl) (by kernel_rfl) (fun _ _ _ h => h) (Or.inl ⟨by rfl, ?_⟩) hHeld ?_
            rotate_left
            · intro u hSw
              go_simp
              try with_reducible rfl
            try simp only [Act.put, List.setIfInBounds_toArray, List.set_cons_zero, List.set_cons_succ]
            refine wpAnyH_take (i := 3) (oi := { dst := some 65, op := Op.move (Operand.tmp 1), type := 3, pos := "ref.go:48", after := #[], guard := none }) (v := ?_) rfl (by kernel_rfl) (by kernel_rfl) (by kernel_rfl) (fun _ _ _ h => h) (Or.inl ⟨by rfl, ?_⟩) hHeld ?_
            rotate_left
            · intro u hSw
              go_simp
              try with_reducible rfl
            try simp only [Act.put, List.setIfInBounds_toArray, List.set_cons_zero, List.set_cons_succ]
            refine wpAnyH_take (i := 4) (oi := { dst := some 66, op := Op.fieldAddr 30 (Operand.tmp 9) 0, type := 0, pos := "ref.go:48", after := #[], guard := none }) (v := ?_) rfl (by kernel_rfl) (by kernel_rfl) (by kernel_rfl) (fun _ _ _ h => h) (Or.inl ⟨by rfl, ?_⟩) hHeld ?_
            rotate_left
            · intro u hSw
              go_simp
              try with_reducible rfl
            try simp only [Act.put, List.setIfInBounds_toArray, List.set_cons_zero, List.set_cons_succ]
            refine wpAnyH_take (i := 5) (oi := { dst := some 67, op := Op.load 22 (Operand.tmp 66), type := 22, pos := "ref.go:48", after := #[{ on := 4, ground := Ground.data }], guard := none }) (v := ?_) rfl (by kernel_rfl) (by kernel_rfl) (by kernel_rfl) (fun _ _ _ h => h) (Or.inl ⟨by rfl, ?_⟩) hHeld ?_
            rotate_left
            · intro u hSw
              have q0 := PB0.out u hSw
              go_simp
              try with_reducible rfl
            try simp only [Act.put, List.setIfInBounds_toArray, List.set_cons_zero, List.set_cons_succ]
            refine wpAnyH_ready (rs := [1, 8]) (by kernel_rfl) (by simp) ?_
            refine (AllReadyH.cons (o := { dst := some 63, op := Op.call { callee := Callee.value (Operand.func 40), args := #[Operand.tmp 62], argTypes := #[30] }, type := 73, pos := "ref.go:48", after := #[{ on := 0, ground := Ground.data }], guard := none }) rfl (fun K hK => ?_) (AllReadyH.cons (o := { dst := some 15, op := Op.alloc 73, type := 0, pos := "ref.go:48", after := #[], guard := none }) rfl (fun K hK => ?_) AllReadyH.nil))
            · go_simp
              refine Calls.mono (rmeaning_F ia oa ta il ic wl oc tl tc rg (natJ8 I) (natJ8 W) ss _ (HPW.out.below (HB1.out.trans (Below.mono HYD.out HB1.out.size))) HF.out) ?_
              rintro e X1 ⟨am, nm, cm, rfl, hnm, hcm, hrm, hx1⟩
              have HB_X1 : Hid (Below Y.heap.size Y X1) := Below.trans HYD.out (Below.mono hx1 (below_size HYD.out))
              have HMX1 : Hid (Row8 X1 am (meanL il wl ss)) := hrm
              have HNM : Hid (nm = wl * il) := hnm
              have HCM : Hid (nm ≤ cm) := hcm
              clear hnm hcm hrm hx1
              go_wp2_with fail
              refine hK.out _ _ ?_ (fun hHeld => ?_)
              · exact HB_X1.out
              clear hK K
              try simp only [Act.put, List.setIfInBounds_toArray, List.set_cons_zero, List.set_cons_succ]
              refine wpAnyH_ready (rs := [6, 8]) (by kernel_rfl) (by simp) ?_
              refine (AllReadyH.cons (o := { dst := some 68, op := Op.call { callee := Callee.value (Operand.func 41), args := #[Operand.tmp 64, Operand.tmp 65, Operand.tmp 67], argTypes := #[3, 3, 22] }, type := 73, pos := "ref.go:48", after := #[{ on := 2, ground := Ground.data }, { on := 3, ground := Ground.data }, { on := 5, ground := Ground.data }, { on := 1, ground := Ground.chain }], guard := none }) rfl (fun K hK => ?_) (AllReadyH.cons (o := { dst := some 15, op := Op.alloc 73, type := 0, pos := "ref.go:48", after := #[], guard := none }) rfl (fun K hK => ?_) AllReadyH.nil))
              · go_simp
                refine Calls.mono (rows11_F k r il ic ia I _ h1 h2 h3 HIL.out hi32 (rowI_below HPW.out.I (HB1.out.trans (Below.mono HB_X1.out HB1.out.size))) HIR.out) ?_
                rintro e X2 ⟨ar, nr, cr, rfl, hnr, hcr, hrr, hx2⟩
                have HB_X2 : Hid (Below Y.heap.size Y X2) := Below.trans HB_X1.out (Below.mono hx2 (below_size HB_X1.out))
                have HRX2 : Hid (Row8 X2 ar (grid (2 * k) (fun i => halfF k (carN (groupN k r)) (I.getD i 0)) il)) := hrr
                have HNR : Hid (nr = il * (2 * k)) := hnr
                have HCR : Hid (nr ≤ cr) := hcr
                have HMX2 : Hid _ := row8_below HMX1.out hx2
                clear hnr hcr hrr hx2
                go_wp2_with fail
                refine hK.out _ _ ?_ (fun hHeld => ?_)
                · exact HB_X2.out
                clear hK K
                try simp only [Act.put, List.setIfInBounds_toArray, List.set_cons_zero, List.set_cons_succ]
                refine wpAnyH_ready (rs := [7, 8]) (by kernel_rfl) (by simp) ?_
                refine (AllReadyH.cons (o := { dst := some 69, op := Op.call { callee := Callee.value (Operand.func 39), args := #[Operand.tmp 63, Operand.tmp 68], argTypes := #[73, 73] }, type := 73, pos := "ref.go:48", after := #[{ on := 1, ground := Ground.data }, { on := 6, ground := Ground.data }, { on := 6, ground := Ground.chain }], guard := none }) rfl (fun K hK => ?_) (AllReadyH.cons (o := { dst := some 15, op := Op.alloc 73, type := 0, pos := "ref.go:48", after := #[], guard := none }) rfl (fun K hK => ?_) AllReadyH.nil))
                · go_simp
                  refine Calls.mono (rproduct_F wl il (2 * k) nm cm nr cr am ar (meanL il wl ss) (grid (2 * k) (fun i => halfF k (carN (groupN k r)) (I.getD i 0)) il) _ (by omega) (by omega) (by omega) HNM.out (meanL_len _ _ _) HCM.out HMX2.out HNR.out (grid_len _ _ _) HCR.out HRX2.out) ?_
                  rw [HPR.out]
                  rintro e X3 ⟨g, m, rfl, hm, hg9, hh, hx3⟩
                  have HB_X3 : Hid (Below Y.heap.size Y X3) := Below.trans HB_X2.out (Below.mono hx3 (below_size HB_X2.out))
                  have HPX3 : Hid (X3.heap[g]? = some (.cells (vfs (grid (2 * k) (fun i => halfF k (carN (groupN k r)) (W.getD i 0)) wl)) 5 (0, 0))) := hh
                  have HMM : Hid (m = wl * (2 * k)) := hm
                  have HMX3 : Hid _ := row8_below HMX2.out hx3
                  have HRX3 : Hid _ := row8_below HRX2.out hx3
                  clear hm hg9 hh hx3
                  go_wp2_with fail
                  refine hK.out _ _ ?_ (fun hHeld => ?_)
                  · exact HB_X3.out
                  clear hK K
                  try simp only [Act.put, List.setIfInBounds_toArray, List.set_cons_zero, List.set_cons_succ]
                  refine wpAnyH_ready (rs := [8]) (by kernel_rfl) (by simp) ?_
                  refine (AllReadyH.cons (o := { dst := some 15, op := Op.alloc 73, type := 0, pos := "ref.go:48", after := #[], guard := none }) rfl (fun K hK => ?_) AllReadyH.nil)
                  go_simp
                  have HTz : Hid (Below Y.heap.size Y (X3.alloc (.cells #[.int .i64 0, .int .i64 0, .slice none 0 0] 73))) := Below.alloc HB_X3.out (below_size HB_X3.out) _
                  have HZ : Hid ((X3.alloc (.cells #[.int .i64 0, .int .i64 0, .slice none 0 0] 73)).heap[X3.heap.size]? = some (.cells #[.int .i64 0, .int .i64 0, .slice none 0 0] 73 (0, 0))) := heap_alloc_last _ _
                  have HMz : Hid _ := row8_below HMX3.out ((Below.refl _ _).alloc (Nat.le_refl _) (.cells #[.int .i64 0, .int .i64 0, .slice none 0 0] 73))
                  have HRz : Hid _ := row8_below HRX3.out ((Below.refl _ _).alloc (Nat.le_refl _) (.cells #[.int .i64 0, .int .i64 0, .slice none 0 0] 73))
                  have HPz : Hid _ := (Below.heap_alloc X3 (.cells #[.int .i64 0, .int .i64 0, .slice none 0 0] 73) _ (ltHeap HPX3.out)).trans HPX3.out
                  refine hK.out _ _ ?_ (fun hHeld => ?_)
                  · exact HTz.out
                  clear hK K
                  try simp only [Act.put, List.setIfInBounds_toArray, List.set_cons_zero, List.set_cons_succ]
                  refine wpAnyH_ready (rs := [9]) (by kernel_rfl) (by simp) ?_
                  refine (AllReadyH.cons (o := { dst := none, op := Op.store 73 (Operand.tmp 15) (Operand.tmp 69), type := 0, pos := "ref.go:48", after := #[{ on := 8, ground := Ground.data }, { on := 7, ground := Ground.data }, { on := 7, ground := Ground.chain }, { on := 0, ground := Ground.phase }, { on := 1, ground := Ground.phase }, { on := 2, ground := Ground.phase }, { on := 3, ground := Ground.phase }, { on := 4, ground := Ground.phase }, { on := 5, ground := Ground.phase }, { on := 6, ground := Ground.phase }, { on := 7, ground := Ground.phase }, { on := 8, ground := Ground.phase }], guard := none }) rfl (fun K hK => ?_) AllReadyH.nil)
                  have HX : Hid _ := heap_alloc_last X3 (.cells #[.int .i64 wl, .int .i64 (2 * k : Nat), .slice (some ⟨g, 0, none⟩) m m] 73)
                  have HY : Hid _ := (Below.heap_alloc X3 (.cells #[.int .i64 wl, .int .i64 (2 * k : Nat), .slice (some ⟨g, 0, none⟩) m m] 73) _ (ltHeap HPX3.out)).trans HPX3.out
                  have HS : Hid _ := Below.alloc HB_X3.out (below_size HB_X3.out) (.cells #[.int .i64 wl, .int .i64 (2 * k : Nat), .slice (some ⟨g, 0, none⟩) m m] 73)
                  go_simp
                  refine hK.out _ _ ?_ (fun hHeld => ?_)
                  · exact Below.alloc HB_X3.out (below_size HB_X3.out) _
                  clear hK K
                  try simp only [Act.put, List.setIfInBounds_toArray, List.set_cons_zero, List.set_cons_succ]
                  refine wpAnyH_done (by kernel_rfl) ?_ _
                  refine NoPanic.normal ?_
                  go_wp2
                  go_meet
                  exact ⟨_, g, m, rfl, HX.out, HMM.out, HY.out, HS.out⟩
                · go_simp
                  have HTz : Hid (Below Y.heap.size Y (X2.alloc (.cells #[.int .i64 0, .int .i64 0, .slice none 0 0] 73))) := Below.alloc HB_X2.out (below_size HB_X2.out) _
                  have HZ : Hid ((X2.alloc (.cells #[.int .i64 0, .int .i64 0, .slice none 0 0] 73)).heap[X2.heap.size]? = some (.cells #[.int .i64 0, .int .i64 0, .slice none 0 0] 73 (0, 0))) := heap_alloc_last _ _
                  have HMz : Hid _ := row8_below HMX2.out ((Below.refl _ _).alloc (Nat.le_refl _) (.cells #[.int .i64 0, .int .i64 0, .slice none 0 0] 73))
                  have HRz : Hid _ := row8_below HRX2.out ((Below.refl _ _).alloc (Nat.le_refl _) (.cells #[.int .i64 0, .int .i64 0, .slice none 0 0] 73))
                  refine hK.out _ _ ?_ (fun hHeld => ?_)
                  · exact HTz.out
                  clear hK K
                  try simp only [Act.put, List.setIfInBounds_toArray, List.set_cons_zero, List.set_cons_succ]
                  refine wpAnyH_ready (rs := [7]) (by kernel_rfl) (by simp) ?_
                  refine (AllReadyH.cons (o := { dst := some 69, op := Op.call { callee := Callee.value (Operand.func 39), args := #[Operand.tmp 63, Operand.tmp 68], argTypes := #[73, 73] }, type := 73, pos := "ref.go:48", after := #[{ on := 1, ground := Ground.data }, { on := 6, ground := Ground.data }, { on := 6, ground := Ground.chain }], guard := none }) rfl (fun K hK => ?_) AllReadyH.nil)
                  go_simp
                  refine Calls.mono (rproduct_F wl il (2 * k) nm cm nr cr am ar (meanL il wl ss) (grid (2 * k) (fun i => halfF k (carN (groupN k r)) (I.getD i 0)) il) _ (by omega) (by omega) (by omega) HNM.out (meanL_len _ _ _) HCM.out HMz.out HNR.out (grid_len _ _ _) HCR.out HRz.out) ?_
                  rw [HPR.out]
                  rintro e X3 ⟨g, m, rfl, hm, hg9, hh, hx3⟩
                  have HB_X3 : Hid (Below Y.heap.size Y X3) := Below.trans HTz.out (Below.mono hx3 (below_size HTz.out))
                  have HPX3 : Hid (X3.heap[g]? = some (.cells (vfs (grid (2 * k) (fun i => halfF k (carN (groupN k r)) (W.getD i 0)) wl)) 5 (0, 0))) := hh
                  have HMM : Hid (m = wl * (2 * k)) := hm
                  have HZX3 : Hid _ := heap_later HZ.out hx3
                  have HMX3 : Hid _ := row8_below HMz.out hx3
                  have HRX3 : Hid _ := row8_below HRz.out hx3
                  clear hm hg9 hh hx3
                  go_wp2_with fail
                  refine hK.out _ _ ?_ (fun hHeld => ?_)
                  · exact HB_X3.out
                  clear hK K
                  try simp only [Act.put, List.setIfInBounds_toArray, List.set_cons_zero, List.set_cons_succ]
                  refine wpAnyH_ready (rs := [9]) (by kernel_rfl) (by simp) ?_
                  refine (AllReadyH.cons (o := { dst := none, op := Op.store 73 (Operand.tmp 15) (Operand.tmp 69), type := 0, pos := "ref.go:48", after := #[{ on := 8, ground := Ground.data }, { on := 7, ground := Ground.data }, { on := 7, ground := Ground.chain }, { on := 0, ground := Ground.phase }, { on := 1, ground := Ground.phase }, { on := 2, ground := Ground.phase }, { on := 3, ground := Ground.phase }, { on := 4, ground := Ground.phase }, { on := 5, ground := Ground.phase }, { on := 6, ground := Ground.phase }, { on := 7, ground := Ground.phase }, { on := 8, ground := Ground.phase }], guard := none }) rfl (fun K hK => ?_) AllReadyH.nil)
                  have q0 := cellAt HZX3.out 0 _ rfl
                  have q1 := cellAt HZX3.out 1 _ rfl
                  have q2 := cellAt HZX3.out 2 _ rfl
                  have f0 := frozen_of_row _ _ 0 _ _ HZX3.out
                  have f1 := frozen_of_row _ _ 1 _ _ HZX3.out
                  have f2 := frozen_of_row _ _ 2 _ _ HZX3.out
                  have HX : Hid _ := storeM3 (v0 := .int .i64 wl) (v1 := .int .i64 (2 * k : Nat)) (v2 := .slice (some ⟨g, 0, none⟩) m m) HZX3.out
                  have HY : Hid _ := storeM3_other (v0 := .int .i64 wl) (v1 := .int .i64 (2 * k : Nat)) (v2 := .slice (some ⟨g, 0, none⟩) m m) HPX3.out (kind_neM HPX3.out HZX3.out (by decide))
                  have HS : Hid _ := ((Below.setCell HB_X3.out (below_size HB_X2.out) (.int .i64 wl) (p := ⟨X2.heap.size, 0, none⟩)).setCell (below_size HB_X2.out) (.int .i64 (2 * k : Nat)) (p := ⟨X2.heap.size, 1, none⟩)).setCell (below_size HB_X2.out) (.slice (some ⟨g, 0, none⟩) m m) (p := ⟨X2.heap.size, 2, none⟩)
                  go_simp
                  refine hK.out _ _ ?_ (fun hHeld => ?_)
                  · exact ((Below.setCell HB_X3.out (below_size HB_X2.out) _).setCell (below_size HB_X2.out) _).setCell (below_size HB_X2.out) _
                  clear hK K
                  try simp only [Act.put, List.setIfInBounds_toArray, List.set_cons_zero, List.set_cons_succ]
                  refine wpAnyH_done (by kernel_rfl) ?_ _
                  refine NoPanic.normal ?_
                  go_wp2
                  go_meet
                  exact ⟨_, g, m, rfl, HX.out, HMM.out, HY.out, HS.out⟩
              · go_simp
                have HTz : Hid (Below Y.heap.size Y (X1.alloc (.cells #[.int .i64 0, .int .i64 0, .slice none 0 0] 73))) := Below.alloc HB_X1.out (below_size HB_X1.out) _
                have HZ : Hid ((X1.alloc (.cells #[.int .i64 0, .int .i64 0, .slice none 0 0] 73)).heap[X1.heap.size]? = some (.cells #[.int .i64 0, .int .i64 0, .slice none 0 0] 73 (0, 0))) := heap_alloc_last _ _
                have HMz : Hid _ := row8_below HMX1.out ((Below.refl _ _).alloc (Nat.le_refl _) (.cells #[.int .i64 0, .int .i64 0, .slice none 0 0] 73))
                refine hK.out _ _ ?_ (fun hHeld => ?_)
                · exact HTz.out
                clear hK K
                try simp only [Act.put, List.setIfInBounds_toArray, List.set_cons_zero, List.set_cons_succ]
                refine wpAnyH_ready (rs := [6]) (by kernel_rfl) (by simp) ?_
                refine (AllReadyH.cons (o := { dst := some 68, op := Op.call { callee := Callee.value (Operand.func 41), args := #[Operand.tmp 64, Operand.tmp 65, Operand.tmp 67], argTypes := #[3, 3, 22] }, type := 73, pos := "ref.go:48", after := #[{ on := 2, ground := Ground.data }, { on := 3, ground := Ground.data }, { on := 5, ground := Ground.data }, { on := 1, ground := Ground.chain }], guard := none }) rfl (fun K hK => ?_) AllReadyH.nil)
                go_simp
                refine Calls.mono (rows11_F k r il ic ia I _ h1 h2 h3 HIL.out hi32 (rowI_below HPW.out.I (HB1.out.trans (Below.mono HTz.out HB1.out.size))) HIR.out) ?_
                rintro e X2 ⟨ar, nr, cr, rfl, hnr, hcr, hrr, hx2⟩
                have HB_X2 : Hid (Below Y.heap.size Y X2) := Below.trans HTz.out (Below.mono hx2 (below_size HTz.out))
                have HRX2 : Hid (Row8 X2 ar (grid (2 * k) (fun i => halfF k (carN (groupN k r)) (I.getD i 0)) il)) := hrr
                have HNR : Hid (nr = il * (2 * k)) := hnr
                have HCR : Hid (nr ≤ cr) := hcr
                have HZX2 : Hid _ := heap_later HZ.out hx2
                have HMX2 : Hid _ := row8_below HMz.out hx2
                clear hnr hcr hrr hx2
                go_wp2_with fail
                refine hK.out _ _ ?_ (fun hHeld => ?_)
                · exact HB_X2.out
                clear hK K
                try simp only [Act.put, List.setIfInBounds_toArray, List.set_cons_zero, List.set_cons_succ]
                refine wpAnyH_ready (rs := [7]) (by kernel_rfl) (by simp) ?_
                refine (AllReadyH.cons (o := { dst := some 69, op := Op.call { callee := Callee.value (Operand.func 39), args := #[Operand.tmp 63, Operand.tmp 68], argTypes := #[73, 73] }, type := 73, pos := "ref.go:48", after := #[{ on := 1, ground := Ground.data }, { on := 6, ground := Ground.data }, { on := 6, ground := Ground.chain }], guard := none }) rfl (fun K hK => ?_) AllReadyH.nil)
                go_simp
                refine Calls.mono (rproduct_F wl il (2 * k) nm cm nr cr am ar (meanL il wl ss) (grid (2 * k) (fun i => halfF k (carN (groupN k r)) (I.getD i 0)) il) _ (by omega) (by omega) (by omega) HNM.out (meanL_len _ _ _) HCM.out HMX2.out HNR.out (grid_len _ _ _) HCR.out HRX2.out) ?_
                rw [HPR.out]
                rintro e X3 ⟨g, m, rfl, hm, hg9, hh, hx3⟩
                have HB_X3 : Hid (Below Y.heap.size Y X3) := Below.trans HB_X2.out (Below.mono hx3 (below_size HB_X2.out))
                have HPX3 : Hid (X3.heap[g]? = some (.cells (vfs (grid (2 * k) (fun i => halfF k (carN (groupN k r)) (W.getD i 0)) wl)) 5 (0, 0))) := hh
                have HMM : Hid (m = wl * (2 * k)) := hm
                have HZX3 : Hid _ := heap_later HZX2.out hx3
                have HMX3 : Hid _ := row8_below HMX2.out hx3
                have HRX3 : Hid _ := row8_below HRX2.out hx3
                clear hm hg9 hh hx3
                go_wp2_with fail
                refine hK.out _ _ ?_ (fun hHeld => ?_)
                · exact HB_X3.out
                clear hK K
                try simp only [Act.put, List.setIfInBounds_toArray, List.set_cons_zero, List.set_cons_succ]
                refine wpAnyH_ready (rs := [9]) (by kernel_rfl) (by simp) ?_
                refine (AllReadyH.cons (o := { dst := none, op := Op.store 73 (Operand.tmp 15) (Operand.tmp 69), type := 0, pos := "ref.go:48", after := #[{ on := 8, ground := Ground.data }, { on := 7, ground := Ground.data }, { on := 7, ground := Ground.chain }, { on := 0, ground := Ground.phase }, { on := 1, ground := Ground.phase }, { on := 2, ground := Ground.phase }, { on := 3, ground := Ground.phase }, { on := 4, ground := Ground.phase }, { on := 5, ground := Ground.phase }, { on := 6, ground := Ground.phase }, { on := 7, ground := Ground.phase }, { on := 8, ground := Ground.phase }], guard := none }) rfl (fun K hK => ?_) AllReadyH.nil)
                have q0 := cellAt HZX3.out 0 _ rfl
                have q1 := cellAt HZX3.out 1 _ rfl
                have q2 := cellAt HZX3.out 2 _ rfl
                have f0 := frozen_of_row _ _ 0 _ _ HZX3.out
                have f1 := frozen_of_row _ _ 1 _ _ HZX3.out
                have f2 := frozen_of_row _ _ 2 _ _ HZX3.out
                have HX : Hid _ := storeM3 (v0 := .int .i64 wl) (v1 := .int .i64 (2 * k : Nat)) (v2 := .slice (some ⟨g, 0, none⟩) m m) HZX3.out
                have HY : Hid _ := storeM3_other (v0 := .int .i64 wl) (v1 := .int .i64 (2 * k : Nat)) (v2 := .slice (some ⟨g, 0, none⟩) m m) HPX3.out (kind_neM HPX3.out HZX3.out (by decide))
                have HS : Hid _ := ((Below.setCell HB_X3.out (below_size HB_X1.out) (.int .i64 wl) (p := ⟨X1.heap.size, 0, none⟩)).setCell (below_size HB_X1.out) (.int .i64 (2 * k : Nat)) (p := ⟨X1.heap.size, 1, none⟩)).setCell (below_size HB_X1.out) (.slice (some ⟨g, 0, none⟩) m m) (p := ⟨X1.heap.size, 2, none⟩)
                go_simp
                refine hK.out _ _ ?_ (fun hHeld => ?_)
                · exact ((Below.setCell HB_X3.out (below_size HB_X1.out) _).setCell (below_size HB_X1.out) _).setCell (below_size HB_X1.out) _
                clear hK K
                try simp only [Act.put, List.setIfInBounds_toArray, List.set_cons_zero, List.set_cons_succ]
                refine wpAnyH_done (by kernel_rfl) ?_ _
                refine NoPanic.normal ?_
                go_wp2
                go_meet
                exact ⟨_, g, m, rfl, HX.out, HMM.out, HY.out, HS.out⟩
            · go_simp
              have HTz : Hid (Below Y.heap.size Y (Y.drew.alloc (.cells #[.int .i64 0, .int .i64 0, .slice none 0 0] 73))) := Below.alloc HYD.out (below_size HYD.out) _
              have HZ : Hid ((Y.drew.alloc (.cells #[.int .i64 0, .int .i64 0, .slice none 0 0] 73)).heap[Y.heap.size]? = some (.cells #[.int .i64 0, .int .i64 0, .slice none 0 0] 73 (0, 0))) := heap_alloc_last _ _
              refine hK.out _ _ ?_ (fun hHeld => ?_)
              · exact HTz.out
              clear hK K
              try simp only [Act.put, List.setIfInBounds_toArray, List.set_cons_zero, List.set_cons_succ]
              refine wpAnyH_ready (rs := [1]) (by kernel_rfl) (by simp) ?_
              refine (AllReadyH.cons (o := { dst := some 63, op := Op.call { callee := Callee.value (Operand.func 40), args := #[Operand.tmp 62], argTypes := #[30] }, type := 73, pos := "ref.go:48", after := #[{ on := 0, ground := Ground.data }], guard := none }) rfl (fun K hK => ?_) AllReadyH.nil)
              go_simp
              refine Calls.mono (rmeaning_F ia oa ta il ic wl oc tl tc rg (natJ8 I) (natJ8 W) ss _ (HPW.out.below (HB1.out.trans (Below.mono HTz.out HB1.out.size))) HF.out) ?_
              rintro e X1 ⟨am, nm, cm, rfl, hnm, hcm, hrm, hx1⟩
              have HB_X1 : Hid (Below Y.heap.size Y X1) := Below.trans HTz.out (Below.mono hx1 (below_size HTz.out))
              have HMX1 : Hid (Row8 X1 am (meanL il wl ss)) := hrm
              have HNM : Hid (nm = wl * il) := hnm
              have HCM : Hid (nm ≤ cm) := hcm
              have HZX1 : Hid _ := heap_later HZ.out hx1
              clear hnm hcm hrm hx1
              go_wp2_with fail
              refine hK.out _ _ ?_ (fun hHeld => ?_)
              · exact HB_X1.out
              clear hK K
              try simp only [Act.put, List.setIfInBounds_toArray, List.set_cons_zero, List.set_cons_succ]
              refine wpAnyH_ready (rs := [6]) (by kernel_rfl) (by simp) ?_
              refine (AllReadyH.cons (o := { dst := some 68, op := Op.call { callee := Callee.value (Operand.func 41), args := #[Operand.tmp 64, Operand.tmp 65, Operand.tmp 67], argTypes := #[3, 3, 22] }, type := 73, pos := "ref.go:48", after := #[{ on := 2, ground := Ground.data }, { on := 3, ground := Ground.data }, { on := 5, ground := Ground.data }, { on := 1, ground := Ground.chain }], guard := none }) rfl (fun K hK => ?_) AllReadyH.nil)
              go_simp
              refine Calls.mono (rows11_F k r il ic ia I _ h1 h2 h3 HIL.out hi32 (rowI_below HPW.out.I (HB1.out.trans (Below.mono HB_X1.out HB1.out.size))) HIR.out) ?_
              rintro e X2 ⟨ar, nr, cr, rfl, hnr, hcr, hrr, hx2⟩
              have HB_X2 : Hid (Below Y.heap.size Y X2) := Below.trans HB_X1.out (Below.mono hx2 (below_size HB_X1.out))
              have HRX2 : Hid (Row8 X2 ar (grid (2 * k) (fun i => halfF k (carN (groupN k r)) (I.getD i 0)) il)) := hrr
              have HNR : Hid (nr = il * (2 * k)) := hnr
              have HCR : Hid (nr ≤ cr) := hcr
              have HZX2 : Hid _ := heap_later HZX1.out hx2
              have HMX2 : Hid _ := row8_below HMX1.out hx2
              clear hnr hcr hrr hx2
              go_wp2_with fail
              refine hK.out _ _ ?_ (fun hHeld => ?_)
              · exact HB_X2.out
              clear hK K
              try simp only [Act.put, List.setIfInBounds_toArray, List.set_cons_zero, List.set_cons_succ]
              refine wpAnyH_ready (rs := [7]) (by kernel_rfl) (by simp) ?_
              refine (AllReadyH.cons (o := { dst := some 69, op := Op.call { callee := Callee.value (Operand.func 39), args := #[Operand.tmp 63, Operand.tmp 68], argTypes := #[73, 73] }, type := 73, pos := "ref.go:48", after := #[{ on := 1, ground := Ground.data }, { on := 6, ground := Ground.data }, { on := 6, ground := Ground.chain }], guard := none }) rfl (fun K hK => ?_) AllReadyH.nil)
              go_simp
              refine Calls.mono (rproduct_F wl il (2 * k) nm cm nr cr am ar (meanL il wl ss) (grid (2 * k) (fun i => halfF k (carN (groupN k r)) (I.getD i 0)) il) _ (by omega) (by omega) (by omega) HNM.out (meanL_len _ _ _) HCM.out HMX2.out HNR.out (grid_len _ _ _) HCR.out HRX2.out) ?_
              rw [HPR.out]
              rintro e X3 ⟨g, m, rfl, hm, hg9, hh, hx3⟩
              have HB_X3 : Hid (Below Y.heap.size Y X3) := Below.trans HB_X2.out (Below.mono hx3 (below_size HB_X2.out))
              have HPX3 : Hid (X3.heap[g]? = some (.cells (vfs (grid (2 * k) (fun i => halfF k (carN (groupN k r)) (W.getD i 0)) wl)) 5 (0, 0))) := hh
              have HMM : Hid (m = wl * (2 * k)) := hm
              have HZX3 : Hid _ := heap_later HZX2.out hx3
              have HMX3 : Hid _ := row8_below HMX2.out hx3
              have HRX3 : Hid _ := row8_below HRX2.out hx3
              clear hm hg9 hh hx3
              go_wp2_with fail
              refine hK.out _ _ ?_ (fun hHeld => ?_)
              · exact HB_X3.out
              clear hK K
              try simp only [Act.put, List.setIfInBounds_toArray, List.set_cons_zero, List.set_cons_succ]
              refine wpAnyH_ready (rs := [9]) (by kernel_rfl) (by simp) ?_
              refine (AllReadyH.cons (o := { dst := none, op := Op.store 73 (Operand.tmp 15) (Operand.tmp 69), type := 0, pos := "ref.go:48", after := #[{ on := 8, ground := Ground.data }, { on := 7, ground := Ground.data }, { on := 7, ground := Ground.chain }, { on := 0, ground := Ground.phase }, { on := 1, ground := Ground.phase }, { on := 2, ground := Ground.phase }, { on := 3, ground := Ground.phase }, { on := 4, ground := Ground.phase }, { on := 5, ground := Ground.phase }, { on := 6, ground := Ground.phase }, { on := 7, ground := Ground.phase }, { on := 8, ground := Ground.phase }], guard := none }) rfl (fun K hK => ?_) AllReadyH.nil)
              have q0 := cellAt HZX3.out 0 _ rfl
              have q1 := cellAt HZX3.out 1 _ rfl
              have q2 := cellAt HZX3.out 2 _ rfl
              have f0 := frozen_of_row _ _ 0 _ _ HZX3.out
              have f1 := frozen_of_row _ _ 1 _ _ HZX3.out
              have f2 := frozen_of_row _ _ 2 _ _ HZX3.out
              have HX : Hid _ := storeM3 (v0 := .int .i64 wl) (v1 := .int .i64 (2 * k : Nat)) (v2 := .slice (some ⟨g, 0, none⟩) m m) HZX3.out
              have HY : Hid _ := storeM3_other (v0 := .int .i64 wl) (v1 := .int .i64 (2 * k : Nat)) (v2 := .slice (some ⟨g, 0, none⟩) m m) HPX3.out (kind_neM HPX3.out HZX3.out (by decide))
              have HS : Hid _ := ((Below.setCell HB_X3.out (Nat.le_refl Y.heap.size) (.int .i64 wl) (p := ⟨Y.heap.size, 0, none⟩)).setCell (Nat.le_refl Y.heap.size) (.int .i64 (2 * k : Nat)) (p := ⟨Y.heap.size, 1, none⟩)).setCell (Nat.le_refl Y.heap.size) (.slice (some ⟨g, 0, none⟩) m m) (p := ⟨Y.heap.size, 2, none⟩)
              go_simp
              refine hK.out _ _ ?_ (fun hHeld => ?_)
              · exact ((Below.setCell HB_X3.out (Nat.le_refl Y.heap.size) _).setCell (Nat.le_refl Y.heap.size) _).setCell (Nat.le_refl Y.heap.size) _
              clear hK K
              try simp only [Act.put, List.setIfInBounds_toArray, List.set_cons_zero, List.set_cons_succ]
              refine wpAnyH_done (by kernel_rfl) ?_ _
              refine NoPanic.normal ?_
              go_wp2
              go_meet
              exact ⟨_, g, m, rfl, HX.out, HMM.out, HY.out, HS.out⟩
          case rest =>
          obtain ⟨M, g, m, rfl, hM, hm, hg, hb⟩ := hcut
          generalize wc = X at *
          have HMX : Hid (X.heap[M]? = some (.cells #[.int .i64 wl, .int .i64 (2 * k : Nat), .slice (some ⟨g, 0, none⟩) m m] 73 (0, 0))) := hM
          have HGX : Hid (X.heap[g]? = some (.cells (vfs (grid (2 * k) (fun i => halfF k (carN (groupN k r)) (W.getD i 0)) wl)) 5 (0, 0))) := hg
          have HMM : Hid (m = wl * (2 * k)) := hm
          have HBX : Hid (Below w.heap.size w X) := HB1.out.trans (hb.mono HB1.out.size)
          clear hM hm hg hb PB0 PB1 PB2 PB3 HYD
          go_wp2_with fail
          refine Calls.mono (rows11_F k r wl wcap wa W X h1 h2 h3 HWL.out hw32 (rowI_below HW.out HBX.out) HWR.out) ?_
          rintro e Z ⟨az, nz, cz, rfl, hnz, hcz, hrz, hz⟩
          have HMZ : Hid _ := heap_later HMX.out hz
          have HGZ : Hid _ := heap_later HGX.out hz
          have HBZ : Hid (Below w.heap.size w Z) := HBX.out.trans (hz.mono HBX.out.size)
          obtain ⟨U, hU⟩ : ∃ U, U = Z.alloc (.cells #[.int .i64 wl, .int .i64 (2 * (k : Int)), .slice az nz cz] 73) := ⟨_, rfl⟩
          obtain ⟨Q, hQ⟩ : ∃ Q, Q = Z.heap.size := ⟨_, rfl⟩
          have hbu : Below Z.heap.size Z U := by rw [hU]; exact (Below.refl _ _).alloc (Nat.le_refl _) _
          have hqu : U.heap[Q]? = some (.cells #[.int .i64 wl, .int .i64 (2 * (k : Int)), .slice az nz cz] 73 (0, 0)) := by rw [hU, hQ]; exact heap_alloc_last _ _
          have hmu := heap_later HMZ.out hbu
          have HBU : Hid (Below w.heap.size w U) := HBZ.out.trans (hbu.mono HBZ.out.size)
          have k1 := cellAt hmu 0 _ rfl
          have k2 := cellAt hmu 2 _ rfl
          have q1 := cellAt hqu 0 _ rfl
          have q2 := cellAt hqu 2 _ rfl
          have kA := conv8 (la := m) (ca := m) (show m = (grid (2 * k) (fun i => halfF k (carN (groupN k r)) (W.getD i 0)) wl).length by rw [grid_len]; exact HMM.out) (row8_below (row8_own HGZ.out) hbu)
          have kB := conv8 (la := nz) (ca := cz) (show nz = (grid (2 * k) (fun i => halfF k (carN (groupN k r)) (W.getD i 0)) wl).length by rw [grid_len]; exact hnz) (row8_below hrz hbu)
          have eA := strEq8T (grid (2 * k) (fun i => halfF k (carN (groupN k r)) (W.getD i 0)) wl)
          have HUE : Hid (U = Z.alloc (.cells #[.int .i64 wl, .int .i64 (2 * (k : Int)), .slice az nz cz] 73)) := hU
          have HQE : Hid (Q = Z.heap.size) := hQ
          generalize str8 (grid (2 * k) (fun i => halfF k (carN (groupN k r)) (W.getD i 0)) wl) = sA at *
          clear hnz hcz hrz hz hU hQ hbu hqu hmu
          go_upto_region 17 with fail
          rw [← HUE.out, ← HQE.out]
          go_wp2
          go_ret
          exact ⟨by first | rfl | simp, HBU.out⟩
end Go.Proofs.YtkoakingmnjdoaaGreatDoor

/- The statements' alive and empty of stage 11. -/
namespace Go.Proofs.YtkoakingmnjdoaaGreatDoor
open Go.RowKit Gf
set_option linter.unusedVariables false
set_option maxRecDepth 20000
set_option linter.unusedSimpArgs false
theorem ProgAt.below {w w' : World} {B k r : Nat} {lost W : List Nat} {v : Value} (h : ProgAt w B k r lost W v) (hb : Below w.heap.size w w') : ProgAt w' B k r lost W v := by
  obtain ⟨ia, ic, oa, oc, ta, tc, tl, I, ss, e, hpw, hup, hmd⟩ := h
  exact ⟨ia, ic, oa, oc, ta, tc, tl, I, ss, e, hpw.below hb, hup, hmd⟩
theorem ProgAt.shape {w : World} {B k r : Nat} {lost W : List Nat} {v : Value} (h : ProgAt w B k r lost W v) : ∃ ia il ic oa ol oc rg ta tl tc I ss, v = pAgg ia il ic oa ol oc (rg : Nat) ta tl tc ∧ il = List.length I ∧ ol = W.length ∧ rg = W.length + 1 ∧ il ≤ 32 ∧ ol ≤ 32 ∧ MadeP k r lost W I ss ∧ PrgW w ia oa ta il ic ol oc tl tc (natJ8 I) (natJ8 W) ss := by
  obtain ⟨ia, ic, oa, oc, ta, tc, tl, I, ss, e, hpw, hup, hmd⟩ := h
  have h1 := goodH_len hmd.form.1
  have h2 := goodH_len hmd.form.2.1
  rw [natJ8_len] at h1 h2
  exact ⟨ia, _, ic, oa, _, oc, _, ta, tl, tc, I, ss, e, rfl, rfl, rfl, h1, h2, hmd, hpw⟩
theorem empty_F (w : World) : Calls Tryz.prog 15 #[noProg] w fun e w' => e = .returned (.bool true) ∧ Below w.heap.size w w' := by
  have hb0 : Below w.heap.size w (w.alloc (.cells #[.slice none 0 0, .slice none 0 0, .int .i64 0, .slice none 0 0] 30)) := (Below.refl _ _).alloc (Nat.le_refl _) _
  have HB : Hid _ := hb0
  clear hb0
  unfold noProg
  go_enter Tryz.func15, Tryz.ntmps15
  go_wp2
  go_ret
  exact ⟨rfl, HB.out⟩
theorem two_row {w : World} {g p q : Nat} {fr : Nat × Nat} (h : w.heap[g]? = some (.cells #[.int .i64 p, .int .i64 q] 3 fr)) : RowI w (some ⟨g, 0, none⟩) (natJ8 [p, q]) :=
  .inr ⟨g, 0, rfl, fun j n hj => by
    have hj2 : j < 2 := by have := (List.getElem?_eq_some_iff.1 hj).1; simpa [natJ8] using this
    have : j = 0 ∨ j = 1 := by omega
    rcases this with rfl | rfl
    · obtain rfl : (p : Int) = n := by simpa [natJ8] using hj
      exact cellAt h 0 _ rfl
    · obtain rfl : (q : Int) = n := by simpa [natJ8] using hj
      exact cellAt h 1 _ rfl⟩
set_option maxHeartbeats 4000000 in
theorem alive11_ok (w : World) (E : Nat → Addr) (hE : ErrsG w E) : Calls Tryz.prog 9 #[] w fun e w' => e = .returned (.bool true) ∧ Below w.heap.size w w' := by
  have HC : Hid _ := cheap_ok 4 3 1 w E hE (by decide) (by decide) (by decide) (by decide)
  clear hE
  go_enter Tryz.func9, Tryz.ntmps9
  go_wp2_with fail
  refine Calls.mono HC.out ?_
  rintro e Y ⟨v, rfl, hat, hy⟩
  obtain ⟨ia, il, ic, oa, ol, oc, rg, ta, tl, tc, I, ss, rfl, hil, hol, hrg, hi32, ho32, hmd, _⟩ := hat.shape
  have hi6 : il ≤ 6 := by
    have := hmd.cheap (by decide)
    rw [hil]
    exact Nat.le_trans this (by decide)
  have HAT : Hid (ProgAt Y w.heap.size 4 3 [2, 3] [2, 3] (pAgg ia il ic oa ol oc rg ta tl tc)) := hat
  have HY : Hid (Below w.heap.size w Y) := hy
  obtain ⟨Y1, hY1⟩ : ∃ Y1, Y1 = Y.alloc (.cells #[.slice ia il ic, .slice oa ol oc, .int .i64 rg, .slice ta tl tc] 30) := ⟨_, rfl⟩
  obtain ⟨P1, hP1⟩ : ∃ P1, P1 = Y.heap.size := ⟨_, rfl⟩
  obtain ⟨Y2, hY2⟩ : ∃ Y2, Y2 = Y1.alloc (.cells #[.int .i64 2, .int .i64 3] 3) := ⟨_, rfl⟩
  obtain ⟨P2, hP2⟩ : ∃ P2, P2 = Y1.heap.size := ⟨_, rfl⟩
  obtain ⟨Y3, hY3⟩ : ∃ Y3, Y3 = Y2.alloc (.cells #[.int .i64 2, .int .i64 3] 3) := ⟨_, rfl⟩
  obtain ⟨P3, hP3⟩ : ∃ P3, P3 = Y2.heap.size := ⟨_, rfl⟩
  have b1 : Below Y.heap.size Y Y1 := by rw [hY1]; exact (Below.refl _ _).alloc (Nat.le_refl _) _
  have b2 : Below Y1.heap.size Y1 Y2 := by rw [hY2]; exact (Below.refl _ _).alloc (Nat.le_refl _) _
  have b3 : Below Y2.heap.size Y2 Y3 := by rw [hY3]; exact (Below.refl _ _).alloc (Nat.le_refl _) _
  have p1 : Y1.heap[P1]? = some (.cells #[.slice ia il ic, .slice oa ol oc, .int .i64 rg, .slice ta tl tc] 30 (0, 0)) := by rw [hY1, hP1]; exact heap_alloc_last _ _
  have p2 : Y2.heap[P2]? = some (.cells #[.int .i64 2, .int .i64 3] 3 (0, 0)) := by rw [hY2, hP2]; exact heap_alloc_last _ _
  have p3 : Y3.heap[P3]? = some (.cells #[.int .i64 2, .int .i64 3] 3 (0, 0)) := by rw [hY3, hP3]; exact heap_alloc_last _ _
  have b13 : Below Y.heap.size Y Y3 := b1.trans ((b2.trans (b3.mono b2.size)).mono b1.size)
  have HR : Hid _ := right_F 4 3 2 2 2 2 w.heap.size (some ⟨P2, 0, none⟩) (some ⟨P3, 0, none⟩) [2, 3] [2, 3] (pAgg ia il ic oa ol oc rg ta tl tc) Y3 (by decide) (by decide) (by decide) rfl (by decide) (two_row (heap_later p2 b3)) rfl (two_row p3) (by decide) (hat.below b13)
  have hpp := heap_later (heap_later p1 b2) b3
  have HB3 : Hid (Below w.heap.size w Y3) := HY.out.trans (b13.mono HY.out.size)
  have k0 := cellAt p1 0 _ rfl
  have k1 := cellAt hpp 0 _ rfl
  have k2 := cellAt hpp 1 _ rfl
  have k3 := cellAt hpp 2 _ rfl
  have k4 := cellAt hpp 3 _ rfl
  have zz := ltHeap hpp
  have HY1E : Hid (Y1 = Y.alloc (.cells #[.slice ia il ic, .slice oa ol oc, .int .i64 rg, .slice ta tl tc] 30)) := hY1
  have HP1E : Hid (P1 = Y.heap.size) := hP1
  have HY2E : Hid (Y2 = Y1.alloc (.cells #[.int .i64 2, .int .i64 3] 3)) := hY2
  have HP2E : Hid (P2 = Y1.heap.size) := hP2
  have HY3E : Hid (Y3 = Y2.alloc (.cells #[.int .i64 2, .int .i64 3] 3)) := hY3
  have HP3E : Hid (P3 = Y1.heap.size + 1) := by rw [hP3, hY2]; exact Array.size_push ..
  have HQ1 : Hid _ := p1
  clear hat hil hol hrg hmd hy hY1 hP1 hY2 hP2 hY3 hP3 b1 b2 b3 p1 p2 p3 b13 hpp k1 k2 k3 k4 zz
  go_upto_region 2 with fail
  rw [← HY1E.out, ← HP1E.out]
  have q0 : ∀ o o', ((Y1.alloc o).alloc o').cell? ⟨P1, 0, none⟩ = some (.slice ia il ic) := fun o o' => cellAt (heap_later (heap_later HQ1.out ((Below.refl _ _).alloc (Nat.le_refl _) o)) ((Below.refl _ _).alloc (Nat.le_refl _) o')) 0 _ rfl
  have q1 : ∀ o o', ((Y1.alloc o).alloc o').cell? ⟨P1, 1, none⟩ = some (.slice oa ol oc) := fun o o' => cellAt (heap_later (heap_later HQ1.out ((Below.refl _ _).alloc (Nat.le_refl _) o)) ((Below.refl _ _).alloc (Nat.le_refl _) o')) 1 _ rfl
  have q2 : ∀ o o', ((Y1.alloc o).alloc o').cell? ⟨P1, 2, none⟩ = some (.int .i64 (rg : Nat)) := fun o o' => cellAt (heap_later (heap_later HQ1.out ((Below.refl _ _).alloc (Nat.le_refl _) o)) ((Below.refl _ _).alloc (Nat.le_refl _) o')) 2 _ rfl
  have q3 : ∀ o o', ((Y1.alloc o).alloc o').cell? ⟨P1, 3, none⟩ = some (.slice ta tl tc) := fun o o' => cellAt (heap_later (heap_later HQ1.out ((Below.refl _ _).alloc (Nat.le_refl _) o)) ((Below.refl _ _).alloc (Nat.le_refl _) o')) 3 _ rfl
  go_wp2_with fail
  rw [← HP3E.out, ← HP2E.out, ← HY2E.out, ← HY3E.out]
  refine Calls.mono HR.out ?_
  rintro e U ⟨rfl, hu⟩
  have HBU : Hid (Below w.heap.size w U) := HB3.out.trans (hu.mono HB3.out.size)
  clear hu
  go_wp2
  go_ret
  exact ⟨by first | rfl | simp, HBU.out⟩
end Go.Proofs.YtkoakingmnjdoaaGreatDoor

/- The walk of PlanEach: at all numbers. -/
namespace Go.Proofs.YtkoakingmnjdoaaGreatDoor
open Go.RowKit Gf
set_option linter.unusedVariables false
set_option maxRecDepth 20000
set_option linter.unusedSimpArgs false
theorem none_row (w : World) : RowI w none (natJ8 []) := .inl rfl
theorem plan_group : ∀ k < 15, ∀ r < 17, (1 ≤ k ∧ 2 ≤ r ∧ k + r ≤ 16) → 3 ≤ r → 2 ≤ k → k + groupN k r < 2 * k := by decide +kernel
theorem gone_nil {k r : Nat} (h2 : 2 ≤ r) (h3 : k + r ≤ 16) : goneB k (2 * (k + r)) (carN (groupN k r)) [] = false := by
  refine gone_few (by omega) ?_
  have : touchedL (k + r) [] = [] := by simp [touchedL]
  rw [this]; exact Nat.zero_le _
set_option maxHeartbeats 4000000 in
theorem each_illegal (k r : Int) (w : World) (E : Nat → Addr) (hE : ErrsG w E) (hEL : w.cell? ⟨2, 0, none⟩ = some (errAt (E 5))) (hk0 : -9223372036854775808 ≤ k) (hk1 : k ≤ 9223372036854775807) (hr0 : -9223372036854775808 ≤ r) (hr1 : r ≤ 9223372036854775807) (hL : ¬ LegalP k r) :
    Calls Tryz.prog 8 #[.int .i64 k, .int .i64 r] w fun e w' => e = .returned (.bool true) ∧ Below w.heap.size w w' := by
  have HAL : Hid _ := alive11_ok w E hE
  have HG : Hid _ := fun u => legal_no k r u hk0 hk1 hr0 hr1 hL
  have hl1 : lossE k r [] = 1 := by unfold lossE; rw [chkE_bad hL]; rfl
  have HRD : Hid (∀ u, Below w.heap.size w u → Calls Tryz.prog 22 #[.int .i64 k, .int .i64 r, .slice none 0 0] u fun e w' => e = .returned (.tuple #[.int .i64 0, errAt (E 0)]) ∧ Below u.heap.size u w') := fun u hub => by
    have := compile_E k r 0 0 none [] u E (errsG_below hE hub) (cell_later hub hEL) hk0 hk1 hr0 hr1 rfl (by omega) (Nat.le_refl _) (.inl rfl) (by rw [hl1]; decide)
    rw [hl1] at this
    exact reads_err k r 0 0 none u _ this
  have HCP : Hid (∀ u, Below w.heap.size w u → u.cell? ⟨0, 0, none⟩ = some (errAt (E 0))) := fun u hub => (errsG_below hE hub).1.1
  generalize E 0 = s at *
  clear hE hEL hL hl1
  unfold errAt at *
  go_enter Tryz.func8, Tryz.ntmps8
  go_wp2_with fail
  refine Calls.mono HAL.out ?_
  rintro e w1 ⟨rfl, hb⟩
  have HB1 : Hid (Below w.heap.size w w1) := hb
  clear hb
  go_wp2_with fail
  refine Calls.mono (HG.out _) ?_
  rintro e w3 ⟨rfl, rfl⟩
  go_wp2_with fail
  refine Calls.mono (HRD.out _ HB1.out) ?_
  rintro e w4 ⟨rfl, hb⟩
  have HB4 : Hid (Below w.heap.size w w4) := HB1.out.trans (hb.mono HB1.out.size)
  clear hb
  have c9 := HCP.out _ HB4.out
  have eqs := fun u : World => eq_same u s
  go_wp2
  go_ret
  exact ⟨rfl, HB4.out⟩
set_option maxRecDepth 100000 in
set_option maxHeartbeats 8000000 in
theorem each_ok (k r : Nat) (w : World) (E : Nat → Addr) (hE : ErrsG w E) (h1 : 1 ≤ k) (h2 : 2 ≤ r) (h3 : k + r ≤ 16) :
    Calls Tryz.prog 8 #[.int .i64 k, .int .i64 r] w fun e w' => e = .returned (.bool true) ∧ Below w.heap.size w w' := by
  have HAL : Hid _ := alive11_ok w E hE
  have HG : Hid _ := fun u => legal_yes k r u h1 h2 h3
  have HGR : Hid _ := fun u => rgroup_F k r u h1 h2 h3
  have HCH : Hid (∀ (s : Nat) u, s < k → Below w.heap.size w u → Calls Tryz.prog 21 #[.int .i64 k, .int .i64 r, .int .i64 s] u fun e w' => ∃ v, e = .returned (.tuple #[v, .nilIface]) ∧ ProgAt w' u.heap.size k r [2 * s, 2 * s + 1] [2 * s, 2 * s + 1] v ∧ Below u.heap.size u w') := fun s u hs hub => cheap_ok k r s u E (errsG_below hE hub) h1 h2 h3 hs
  have HRP : Hid (∀ (s : Nat) (a : Option Addr) u, s < k → Below w.heap.size w u → (a = none → (2 : Nat) = 0) → RowI u a (natJ8 [2 * s, 2 * s + 1]) → Calls Tryz.prog 22 #[.int .i64 k, .int .i64 r, .slice a 2 2] u fun e w' => ∃ n I ss, e = .returned (.tuple #[.int .i64 (n : Nat), .nilIface]) ∧ n = List.length I ∧ MadeP k r [2 * s, 2 * s + 1] [2 * s, 2 * s + 1] I ss ∧ Below u.heap.size u w') := fun s a u hs hub hn hrow =>
    reads_ok k r 2 2 a [2 * s, 2 * s + 1] u (compile_ok k r 2 2 a [2 * s, 2 * s + 1] u E (errsG_below hE hub) h1 h2 h3 rfl (Nat.le_refl _) hn hrow (by simp) (by simp; omega) (gone_none (by omega) (by omega)))
  have HRN : Hid (∀ u, Below w.heap.size w u → Calls Tryz.prog 22 #[.int .i64 k, .int .i64 r, .slice none 0 0] u fun e w' => ∃ n I ss, e = .returned (.tuple #[.int .i64 (n : Nat), .nilIface]) ∧ n = List.length I ∧ MadeP k r [] [] I ss ∧ Below u.heap.size u w') := fun u hub =>
    reads_ok k r 0 0 none [] u (compile_ok k r 0 0 none [] u E (errsG_below hE hub) h1 h2 h3 rfl (Nat.le_refl _) (fun _ => rfl) (none_row u) List.Pairwise.nil (by simp) (gone_nil h2 h3))
  have hg16 := (groupN_least h1 h2 h3).2.2.2
  obtain ⟨g, hgg⟩ : ∃ g, g = groupN k r := ⟨_, rfl⟩
  have HGG : Hid (g = groupN k r) := hgg
  rw [← hgg] at HGR hg16
  clear hE hgg
  go_enter Tryz.func8, Tryz.ntmps8
  go_wp2_with fail
  refine Calls.mono HAL.out ?_
  rintro e w1 ⟨rfl, hb⟩
  have HB1 : Hid (Below w.heap.size w w1) := hb
  clear hb
  go_wp2_with fail
  refine Calls.mono (HG.out _) ?_
  rintro e w3 ⟨rfl, rfl⟩
  go_wp2_with fail
  refine Calls.mono (HGR.out _) ?_
  rintro e w3 ⟨rfl, rfl⟩
  go_wp2
  go_loopw [8] (fun t wr => ∃ s : Nat, s ≤ k ∧ t = .int .i64 s ∧ Below w.heap.size w wr) (fun t _ => k - (intOf t).toNat)
  case atStart => exact ⟨0, Nat.zero_le _, rfl, HB1.out⟩
  case round =>
    obtain ⟨s, hs, rfl, hb⟩ := hrel
    have HB : Hid (Below w.heap.size w wr) := hb
    clear hb HB1
    generalize wr = Y at *
    by_cases hlt : s < k
    · go_wp2_with fail
      refine Calls.mono (HCH.out s Y hlt HB.out) ?_
      rintro e Z ⟨v, rfl, hat, hz⟩
      obtain ⟨ia, il, ic, oa, ol, oc, rg, ta, tl, tc, I, ss, rfl, hil, hol, hrg, hi32, ho32, hmd, _⟩ := hat.shape
      have HBZ : Hid (Below w.heap.size w Z) := HB.out.trans (hz.mono HB.out.size)
      have hcp : il ≤ k + g := by
        have h9 := hmd.cheap (by unfold kindN; rw [if_neg (by simp), if_pos ⟨s, hlt, rfl⟩])
        rw [hil, HGG.out]; exact h9
      have hsm : 1 ≤ il := by rw [hil]; exact made_some hmd hlt
      have HMD : Hid (MadeP k r [2 * s, 2 * s + 1] [2 * s, 2 * s + 1] I ss) := hmd
      have HIL : Hid (il = I.length) := hil
      obtain ⟨p, hp⟩ : ∃ p, p = 2 * s := ⟨_, rfl⟩
      obtain ⟨q, hq⟩ : ∃ q, q = 2 * s + 1 := ⟨_, rfl⟩
      have hpI : 2 * (s : Int) = (p : Int) := by omega
      have hqI : 2 * (s : Int) + 1 = (q : Int) := by omega
      have hqp : (p : Int) + 1 = (q : Int) := by omega
      obtain ⟨Z1, hZ1⟩ : ∃ Z1, Z1 = Z.alloc (.cells #[.slice ia il ic, .slice oa ol oc, .int .i64 rg, .slice ta tl tc] 30) := ⟨_, rfl⟩
      obtain ⟨P1, hP1⟩ : ∃ P1, P1 = Z.heap.size := ⟨_, rfl⟩
      obtain ⟨Z2, hZ2⟩ : ∃ Z2, Z2 = Z1.alloc (.cells #[.int .i64 p, .int .i64 q] 3) := ⟨_, rfl⟩
      obtain ⟨P2, hP2⟩ : ∃ P2, P2 = Z1.heap.size := ⟨_, rfl⟩
      have b1 : Below Z.heap.size Z Z1 := by rw [hZ1]; exact (Below.refl _ _).alloc (Nat.le_refl _) _
      have b2 : Below Z1.heap.size Z1 Z2 := by rw [hZ2]; exact (Below.refl _ _).alloc (Nat.le_refl _) _
      have p1 : Z1.heap[P1]? = some (.cells #[.slice ia il ic, .slice oa ol oc, .int .i64 rg, .slice ta tl tc] 30 (0, 0)) := by rw [hZ1, hP1]; exact heap_alloc_last _ _
      have p2 : Z2.heap[P2]? = some (.cells #[.int .i64 p, .int .i64 q] 3 (0, 0)) := by rw [hZ2, hP2]; exact heap_alloc_last _ _
      have HB2 : Hid (Below w.heap.size w Z2) := HBZ.out.trans ((b1.trans (b2.mono b1.size)).mono HBZ.out.size)
      have HP12 : Hid _ := heap_later p1 b2
      have HRR : Hid _ := HRP.out s (some ⟨P2, 0, none⟩) Z2 hlt HB2.out (fun h => by cases h) (by have := two_row p2; rw [hp, hq] at this; exact this)
      have HZ1E : Hid (Z1 = Z.alloc (.cells #[.slice ia il ic, .slice oa ol oc, .int .i64 rg, .slice ta tl tc] 30)) := hZ1
      have HP1E : Hid (P1 = Z.heap.size) := hP1
      have HZ2E : Hid (Z2 = Z1.alloc (.cells #[.int .i64 p, .int .i64 q] 3)) := hZ2
      have HP2E : Hid (P2 = Z1.heap.size) := hP2
      clear hat hz hil hol hrg hmd hp hq hZ1 hP1 hZ2 hP2 b1 b2 p1 p2
      go_upto_region 11 with fail
      rw [← HZ1E.out, ← HP1E.out]
      go_wp2_with fail
      rw [← HZ2E.out, ← HP2E.out]
      refine Calls.mono HRR.out ?_
      rintro e U ⟨n, J, ts, rfl, hn, hmd2, hu⟩
      have hnl : n = il := by rw [hn, ← made_same HMD.out hmd2, HIL.out]
      subst hnl
      have HBU : Hid (Below w.heap.size w U) := HB2.out.trans (hu.mono HB2.out.size)
      have k0 := cellAt (heap_later HP12.out hu) 0 _ rfl
      clear hn hmd2 hu
      go_wp2
      exact ⟨⟨s + 1, by omega, by go_num, HBU.out⟩, by simp [intOf]; omega⟩
    · obtain rfl : k = s := by omega
      go_wp2_with fail
      refine Calls.mono (HRN.out Y HB.out) ?_
      rintro e U ⟨n, J, ts, rfl, hn, hmd2, hu⟩
      have hnl : n = 0 := by rw [hn, hmd2.none rfl]; rfl
      subst hnl
      have HBU : Hid (Below w.heap.size w U) := HB.out.trans (hu.mono HB.out.size)
      clear hn hmd2 hu
      go_wp2
      go_ret
      exact ⟨by first | rfl | simp, HBU.out⟩
theorem each_all (k r : Int) (w : World) (E : Nat → Addr) (hE : ErrsG w E) (hEL : w.cell? ⟨2, 0, none⟩ = some (errAt (E 5))) (hk0 : -9223372036854775808 ≤ k) (hk1 : k ≤ 9223372036854775807) (hr0 : -9223372036854775808 ≤ r) (hr1 : r ≤ 9223372036854775807) :
    Calls Tryz.prog 8 #[.int .i64 k, .int .i64 r] w fun e w' => e = .returned (.bool true) ∧ Below w.heap.size w w' := by
  by_cases hL : LegalP k r
  · obtain ⟨a, b, rfl, rfl, h1, h2, h3⟩ := legal_nat hL
    exact each_ok a b w E hE h1 h2 h3
  · exact each_illegal k r w E hE hEL hk0 hk1 hr0 hr1 hL
end Go.Proofs.YtkoakingmnjdoaaGreatDoor

/- What Num of package tesseranum answers of an error of package api, and of none: its number; nothing that was there turns. -/
namespace Go.Proofs.YtkoakingmnjdoaaGreatDoor
open Go.RowKit Go.ChangeShapes
set_option linter.unusedVariables false
set_option maxRecDepth 20000
/-- the errors' variables, in the document's order -/
def gsNum : List Nat := [0, 4, 5, 1, 6, 2, 7, 8, 9, 10, 11, 3, 12, 13, 14, 15, 16, 17, 18, 19, 20, 21, 22, 23, 24]
theorem num_nil (w : World) : Calls Tryz.prog 23 #[.nilIface] w fun e w' => e = .returned (.int .i64 0) ∧ w = w' := by
  go_enter Tryz.func23, Tryz.ntmps23
  go_wp2
  go_ret
  exact ⟨rfl, rfl⟩
set_option maxHeartbeats 2000000 in
theorem num_fn (k : Nat) (a : Nat → Addr) (w : World) (hk : k < 25) (H : ∀ j, j < 25 → w.cell? ⟨gsNum.getD j 0, 0, none⟩ = some (errAt (a j))) (hne : ∀ j, j < 25 → j ≠ k → a k ≠ a j)
    (hh : ∀ j, j < 25 → ∃ c t, w.heap[(a j).block]? = some (.cells c t (0, 0))) :
    Calls Tryz.prog 23 #[.iface 191 (.pointer (some (a k)))] w fun e w' => e = .returned (.int .i64 ((k : Int) + 1)) ∧ Below w.heap.size w w' := by
  have c0 : w.cell? ⟨0, 0, none⟩ = some (.iface 191 (.pointer (some (a 0)))) := H 0 (by decide)
  have c1 : w.cell? ⟨4, 0, none⟩ = some (.iface 191 (.pointer (some (a 1)))) := H 1 (by decide)
  have c2 : w.cell? ⟨5, 0, none⟩ = some (.iface 191 (.pointer (some (a 2)))) := H 2 (by decide)
  have c3 : w.cell? ⟨1, 0, none⟩ = some (.iface 191 (.pointer (some (a 3)))) := H 3 (by decide)
  have c4 : w.cell? ⟨6, 0, none⟩ = some (.iface 191 (.pointer (some (a 4)))) := H 4 (by decide)
  have c5 : w.cell? ⟨2, 0, none⟩ = some (.iface 191 (.pointer (some (a 5)))) := H 5 (by decide)
  have c6 : w.cell? ⟨7, 0, none⟩ = some (.iface 191 (.pointer (some (a 6)))) := H 6 (by decide)
  have c7 : w.cell? ⟨8, 0, none⟩ = some (.iface 191 (.pointer (some (a 7)))) := H 7 (by decide)
  have c8 : w.cell? ⟨9, 0, none⟩ = some (.iface 191 (.pointer (some (a 8)))) := H 8 (by decide)
  have c9 : w.cell? ⟨10, 0, none⟩ = some (.iface 191 (.pointer (some (a 9)))) := H 9 (by decide)
  have c10 : w.cell? ⟨11, 0, none⟩ = some (.iface 191 (.pointer (some (a 10)))) := H 10 (by decide)
  have c11 : w.cell? ⟨3, 0, none⟩ = some (.iface 191 (.pointer (some (a 11)))) := H 11 (by decide)
  have c12 : w.cell? ⟨12, 0, none⟩ = some (.iface 191 (.pointer (some (a 12)))) := H 12 (by decide)
  have c13 : w.cell? ⟨13, 0, none⟩ = some (.iface 191 (.pointer (some (a 13)))) := H 13 (by decide)
  have c14 : w.cell? ⟨14, 0, none⟩ = some (.iface 191 (.pointer (some (a 14)))) := H 14 (by decide)
  have c15 : w.cell? ⟨15, 0, none⟩ = some (.iface 191 (.pointer (some (a 15)))) := H 15 (by decide)
  have c16 : w.cell? ⟨16, 0, none⟩ = some (.iface 191 (.pointer (some (a 16)))) := H 16 (by decide)
  have c17 : w.cell? ⟨17, 0, none⟩ = some (.iface 191 (.pointer (some (a 17)))) := H 17 (by decide)
  have c18 : w.cell? ⟨18, 0, none⟩ = some (.iface 191 (.pointer (some (a 18)))) := H 18 (by decide)
  have c19 : w.cell? ⟨19, 0, none⟩ = some (.iface 191 (.pointer (some (a 19)))) := H 19 (by decide)
  have c20 : w.cell? ⟨20, 0, none⟩ = some (.iface 191 (.pointer (some (a 20)))) := H 20 (by decide)
  have c21 : w.cell? ⟨21, 0, none⟩ = some (.iface 191 (.pointer (some (a 21)))) := H 21 (by decide)
  have c22 : w.cell? ⟨22, 0, none⟩ = some (.iface 191 (.pointer (some (a 22)))) := H 22 (by decide)
  have c23 : w.cell? ⟨23, 0, none⟩ = some (.iface 191 (.pointer (some (a 23)))) := H 23 (by decide)
  have c24 : w.cell? ⟨24, 0, none⟩ = some (.iface 191 (.pointer (some (a 24)))) := H 24 (by decide)
  clear H
  go_enter Tryz.func23, Tryz.ntmps23
  go_wp2
  clear c0 c1 c2 c3 c4 c5 c6 c7 c8 c9 c10 c11 c12 c13 c14 c15 c16 c17 c18 c19 c20 c21 c22 c23 c24
  have B0 : (w.alloc (.cells #[.iface 191 (.pointer (some (a 0))), .iface 191 (.pointer (some (a 1))), .iface 191 (.pointer (some (a 2))), .iface 191 (.pointer (some (a 3))), .iface 191 (.pointer (some (a 4))), .iface 191 (.pointer (some (a 5))), .iface 191 (.pointer (some (a 6))), .iface 191 (.pointer (some (a 7))), .iface 191 (.pointer (some (a 8))), .iface 191 (.pointer (some (a 9))), .iface 191 (.pointer (some (a 10))), .iface 191 (.pointer (some (a 11))), .iface 191 (.pointer (some (a 12))), .iface 191 (.pointer (some (a 13))), .iface 191 (.pointer (some (a 14))), .iface 191 (.pointer (some (a 15))), .iface 191 (.pointer (some (a 16))), .iface 191 (.pointer (some (a 17))), .iface 191 (.pointer (some (a 18))), .iface 191 (.pointer (some (a 19))), .iface 191 (.pointer (some (a 20))), .iface 191 (.pointer (some (a 21))), .iface 191 (.pointer (some (a 22))), .iface 191 (.pointer (some (a 23))), .iface 191 (.pointer (some (a 24)))] 32)).heap[w.heap.size]? = some (.cells ((List.range 25).map fun j => errAt (a j)).toArray 32 (0, 0)) := heap_alloc_last w _
  have HH : ∀ j, j < 25 → ∃ c t, (w.alloc (.cells #[.iface 191 (.pointer (some (a 0))), .iface 191 (.pointer (some (a 1))), .iface 191 (.pointer (some (a 2))), .iface 191 (.pointer (some (a 3))), .iface 191 (.pointer (some (a 4))), .iface 191 (.pointer (some (a 5))), .iface 191 (.pointer (some (a 6))), .iface 191 (.pointer (some (a 7))), .iface 191 (.pointer (some (a 8))), .iface 191 (.pointer (some (a 9))), .iface 191 (.pointer (some (a 10))), .iface 191 (.pointer (some (a 11))), .iface 191 (.pointer (some (a 12))), .iface 191 (.pointer (some (a 13))), .iface 191 (.pointer (some (a 14))), .iface 191 (.pointer (some (a 15))), .iface 191 (.pointer (some (a 16))), .iface 191 (.pointer (some (a 17))), .iface 191 (.pointer (some (a 18))), .iface 191 (.pointer (some (a 19))), .iface 191 (.pointer (some (a 20))), .iface 191 (.pointer (some (a 21))), .iface 191 (.pointer (some (a 22))), .iface 191 (.pointer (some (a 23))), .iface 191 (.pointer (some (a 24)))] 32)).heap[(a j).block]? = some (.cells c t (0, 0)) := fun j hj => by
    obtain ⟨c, t, h⟩ := hh j hj
    exact ⟨c, t, (Below.heap_alloc _ _ _ (ltHeap h)).trans h⟩
  have HB : Hid (Below w.heap.size w (w.alloc (.cells #[.iface 191 (.pointer (some (a 0))), .iface 191 (.pointer (some (a 1))), .iface 191 (.pointer (some (a 2))), .iface 191 (.pointer (some (a 3))), .iface 191 (.pointer (some (a 4))), .iface 191 (.pointer (some (a 5))), .iface 191 (.pointer (some (a 6))), .iface 191 (.pointer (some (a 7))), .iface 191 (.pointer (some (a 8))), .iface 191 (.pointer (some (a 9))), .iface 191 (.pointer (some (a 10))), .iface 191 (.pointer (some (a 11))), .iface 191 (.pointer (some (a 12))), .iface 191 (.pointer (some (a 13))), .iface 191 (.pointer (some (a 14))), .iface 191 (.pointer (some (a 15))), .iface 191 (.pointer (some (a 16))), .iface 191 (.pointer (some (a 17))), .iface 191 (.pointer (some (a 18))), .iface 191 (.pointer (some (a 19))), .iface 191 (.pointer (some (a 20))), .iface 191 (.pointer (some (a 21))), .iface 191 (.pointer (some (a 22))), .iface 191 (.pointer (some (a 23))), .iface 191 (.pointer (some (a 24)))] 32))) := (Below.refl _ _).alloc (Nat.le_refl _) _
  generalize (w.alloc (.cells #[.iface 191 (.pointer (some (a 0))), .iface 191 (.pointer (some (a 1))), .iface 191 (.pointer (some (a 2))), .iface 191 (.pointer (some (a 3))), .iface 191 (.pointer (some (a 4))), .iface 191 (.pointer (some (a 5))), .iface 191 (.pointer (some (a 6))), .iface 191 (.pointer (some (a 7))), .iface 191 (.pointer (some (a 8))), .iface 191 (.pointer (some (a 9))), .iface 191 (.pointer (some (a 10))), .iface 191 (.pointer (some (a 11))), .iface 191 (.pointer (some (a 12))), .iface 191 (.pointer (some (a 13))), .iface 191 (.pointer (some (a 14))), .iface 191 (.pointer (some (a 15))), .iface 191 (.pointer (some (a 16))), .iface 191 (.pointer (some (a 17))), .iface 191 (.pointer (some (a 18))), .iface 191 (.pointer (some (a 19))), .iface 191 (.pointer (some (a 20))), .iface 191 (.pointer (some (a 21))), .iface 191 (.pointer (some (a 22))), .iface 191 (.pointer (some (a 23))), .iface 191 (.pointer (some (a 24)))] 32)) = W1 at *
  clear hh
  go_loopw [36] (fun i wr => ∃ j : Nat, j ≤ k ∧ i = .int .i64 j ∧ wr = W1) (fun i _ => 25 - (intOf i).toNat)
  case atStart => exact ⟨0, by omega, rfl, rfl⟩
  case round =>
    obtain ⟨j, hj, rfl, rfl⟩ := hrel
    have hj25 : j < 25 := by omega
    have c0 : wr.cell? ⟨w.heap.size, j, none⟩ = some (.iface 191 (.pointer (some (a j)))) := cellAt B0 j _ (by
      simp only [List.getElem?_toArray, List.getElem?_map, List.getElem?_range hj25, Option.map_some, errAt])
    by_cases e : j = k
    · subst e
      have q := eq_same wr (a j)
      clear HH hne B0
      go_wp2
      go_ret
      exact ⟨rfl, HB.out⟩
    · obtain ⟨_, _, h1⟩ := HH k hk
      obtain ⟨_, _, h2⟩ := HH j hj25
      have q := eq_other (hne j hj25 e) h1 h2
      have hjk : j + 1 ≤ k := by omega
      clear HH hne B0 h1 h2
      go_wp2
      exact ⟨⟨j + 1, by omega, by go_num, trivial⟩, by simp [intOf]; omega⟩
theorem num_err {w : World} {es : List Addr} {k : Nat} {s : Addr} (h : ErrsAt w gsNum es) (hs : es[k]? = some s) :
    Calls Tryz.prog 23 #[errAt s] w fun e w' => e = .returned (.int .i64 ((k : Int) + 1)) ∧ Below w.heap.size w w' := by
  have hl : es.length = 25 := h.1.symm
  obtain ⟨hk, rfl⟩ := List.getElem?_eq_some_iff.1 hs
  have hget : ∀ j, (hj : j < 25) → es[j]? = some (es.getD j ⟨0, 0, none⟩) := fun j hj => by
    rw [List.getElem?_eq_getElem (by omega), List.getD_eq_getElem?_getD, List.getElem?_eq_getElem (by omega)]; rfl
  have hg : ∀ j, j < 25 → gsNum[j]? = some (gsNum.getD j 0) := fun j hj => by
    rw [List.getElem?_eq_getElem (by show j < 25; exact hj), List.getD_eq_getElem?_getD, List.getElem?_eq_getElem (by show j < 25; exact hj)]; rfl
  have hk25 : k < 25 := by omega
  have e0 : es[k] = es.getD k ⟨0, 0, none⟩ := by
    have := hget k hk25
    rw [List.getElem?_eq_getElem hk] at this
    exact Option.some.inj this
  have := num_fn k (fun j => es.getD j ⟨0, 0, none⟩) w hk25 (fun j hj => (h.2.2 j _ _ (hg j hj) (hget j hj)).1) (fun j hj hjk e => ?_) (fun j hj => (h.2.2 j _ _ (hg j hj) (hget j hj)).2)
  · rw [e0]; exact this
  · have e1 := hget k hk25
    have e2 := hget j hj
    rw [List.getElem?_eq_getElem (by omega)] at e1 e2
    have e3 : es[k] = es[j] := by rw [Option.some.inj e1, Option.some.inj e2]; exact e
    have hp := List.pairwise_iff_getElem.1 h.2.1
    rcases Nat.lt_or_gt_of_ne hjk with q | q
    · exact hp j k _ _ q e3.symm
    · exact hp k j _ _ q e3
end Go.Proofs.YtkoakingmnjdoaaGreatDoor

/- The walk of ShardsSizes: at all numbers. -/
namespace Go.Proofs.YtkoakingmnjdoaaGreatDoor
open Go.RowKit Gf
set_option linter.unusedVariables false
set_option maxRecDepth 20000
/-- the errors' addresses, by number -/
def ofL (es : List Addr) : Nat → Addr := fun j => es.getD j ⟨0, 0, none⟩
theorem errsE_num {w : World} {es : List Addr} (h : ErrsAt w gsNum es) : ErrsE w (ofL es) := by
  have hl : es.length = 25 := h.1.symm
  have hget : ∀ j, (hj : j < 25) → es[j]? = some (ofL es j) := fun j hj => by
    unfold ofL
    rw [List.getElem?_eq_getElem (by omega), List.getD_eq_getElem?_getD, List.getElem?_eq_getElem (by omega)]; rfl
  exact ⟨(h.2.2 0 _ _ rfl (hget 0 (by decide))).1, (h.2.2 11 _ _ rfl (hget 11 (by decide))).1, (h.2.2 19 _ _ rfl (hget 19 (by decide))).1⟩
theorem num_V {w : World} {es : List Addr} (n : Nat) (h : ErrsAt w gsNum es) (hn : n ≤ 25) :
    Calls Tryz.prog 23 #[evV (ofL es) n] w fun e w' => e = .returned (.int .i64 n) ∧ Below w.heap.size w w' := by
  cases n with
  | zero => exact (num_nil w).mono fun e w' ⟨he, hw⟩ => ⟨he, hw ▸ Below.refl _ _⟩
  | succ n =>
    have hl : es.length = 25 := h.1.symm
    rw [evV_succ]
    have := num_err (k := n) (s := ofL es n) h (by
      unfold ofL
      rw [List.getElem?_eq_getElem (by omega), List.getD_eq_getElem?_getD, List.getElem?_eq_getElem (by omega)]; rfl)
    simpa using this
theorem halfE_le (k n : Int) : halfE k n ≤ 25 := by unfold halfE; split <;> (try split) <;> (try split) <;> omega
theorem stripesE_le (k n : Int) : stripesE k n ≤ 25 := by unfold stripesE; split <;> (try split) <;> (try split) <;> omega
theorem stripesL_len (k n : Int) : (stripesL k n).length ≤ 32 := by
  by_cases h : stripesE k n = 0
  · obtain ⟨a, m, rfl, rfl, h1, h2, h3⟩ := stripes_ok h
    rw [stripesL_ok h1 h2 h3, strL_len]
    exact cnt_stripes h1 h3
  · rw [stripesL_no h]; simp
end Go.Proofs.YtkoakingmnjdoaaGreatDoor

/- Cheap, Reads and Compile of package plan, at all arguments. -/
namespace Go.Proofs.YtkoakingmnjdoaaGreatDoor
open Go.RowKit Gf
set_option linter.unusedVariables false
set_option maxRecDepth 20000
set_option linter.unusedSimpArgs false
theorem num_get {w : World} {es : List Addr} (h : ErrsAt w gsNum es) (j : Nat) (hj : j < 25) : es[j]? = some (ofL es j) := by
  have hl : es.length = 25 := h.1.symm
  unfold ofL
  rw [List.getElem?_eq_getElem (by omega), List.getD_eq_getElem?_getD, List.getElem?_eq_getElem (by omega)]; rfl
theorem errsG_num {w : World} {es : List Addr} (h : ErrsAt w gsNum es) : ErrsG w (ofL es) ∧ w.cell? ⟨2, 0, none⟩ = some (errAt (ofL es 5)) :=
  ⟨⟨⟨(h.2.2 0 _ _ rfl (num_get h 0 (by decide))).1, (h.2.2 3 _ _ rfl (num_get h 3 (by decide))).1⟩, (h.2.2 1 _ _ rfl (num_get h 1 (by decide))).1, (h.2.2 11 _ _ rfl (num_get h 11 (by decide))).1⟩, (h.2.2 5 _ _ rfl (num_get h 5 (by decide))).1⟩
theorem lossE_le (k r : Int) (lost : List Int) : lossE k r lost ≤ 25 := by
  unfold lossE chkE
  repeat' split
  all_goals omega
/-- what Reads and Compile read: the same halves -/
def LossN (k r : Int) (lost : List Int) (n : Nat) : Prop := (lossE k r lost ≠ 0 ∧ n = 0) ∨ lossE k r lost = 0 ∧ ∃ (a b : Nat) (ns I : List Nat) (ss : List Stp), k = a ∧ r = b ∧ lost = natJ8 ns ∧ n = I.length ∧ MadeP a b ns ns I ss
theorem lossN_same {k r : Int} {lost : List Int} {n m : Nat} (h : LossN k r lost n) (h' : LossN k r lost m) : n = m := by
  rcases h with ⟨h0, rfl⟩ | ⟨h0, a, b, ns, I, ss, rfl, rfl, rfl, rfl, hm⟩
  · rcases h' with ⟨_, rfl⟩ | ⟨h1, _⟩
    · rfl
    · exact absurd h1 h0
  · rcases h' with ⟨h1, _⟩ | ⟨_, a', b', ns', J, ts, e1, e2, e3, rfl, hm'⟩
    · exact absurd h0 h1
    · obtain rfl : a = a' := by exact_mod_cast e1
      obtain rfl : b = b' := by exact_mod_cast e2
      obtain rfl := natJ8_inj e3
      rw [made_same hm hm']
theorem compile_G (k r : Int) (ll lc : Nat) (la : Option Addr) (lost : List Int) (w : World) (E : Nat → Addr) (hE : ErrsG w E) (hEL : w.cell? ⟨2, 0, none⟩ = some (errAt (E 5))) (hk0 : -9223372036854775808 ≤ k) (hk1 : k ≤ 9223372036854775807) (hr0 : -9223372036854775808 ≤ r) (hr1 : r ≤ 9223372036854775807) (hl : ll = lost.length) (hl9 : ll ≤ 4611686018427387904) (hcap : ll ≤ lc) (hn : la = none → lc = 0) (hX : RowI w la lost) :
    Calls Tryz.prog 12 #[.int .i64 k, .int .i64 r, .slice la ll lc] w fun e w' => ∃ ia il ic oa ol oc rg ta tl tc, e = .returned (.tuple #[pAgg ia il ic oa ol oc (rg : Nat) ta tl tc, evV E (lossE k r lost)]) ∧ LossN k r lost il ∧ Below w.heap.size w w' := by
  by_cases h : lossE k r lost = 0
  · obtain ⟨a, b, ns, rfl, rfl, rfl, h1, h2, h3, hu, hr, hg⟩ := loss_split h
    rw [natJ8_len] at hl
    refine (compile_ok a b ll lc la ns w E hE h1 h2 h3 hl hcap hn hX hu hr hg).mono ?_
    rintro e w' ⟨v, rfl, hat, hb⟩
    obtain ⟨ia, il, ic, oa, ol, oc, rg, ta, tl, tc, I, ss, rfl, hil, _, _, _, _, hmd, _⟩ := hat.shape
    exact ⟨ia, il, ic, oa, ol, oc, rg, ta, tl, tc, by rw [h]; rfl, .inr ⟨h, a, b, ns, I, ss, rfl, rfl, rfl, hil, hmd⟩, hb⟩
  · refine (compile_E k r ll lc la lost w E hE hEL hk0 hk1 hr0 hr1 hl hl9 hcap hX h).mono ?_
    rintro e w' ⟨rfl, hb⟩
    exact ⟨none, 0, 0, none, 0, 0, 0, none, 0, 0, by unfold evV; rw [if_neg h]; rfl, .inl ⟨h, rfl⟩, hb⟩
theorem reads_G (k r : Int) (ll lc : Nat) (la : Option Addr) (lost : List Int) (w : World) (E : Nat → Addr) (hE : ErrsG w E) (hEL : w.cell? ⟨2, 0, none⟩ = some (errAt (E 5))) (hk0 : -9223372036854775808 ≤ k) (hk1 : k ≤ 9223372036854775807) (hr0 : -9223372036854775808 ≤ r) (hr1 : r ≤ 9223372036854775807) (hl : ll = lost.length) (hl9 : ll ≤ 4611686018427387904) (hcap : ll ≤ lc) (hn : la = none → lc = 0) (hX : RowI w la lost) :
    Calls Tryz.prog 22 #[.int .i64 k, .int .i64 r, .slice la ll lc] w fun e w' => ∃ n : Nat, e = .returned (.tuple #[.int .i64 n, evV E (lossE k r lost)]) ∧ LossN k r lost n ∧ Below w.heap.size w w' := by
  by_cases h : lossE k r lost = 0
  · obtain ⟨a, b, ns, rfl, rfl, rfl, h1, h2, h3, hu, hr, hg⟩ := loss_split h
    rw [natJ8_len] at hl
    refine (reads_ok a b ll lc la ns w (compile_ok a b ll lc la ns w E hE h1 h2 h3 hl hcap hn hX hu hr hg)).mono ?_
    rintro e w' ⟨n, I, ss, rfl, hil, hmd, hb⟩
    exact ⟨n, by rw [h]; rfl, .inr ⟨h, a, b, ns, I, ss, rfl, rfl, rfl, hil, hmd⟩, hb⟩
  · refine (reads_err k r ll lc la w _ (compile_E k r ll lc la lost w E hE hEL hk0 hk1 hr0 hr1 hl hl9 hcap hX h)).mono ?_
    rintro e w' ⟨rfl, hb⟩
    exact ⟨0, by unfold evV; rw [if_neg h]; rfl, .inl ⟨h, rfl⟩, hb⟩
/-- what Cheap answers -/
def CheapG (k r x : Int) (B : Nat) (w : World) (E : Nat → Addr) (v ev : Value) : Prop :=
  (¬ LegalP k r ∧ v = noProg ∧ ev = errAt (E 0)) ∨ (LegalP k r ∧ ¬ (0 ≤ x ∧ x < k) ∧ v = noProg ∧ ev = errAt (E 11)) ∨ ∃ a b s : Nat, k = a ∧ r = b ∧ x = s ∧ 1 ≤ a ∧ 2 ≤ b ∧ a + b ≤ 16 ∧ s < a ∧ ev = .nilIface ∧ ProgAt w B a b [2 * s, 2 * s + 1] [2 * s, 2 * s + 1] v
theorem cheap_G (k r x : Int) (w : World) (E : Nat → Addr) (hE : ErrsG w E) (hk0 : -9223372036854775808 ≤ k) (hk1 : k ≤ 9223372036854775807) (hr0 : -9223372036854775808 ≤ r) (hr1 : r ≤ 9223372036854775807) :
    Calls Tryz.prog 21 #[.int .i64 k, .int .i64 r, .int .i64 x] w fun e w' => ∃ ia il ic oa ol oc rg ta tl tc ev, e = .returned (.tuple #[pAgg ia il ic oa ol oc (rg : Nat) ta tl tc, ev]) ∧ CheapG k r x w.heap.size w' E (pAgg ia il ic oa ol oc (rg : Nat) ta tl tc) ev ∧ Below w.heap.size w w' := by
  by_cases hL : LegalP k r
  · by_cases hx : 0 ≤ x ∧ x < k
    · obtain ⟨a, b, rfl, rfl, h1, h2, h3⟩ := legal_nat hL
      obtain ⟨s, rfl⟩ : ∃ s : Nat, x = s := ⟨x.toNat, by omega⟩
      refine (cheap_ok a b s w E hE h1 h2 h3 (by omega)).mono ?_
      rintro e w' ⟨v, rfl, hat, hb⟩
      obtain ⟨ia, il, ic, oa, ol, oc, rg, ta, tl, tc, I, ss, rfl, _⟩ := hat.shape
      exact ⟨ia, il, ic, oa, ol, oc, rg, ta, tl, tc, .nilIface, rfl, .inr (.inr ⟨a, b, s, rfl, rfl, rfl, h1, h2, h3, by omega, rfl, hat⟩), hb⟩
    · obtain ⟨a, b, rfl, rfl, h1, h2, h3⟩ := legal_nat hL
      refine (cheap_err a b x w (E 11) fun u hu => hcarrier_no a b x u (E 11) (errsG_below hE hu).2.2 h1 h2 h3 hx).mono ?_
      rintro e w' ⟨rfl, hb⟩
      exact ⟨none, 0, 0, none, 0, 0, 0, none, 0, 0, errAt (E 11), rfl, .inr (.inl ⟨hL, hx, rfl, rfl⟩), hb⟩
  · refine (cheap_err k r x w (E 0) fun u hu => (hcarrier_bad k r x u (E 0) (errsG_below hE hu).1.1 hk0 hk1 hr0 hr1 hL).mono fun e w' ⟨he, hw⟩ => ⟨he, hw ▸ Below.refl _ _⟩).mono ?_
    rintro e w' ⟨rfl, hb⟩
    exact ⟨none, 0, 0, none, 0, 0, 0, none, 0, 0, errAt (E 0), rfl, .inl ⟨hL, rfl, rfl⟩, hb⟩
end Go.Proofs.YtkoakingmnjdoaaGreatDoor

/- The walk of PlanCheap: at all arguments. -/
namespace Go.Proofs.YtkoakingmnjdoaaGreatDoor
open Go.RowKit Gf
set_option linter.unusedVariables false
set_option maxRecDepth 20000
set_option linter.unusedSimpArgs false
set_option maxRecDepth 100000 in
set_option maxHeartbeats 8000000 in
theorem cheaps_all (k r x : Int) (ll lc wl wc dl dc : Nat) (la wa da : Option Addr) (lost : List Int) (w : World) (es : List Addr) (hes : ErrsAt w gsNum es) (hk0 : -9223372036854775808 ≤ k) (hk1 : k ≤ 9223372036854775807) (hr0 : -9223372036854775808 ≤ r) (hr1 : r ≤ 9223372036854775807) (hx0 : -9223372036854775808 ≤ x) (hx1 : x ≤ 9223372036854775807) (hl : ll = lost.length) (hl9 : ll ≤ 4611686018427387904) (hcap : ll ≤ lc) (hn : la = none → lc = 0) (hX : RowI w la lost) :
    Calls Tryz.prog 4 #[.agg #[.int .i64 k, .int .i64 r, .slice la ll lc, .slice wa wl wc, .slice da dl dc], .int .i64 x] w fun e w' => e = .returned (.bool true) ∧ Below w.heap.size w w' := by
  obtain ⟨E, hEE⟩ : ∃ E, E = ofL es := ⟨_, rfl⟩
  have hG := errsG_num hes
  rw [← hEE] at hG
  obtain ⟨W0, hW0⟩ : ∃ W0, W0 = w.alloc (.cells #[.int .i64 k, .int .i64 r, .slice la ll lc, .slice wa wl wc, .slice da dl dc] 25) := ⟨_, rfl⟩
  obtain ⟨P0, hP0⟩ : ∃ P0, P0 = w.heap.size := ⟨_, rfl⟩
  have hb0 : Below w.heap.size w W0 := by rw [hW0]; exact (Below.refl _ _).alloc (Nat.le_refl _) _
  have p0 : W0.heap[P0]? = some (.cells #[.int .i64 k, .int .i64 r, .slice la ll lc, .slice wa wl wc, .slice da dl dc] 25 (0, 0)) := by rw [hW0, hP0]; exact heap_alloc_last _ _
  have HAL : Hid _ := fun u (hu : Below w.heap.size w u) => alive11_ok u E (errsG_below hG.1 hu)
  have HCH : Hid _ := fun u (hu : Below w.heap.size w u) => cheap_G k r x u E (errsG_below hG.1 hu) hk0 hk1 hr0 hr1
  have HRD : Hid _ := fun u (hu : Below w.heap.size w u) => reads_G k r ll lc la lost u E (errsG_below hG.1 hu) (cell_later hu hG.2) hk0 hk1 hr0 hr1 hl hl9 hcap hn (rowI_below hX hu)
  have HCO : Hid _ := fun u (hu : Below w.heap.size w u) => compile_G k r ll lc la lost u E (errsG_below hG.1 hu) (cell_later hu hG.2) hk0 hk1 hr0 hr1 hl hl9 hcap hn (rowI_below hX hu)
  have HNM : Hid (∀ u (hu : Below w.heap.size w u), Calls Tryz.prog 23 #[evV E (lossE k r lost)] u fun e w' => e = .returned (.int .i64 (lossE k r lost : Nat)) ∧ Below u.heap.size u w') := fun u hu => by rw [hEE]; exact num_V _ (errsAt_below hes hu) (lossE_le ..)
  have HLN : Hid (¬ LegalP k r → ∀ u, Calls Tryz.prog 14 #[.int .i64 k, .int .i64 r] u fun e w' => e = .returned (.bool false) ∧ u = w') := fun h u => legal_no k r u hk0 hk1 hr0 hr1 h
  have HCL : Hid (∀ u, Below w.heap.size w u → u.cell? ⟨0, 0, none⟩ = some (errAt (E 0)) ∧ u.cell? ⟨3, 0, none⟩ = some (errAt (E 11))) := fun u hu => ⟨(errsG_below hG.1 hu).1.1, (errsG_below hG.1 hu).2.2⟩
  have hd25 := lossE_le k r lost
  have k0 := cellAt p0 0 _ rfl
  have k1 := cellAt p0 1 _ rfl
  have k2 := cellAt p0 2 _ rfl
  have k3 := cellAt p0 3 _ rfl
  have k4 := cellAt p0 4 _ rfl
  have zz := ltHeap p0
  have HB0 : Hid (Below w.heap.size w W0) := hb0
  have HW0E : Hid (W0 = w.alloc (.cells #[.int .i64 k, .int .i64 r, .slice la ll lc, .slice wa wl wc, .slice da dl dc] 25)) := hW0
  have HP0E : Hid (P0 = w.heap.size) := hP0
  obtain ⟨d, hd⟩ : ∃ d, d = lossE k r lost := ⟨_, rfl⟩
  have HDE : Hid (d = lossE k r lost) := hd
  rw [← hd] at HRD HCO HNM hd25
  clear hEE hG hes hX hl hl9 hcap hn hb0 p0 hW0 hP0 hd
  go_enter Tryz.func4, Tryz.ntmps4
  go_upto_region 1 with fail
  rw [← HW0E.out, ← HP0E.out]
  go_region
  have HB0' : Hid _ := HB0.out.drew
  clear k0 k1 k2 k3 k4 zz
  generalize World.drew W0 = W1 at *
  go_wp2_with fail
  refine Calls.mono (HAL.out _ HB0'.out) ?_
  rintro e W2 ⟨rfl, hb⟩
  have HB2 : Hid (Below w.heap.size w W2) := HB0'.out.trans (hb.mono HB0'.out.size)
  clear hb HB0'
  go_wp2_with fail
  refine Calls.mono (HCH.out _ HB2.out) ?_
  rintro e W3 ⟨ia, il, ic, oa, ol, oc, rg, ta, tl, tc, ev, rfl, hcg, hb⟩
  have HB3 : Hid (Below w.heap.size w W3) := HB2.out.trans (hb.mono HB2.out.size)
  have HCG : Hid (CheapG k r x W2.heap.size W3 E (pAgg ia il ic oa ol oc (rg : Nat) ta tl tc) ev) := hcg
  clear hb hcg
  obtain ⟨Z1, hZ1⟩ : ∃ Z1, Z1 = W3.alloc (.cells #[.slice ia il ic, .slice oa ol oc, .int .i64 rg, .slice ta tl tc] 30) := ⟨_, rfl⟩
  obtain ⟨P1, hP1⟩ : ∃ P1, P1 = W3.heap.size := ⟨_, rfl⟩
  have b1 : Below W3.heap.size W3 Z1 := by rw [hZ1]; exact (Below.refl _ _).alloc (Nat.le_refl _) _
  have HP1 : Hid (Z1.heap[P1]? = some (.cells #[.slice ia il ic, .slice oa ol oc, .int .i64 rg, .slice ta tl tc] 30 (0, 0))) := by show _ = _; rw [hZ1, hP1]; exact heap_alloc_last _ _
  have HBZ : Hid (Below w.heap.size w Z1) := HB3.out.trans (b1.mono HB3.out.size)
  have HWZ : Hid (Below W3.heap.size W3 Z1) := b1
  have HZ1E : Hid (Z1 = W3.alloc (.cells #[.slice ia il ic, .slice oa ol oc, .int .i64 rg, .slice ta tl tc] 30)) := hZ1
  have HP1E : Hid (P1 = W3.heap.size) := hP1
  clear hZ1 hP1 b1
  go_wp2_with fail
  rw [← HZ1E.out, ← HP1E.out]
  refine Calls.mono (HRD.out _ HBZ.out) ?_
  rintro e W4 ⟨n, rfl, hn4, hb⟩
  have HB4 : Hid (Below w.heap.size w W4) := HBZ.out.trans (hb.mono HBZ.out.size)
  have HW4 : Hid (Below W3.heap.size W3 W4) := HWZ.out.trans (hb.mono HWZ.out.size)
  have HP4 : Hid _ := heap_later HP1.out hb
  have HN4 : Hid (LossN k r lost n) := hn4
  clear hb hn4
  go_wp2_with fail
  refine Calls.mono (HCO.out _ HB4.out) ?_
  rintro e W5 ⟨ja, jl, jc, pa, pl, pc, sg, ua, ul, uc, rfl, hn5, hb⟩
  have HB5 : Hid (Below w.heap.size w W5) := HB4.out.trans (hb.mono HB4.out.size)
  have HW5 : Hid (Below W3.heap.size W3 W5) := HW4.out.trans (hb.mono HW4.out.size)
  have HP5 : Hid _ := heap_later HP4.out hb
  obtain rfl : n = jl := lossN_same HN4.out hn5
  clear hb hn5
  obtain ⟨Z2, hZ2⟩ : ∃ Z2, Z2 = W5.alloc (.cells #[.slice ja n jc, .slice pa pl pc, .int .i64 sg, .slice ua ul uc] 30) := ⟨_, rfl⟩
  obtain ⟨P2, hP2⟩ : ∃ P2, P2 = W5.heap.size := ⟨_, rfl⟩
  have b2 : Below W5.heap.size W5 Z2 := by rw [hZ2]; exact (Below.refl _ _).alloc (Nat.le_refl _) _
  have HQ2 : Hid (Z2.heap[P2]? = some (.cells #[.slice ja n jc, .slice pa pl pc, .int .i64 sg, .slice ua ul uc] 30 (0, 0))) := by show _ = _; rw [hZ2, hP2]; exact heap_alloc_last _ _
  have HBZ2 : Hid (Below w.heap.size w Z2) := HB5.out.trans (b2.mono HB5.out.size)
  have HWZ2 : Hid (Below W3.heap.size W3 Z2) := HW5.out.trans (b2.mono HW5.out.size)
  have HPZ2 : Hid _ := heap_later HP5.out b2
  have HZ2E : Hid (Z2 = W5.alloc (.cells #[.slice ja n jc, .slice pa pl pc, .int .i64 sg, .slice ua ul uc] 30)) := hZ2
  have HP2E : Hid (P2 = W5.heap.size) := hP2
  clear hZ2 hP2 b2
  go_wp2_with fail
  rw [← HZ2E.out, ← HP2E.out]
  refine Calls.mono (HNM.out _ HBZ2.out) ?_
  rintro e W6 ⟨rfl, hb⟩
  have HB6 : Hid (Below w.heap.size w W6) := HBZ2.out.trans (hb.mono HBZ2.out.size)
  have HW6 : Hid (Below W3.heap.size W3 W6) := HWZ2.out.trans (hb.mono HWZ2.out.size)
  have HP6 : Hid _ := heap_later HPZ2.out hb
  have HQ6 : Hid _ := heap_later HQ2.out hb
  clear hb
  go_wp2_with fail
  refine Calls.mono (HNM.out _ HB6.out) ?_
  rintro e W7 ⟨rfl, hb⟩
  have HB7 : Hid (Below w.heap.size w W7) := HB6.out.trans (hb.mono HB6.out.size)
  have HW7 : Hid (Below W3.heap.size W3 W7) := HW6.out.trans (hb.mono HW6.out.size)
  have HP7 : Hid _ := heap_later HP6.out hb
  have HQ7 : Hid _ := heap_later HQ6.out hb
  have q0 := cellAt HQ7.out 0 _ rfl
  have p0 := cellAt HP7.out 0 _ rfl
  have p1 := cellAt HP7.out 1 _ rfl
  have p2 := cellAt HP7.out 2 _ rfl
  have p3 := cellAt HP7.out 3 _ rfl
  have pz := ltHeap HP7.out
  clear hb
  rcases HCG.out with ⟨hL, hv, he⟩ | ⟨hL, hx, hv, he⟩ | ⟨a, b, s, rfl, rfl, rfl, h1, h2, h3, hs, rfl, hat⟩
  · simp only [pAgg, noProg, Value.agg.injEq, Array.mk.injEq, List.cons.injEq, Value.slice.injEq, Value.int.injEq, and_true, true_and] at hv
    obtain ⟨⟨rfl, rfl, rfl⟩, ⟨rfl, rfl, rfl⟩, hrg, ⟨rfl, rfl, rfl⟩⟩ := hv
    obtain rfl : rg = 0 := by omega
    subst he
    have HE7 : Hid _ := fun u => empty_F u
    have c1 := (HCL.out _ HB7.out).1
    generalize E 0 = sp at *
    have eqs := fun u : World => eq_same u sp
    unfold errAt noProg at *
    go_wp2_with fail
    refine Calls.mono (HLN.out hL _) ?_
    rintro e W8 ⟨rfl, rfl⟩
    go_wp2_with fail
    refine Calls.mono (HE7.out _) ?_
    rintro e W9 ⟨rfl, hb⟩
    have HB9 : Hid (Below w.heap.size w W9) := HB7.out.trans (hb.mono HB7.out.size)
    clear hb
    go_wp2
    go_ret
    exact ⟨rfl, HB9.out⟩
  · simp only [pAgg, noProg, Value.agg.injEq, Array.mk.injEq, List.cons.injEq, Value.slice.injEq, Value.int.injEq, and_true, true_and] at hv
    obtain ⟨⟨rfl, rfl, rfl⟩, ⟨rfl, rfl, rfl⟩, hrg, ⟨rfl, rfl, rfl⟩⟩ := hv
    obtain rfl : rg = 0 := by omega
    subst he
    have HE7 : Hid _ := fun u => empty_F u
    have c1 := (HCL.out _ HB7.out).2
    generalize E 11 = sp at *
    have eqs := fun u : World => eq_same u sp
    obtain ⟨a, b, rfl, rfl, h1, h2, h3⟩ := legal_nat hL
    have HG7 : Hid _ := fun u => legal_yes a b u h1 h2 h3
    clear hL
    unfold errAt noProg at *
    go_wp2_with fail
    refine Calls.mono (HG7.out _) ?_
    rintro e W8 ⟨rfl, rfl⟩
    have hx' : x < 0 ∨ 0 ≤ x ∧ (a : Int) ≤ x := by omega
    clear hx
    rcases hx' with hx | ⟨hx, hx2⟩
    · go_wp2_with fail
      refine Calls.mono (HE7.out _) ?_
      rintro e W9 ⟨rfl, hb⟩
      have HB9 : Hid (Below w.heap.size w W9) := HB7.out.trans (hb.mono HB7.out.size)
      clear hb
      go_wp2
      go_ret
      exact ⟨rfl, HB9.out⟩
    · go_wp2_with fail
      refine Calls.mono (HE7.out _) ?_
      rintro e W9 ⟨rfl, hb⟩
      have HB9 : Hid (Below w.heap.size w W9) := HB7.out.trans (hb.mono HB7.out.size)
      clear hb
      go_wp2
      go_ret
      exact ⟨rfl, HB9.out⟩
  · have HG7 : Hid _ := fun u => legal_yes a b u h1 h2 h3
    have HGR : Hid _ := fun u => rgroup_F a b u h1 h2 h3
    have hg16 := (groupN_least h1 h2 h3).2.2.2
    obtain ⟨_, _, _, _, _, _, _, _, _, _, I, ss, hpe, hil, hol, hrg, hi32, ho32, hmd, _⟩ := hat.shape
    simp only [pAgg, Value.agg.injEq, Array.mk.injEq, List.cons.injEq, Value.slice.injEq, Value.int.injEq, and_true, true_and] at hpe
    obtain ⟨⟨rfl, e1, rfl⟩, ⟨rfl, e2, rfl⟩, e3, ⟨rfl, e4, rfl⟩⟩ := hpe
    have hcp : il ≤ a + groupN a b := by
      have h9 := hmd.cheap (by unfold kindN; rw [if_neg (by simp), if_pos ⟨s, hs, rfl⟩])
      omega
    have hless : 3 ≤ b → 2 ≤ a → a + groupN a b < 2 * a := plan_group a (by omega) b (by omega) ⟨h1, h2, h3⟩
    obtain ⟨g, hgg⟩ : ∃ g, g = groupN a b := ⟨_, rfl⟩
    rw [← hgg] at HGR hg16 hcp hless
    obtain ⟨p, hp⟩ : ∃ p, p = 2 * s := ⟨_, rfl⟩
    obtain ⟨q, hq⟩ : ∃ q, q = 2 * s + 1 := ⟨_, rfl⟩
    have hpI : 2 * (s : Int) = (p : Int) := by omega
    have hqI : 2 * (s : Int) + 1 = (q : Int) := by omega
    have hqp : (p : Int) + 1 = (q : Int) := by omega
    have hil32 : il ≤ 32 := by omega
    obtain ⟨Z3, hZ3⟩ : ∃ Z3, Z3 = W7.alloc (.cells #[.int .i64 p, .int .i64 q] 3) := ⟨_, rfl⟩
    obtain ⟨P3, hP3⟩ : ∃ P3, P3 = W7.heap.size := ⟨_, rfl⟩
    have b3 : Below W7.heap.size W7 Z3 := by rw [hZ3]; exact (Below.refl _ _).alloc (Nat.le_refl _) _
    have r3 : Z3.heap[P3]? = some (.cells #[.int .i64 p, .int .i64 q] 3 (0, 0)) := by rw [hZ3, hP3]; exact heap_alloc_last _ _
    have HB3' : Hid (Below w.heap.size w Z3) := HB7.out.trans (b3.mono HB7.out.size)
    have hw3 : Below W3.heap.size W3 Z3 := HW7.out.trans (b3.mono HW7.out.size)
    have HR : Hid _ := right_F a b 2 2 2 2 W2.heap.size (some ⟨P3, 0, none⟩) (some ⟨P3, 0, none⟩) [p, q] [p, q] (pAgg ia il ic oa ol oc (rg : Nat) ta tl tc) Z3 h1 h2 h3 rfl (by decide) (two_row r3) rfl (two_row r3) (by simp; omega) (by have := hat.below hw3; rw [← hq, ← hp] at this; exact this)
    have HPZ : Hid _ := heap_later HP7.out b3
    have HZ3E : Hid (Z3 = W7.alloc (.cells #[.int .i64 p, .int .i64 q] 3)) := hZ3
    have HP3E : Hid (P3 = W7.heap.size) := hP3
    have n0 := cellAt HPZ.out 0 _ rfl
    have n1 := cellAt HPZ.out 1 _ rfl
    have n2 := cellAt HPZ.out 2 _ rfl
    have n3 := cellAt HPZ.out 3 _ rfl
    have nz := ltHeap HPZ.out
    clear hat hil hol hrg hi32 ho32 hmd e1 e2 e3 e4 hgg hp hq hZ3 hP3 b3 r3 hw3
    unfold pAgg at *
    go_wp2_with fail
    refine Calls.mono (HG7.out _) ?_
    rintro e W8 ⟨rfl, rfl⟩
    go_wp2_with fail
    rw [← HZ3E.out, ← HP3E.out]
    refine Calls.mono (HGR.out _) ?_
    rintro e W9 ⟨rfl, rfl⟩
    go_wp2_with fail
    refine Calls.mono HR.out ?_
    rintro e U ⟨rfl, hb⟩
    have HBU : Hid (Below w.heap.size w U) := HB3'.out.trans (hb.mono HB3'.out.size)
    have u0 := cellAt (heap_later HPZ.out hb) 0 _ rfl
    clear hb n0 n1 n2 n3 nz
    have hdec : (decide ((b : Int) < 3) || decide ((a : Int) < 2) || decide ((il : Int) < 2 * (a : Int))) = true := by
      by_cases hb3 : 3 ≤ b
      · by_cases ha2 : 2 ≤ a
        · have := hless hb3 ha2
          have : (il : Int) < 2 * (a : Int) := by omega
          simp [this]
        · have : (a : Int) < 2 := by omega
          simp [this]
      · have : (b : Int) < 3 := by omega
        simp [this]
    go_wp2
    all_goals (try rw [hdec])
    all_goals go_ret
    all_goals exact ⟨rfl, HBU.out⟩
end Go.Proofs.YtkoakingmnjdoaaGreatDoor

/- The law PlanCheap holds: Cheap, Reads and Compile of package plan answer as the chapter says, Cheap is a right program of at most k + g halves and of fewer than 2k from three parities on, Reads tells what Compile reads, at all numbers and lists; no condition but what the card ties. -/
namespace Go.Proofs.YtkoakingmnjdoaaGreatDoor.planCheap
open Go.ChangeShapes Go.WideShapes Go.ChangeAt Go.RowKit
open Go.ChangeMaps (open_string shut_string)
open Gf
set_option linter.unusedVariables false
theorem errs {W : World} (h : laidMetH Tryz.prog Rows.planCheapRow.laid W) : ∃ es, ErrsAt W gsNum es :=
  errs_of_laid h (by kernel_rfl) (by kernel_rfl) (fun g hg => by
    have hall : (gsNum.all fun g => decide ((Tryz.prog.globals[g]?).map (·.type) = some 32)) = true := by kernel_rfl
    simpa using List.all_eq_true.1 hall g hg) (fun x hx => by
    simp only [Rows.planCheapRow, List.mem_cons, List.not_mem_nil, or_false] at hx
    rcases hx with rfl | rfl | rfl | rfl | rfl | rfl | rfl | rfl | rfl | rfl | rfl | rfl | rfl | rfl | rfl | rfl | rfl | rfl | rfl | rfl | rfl | rfl | rfl | rfl | rfl <;> exact ⟨_, rfl⟩)
set_option maxRecDepth 100000 in
theorem lifted (os : Os) (started : os.Started) (H : Type) (enc : TypeId × Value → H) :
    ReturnsInHanded {} Tryz.checked os 4 .any (fun w args => (Rows.planCheapSpec.pre enc Tryz.prog Tryz.f4 Rows.planCheapRow.domain false w args ∧ laidMetH Tryz.prog Rows.planCheapRow.laid w) ∧ sizedMet enc Tryz.prog Tryz.f4 (OpenSpec.ofChange Rows.planCheapSpec) false w args) (Rows.planCheapSpec.post enc Tryz.prog Tryz.f4 false true false false) := by
  refine returnsInHanded_of_change_and (C := Tryz.checked) (X := fun w _ => laidMetH Tryz.prog Rows.planCheapRow.laid w) (fun _ _ _ hh h => h.of_heap hh) own started (by kernel_rfl) Tryz.func4
    (ChangeSpec.witness_shaped (enc := enc) (C := Tryz.checked) (os := os) (X := fun w _ => laidMetH Tryz.prog Rows.planCheapRow.laid w) false (World.laidAll Tryz.prog os Rows.planCheapRow.laid) #[.agg #[.int .i64 0, .int .i64 0, .slice none 0 0, .slice none 0 0, .slice none 0 0], .int .i64 0] 8 (World.laidAll_os _ _ _)
      (World.shaped_of_ZipB (by kernel_rfl) (by kernel_rfl)) (by kernel_rfl) (by kernel_rfl) (by kernel_rfl)
      (by rw [MakeChecks.laidMetH_plain _ _ _ (by kernel_rfl)]; exact laidMet_laidAll _ (by kernel_rfl) (by kernel_rfl))) ?_
  intro W base args ds gs before hval0 hW hcnd hsz0 hL _
  have hval : ∀ (j : Nat) t v, Tryz.f4.params[j]? = some t → args[j]? = some v → Value.okWide Tryz.prog W .any base t v := hval0
  have hsz : (DataW.weightsEach Tryz.prog (Tryz.f4.params.toList ++ Rows.planCheapSpec.plain.varTypes Tryz.prog) (ds ++ gs)).all (· ≤ reachBytes) = true := hsz0
  have hW' := hW
  obtain ⟨p, q, hA0, hV, rfl, hfz, hnd⟩ := hW
  have hA : DataW.TrodAll enc Tryz.prog W 0 (fun _ => true) true Tryz.f4.params.toList args.toList ds p := hA0
  rw [Tryz.params4] at hA hval hsz
  obtain ⟨v0, vs0, d0, ds0, p0, q0, hargs, rfl, rfl, h0, r0⟩ := trodAll_cons hA
  obtain ⟨v1, vs1, d1, ds1, p1, q1, rfl, rfl, rfl, h1, r1⟩ := trodAll_cons r0
  obtain ⟨rfl, rfl, rfl⟩ := trodAll_nil r1
  obtain rfl : args = #[v0, v1] := by cases args; simp_all
  obtain ⟨rfl, rfl⟩ := trodVars_none hV
  obtain ⟨es, hes⟩ := errs hL
  have k0 := h0
  have lt0 : ∀ x ∈ p0, x.block < W.heap.size := by obtain ⟨m, hm⟩ := k0; exact DataW.trod_lt m _ _ _ hm
  have k1 := h1
  have lt1 : ∀ x ∈ p1, x.block < W.heap.size := by obtain ⟨m, hm⟩ := k1; exact DataW.trod_lt m _ _ _ hm
  obtain ⟨kv, rv, av, bv, cv, lav, cav, lbv, cbv, lcv, ccv, xv, yv, zv, rfl, wkv, wrv, exv, eyv, ezv⟩ := openDmg (j := 0) (hval 0 25 v0 rfl rfl) h0 hsz rfl rfl
  obtain ⟨x, rfl, rfl, rfl, wx⟩ := open_int Tryz.underlying3 (hval 1 3 v1 rfl rfl) h1
  clear hA0 hval0
  refine (cheaps_all kv rv x lav cav lbv cbv lcv ccv av bv cv xv W es hes wkv.1 wkv.2 wrv.1 wrv.2 (bounds_i64 wx).1 (bounds_i64 wx).2 exv.1 (Nat.le_trans exv.2.2.1 (Nat.le_trans exv.2.2.2.1 (by decide))) exv.2.2.1 exv.2.2.2.2.1 exv.2.1).mono fun e W' ⟨he, bel⟩ => ?_
  subst he
  exact ⟨_, rfl, _, _, _, [], _, [], hW', trodAll_mk1 (shut_bool Tryz.underlying4 _), (trodAll_cons_mk (Below.trod laidOut (by kernel_rfl) (of_decide_eq_true (by kernel_rfl)) k0 bel lt0) (trodAll_cons_mk (Below.trod laidOut (by kernel_rfl) (of_decide_eq_true (by kernel_rfl)) k1 bel lt1) trodAll_mk0)), rfl, bel.frame _, fun h => by cases h⟩

theorem over : Rows.planCheapRow.holds Tryz.pinned (OpenSpec.ofChange Rows.planCheapSpec) :=
  OpenClaim.holds_of_wide 4 Tryz.f4 rfl rfl rfl rfl rfl rfl rfl ⟨rfl, rfl, rfl, rfl, rfl⟩ rfl rfl rfl rfl rfl (by kernel_rfl) Tryz.func4 (by kernel_rfl)
    (of_decide_eq_true (by kernel_rfl)) (by unfold Func.isWrapper; first | (rw [if_pos (by decide +kernel)]; kernel_rfl) | (rw [if_neg (by decide +kernel)]; exact ⟨rfl, rfl⟩))
    (fun os started H enc _ => lifted os started H enc)

theorem proved : Rows.PlanCheapCardSaid :=
  Claim7.holds_tied_plain_at .later [] [.sentinel, .sentinel, .sentinel, .sentinel, .sentinel, .sentinel, .sentinel, .sentinel, .sentinel, .sentinel, .sentinel, .sentinel, .sentinel, .sentinel, .sentinel, .sentinel, .sentinel, .sentinel, .sentinel, .sentinel, .sentinel, .sentinel, .sentinel, .sentinel, .sentinel] true (true, "18c7ed18181e5df63e7b6b0cd3ac182aa629550aee7b3d6b316368867cad611b") true over (fun _ h => by cases h) (by kernel_rfl) (fun _ h => by cases h) planCheap_row_tie rfl ⟨rfl, rfl⟩ (by kernel_rfl) rfl
    (fun f fn hf hfn => by
      obtain rfl : f = 4 := Option.some.inj ((show Tryz.prog.funcNamed "tessera/tesseralaw11.PlanCheap" = some 4 by kernel_rfl).symm.trans hf) |>.symm
      obtain rfl : fn = Tryz.f4 := (Option.some.inj (Tryz.func4.symm.trans hfn)).symm
      exact ⟨by kernel_rfl, fun j t ht => by
        rw [Tryz.params4] at ht
        have hm : t ∈ [25, 3] := by simpa using Array.mem_of_getElem? ht
        have hall : ([25, 3].all fun u => !Tryz.prog.wantsStandIn u) = true := by kernel_rfl
        exact (show Tryz.prog.wantsStandIn t = false by simpa using List.all_eq_true.1 hall t hm)⟩)
    (by kernel_rfl)
#print axioms proved
end Go.Proofs.YtkoakingmnjdoaaGreatDoor.planCheap
