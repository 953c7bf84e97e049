/- The law DamageMore holds: what is gone stays gone where more is lost, nothing is gone with r shards touched, all is with more than 2r halves lost, at all numbers and lists; no condition but what the card ties. -/
import Derived.Test.YtjmbpldkggbdlaaGreatDoorGfDot
import Derived.ProofKit
import Derived.OpenShut
import Derived.SizedLaws
import Derived.Lib.SmallJoins
import Derived.Test.YtjmbpldkggbdlaaGreatDoorMatO
import Derived.Test.YtjmbpldkggbdlaaGreatDoorOwn
import Derived.Deep.Matrix
import Derived.Test.YtjmbpldkggbdlaaGreatDoorMatA
import Derived.LaidLaws
import Derived.MakeChecks
import Derived.LaidEql
import Derived.Test.YtjmbpldkggbdlaaGreatDoorDamL
import Derived.Test.YtjmbpldkggbdlaaGreatDoorHalfF
import Derived.Test.YtjmbpldkggbdlaaGreatDoorInts
import Derived.Test.YtjmbpldkggbdlaaGreatDoorDamLay
import Derived.Test.YtjmbpldkggbdlaaGreatDoorHalfN
import Derived.Maps.OwnSet
import Derived.Maps.OwnOps
import Derived.Maps.AppendAt
import Derived.Test.YtjmbpldkggbdlaaGreatDoorHalfM
import Derived.Test.YtjmbpldkggbdlaaGreatDoorSolveF
import Derived.Test.YtjmbpldkggbdlaaGreatDoorMatTake
import Derived.Test.YtjmbpldkggbdlaaGreatDoorRows
import Derived.Test.YtjmbpldkggbdlaaGreatDoorCards
import Derived.Test.YtjmbpldkggbdlaaGreatDoorTie
import Derived.WalkKit
import Derived.ShutString
import Derived.ChangeOld
import Derived.Below
import Derived.Lay
import Derived.SevenTiedAt
import Derived.Stop.Joined
/- How a list of bytes that came in is read: facts for the frames of the laws; nothing of the program is proved here. -/
namespace Go.Proofs.YtjmbpldkggbdlaaGreatDoor
open Go.ChangeShapes Go.WideShapes Go.ChangeAt Go.RowKit Gf
set_option maxRecDepth 20000
theorem own : ownKnob Tryz.prog.godebug = none := by kernel_rfl
theorem laidOut : laidOutB Tryz.prog = true := by kernel_rfl
theorem bytes8 : Tryz.prog.bytesOf 5 = 1 := by kernel_rfl
theorem getD_get {α : Type} (l : List α) (j : Nat) (d : α) (h : j < l.length) : l.getD j d = l[j] := by simp [List.getD, h]
theorem open8_cells {H : Type} {enc : TypeId × Value → H} {W : World} {cs : List Value} {x : DataW H × List MemPlace} {fuel : Nat}
    (h : DataW.trod enc Tryz.prog W 0 (fun _ => true) true fuel 61 cs = some x) :
    ∃ a len cap xs, cs = [.slice a len cap] ∧ len = xs.length ∧ len ≤ cap ∧ Row8 W a xs ∧ (x.1 = .nil ∧ a = none ∧ cap = 0 ∨ ∃ es sp, x.1 = .slice es sp ∧ es.length + sp.length = cap) ∧ (a = none → cap = 0) := by
  rcases open_ints Tryz.underlying61 Tryz.underlying5 (by kernel_rfl) h with ⟨hcs, hx⟩ | ⟨ad, l, c, zs, hcs, _, hl, hm, hz, hx, hcell, hwz⟩
  · exact ⟨none, 0, 0, [], hcs, rfl, Nat.le_refl _, .inl rfl, .inl ⟨by rw [hx], rfl, rfl⟩, fun _ => rfl⟩
  · have hz' : zs.length = c := by simpa using hz
    refine ⟨some ad, l, c, (zs.take l).map toF, hcs, by simp; omega, hl, ?_, .inr ⟨_, _, by rw [hx], by simp [lits]; omega⟩, fun e => by cases e⟩
    by_cases h0 : l = 0
    · left; simp [h0]
    · right
      have hc := hcell 0 (by omega)
      obtain ⟨b, off, spot⟩ := ad
      have hspot : spot = none := by simpa [Addr.add] using World.cell?_spot hc
      subst hspot
      refine ⟨b, off, rfl, fun j hj => ?_⟩
      have hj' : j < l := by simp at hj; omega
      have hcj := hcell j (by omega)
      have hw := hwz (zs.getD j 0) (by
        rw [getD_get _ _ _ (by omega)]; exact List.getElem_mem _)
      have hb := bounds_u8 hw
      have e : ((at8 ((zs.take l).map toF) j).toNat : Int) = zs.getD j 0 := by
        unfold at8
        rw [getD_get _ _ _ (by simp; omega)]
        simp only [List.getElem_map, List.getElem_take]
        rw [getD_get _ _ _ (by omega)] at hb ⊢
        exact val_toF hb.1 hb.2
      rw [e, ← hcj]
      by_cases hj0 : j = 0
      · subst hj0; rfl
      · simp [Addr.add, hj0]
theorem open8 {H : Type} {enc : TypeId × Value → H} {W : World} {v : Value} {d : DataW H} {p : List MemPlace} {base : Nat}
    (hv : Value.okWide Tryz.prog W .any base 61 v) (h : DataW.Trod enc Tryz.prog W 0 (fun _ => true) true 61 v d p) :
    ∃ a len cap xs, v = .slice a len cap ∧ len = xs.length ∧ len ≤ cap ∧ Row8 W a xs ∧ (d = .nil ∧ a = none ∧ cap = 0 ∨ ∃ es sp, d = .slice es sp ∧ es.length + sp.length = cap) ∧ (a = none → cap = 0) := by
  obtain ⟨fuel, hf⟩ := h
  obtain ⟨a, len, cap, xs, hcs, h1, h2, h3, h4, h5⟩ := open8_cells hf
  obtain ⟨a', len', cap', rfl⟩ := okWide_slice Tryz.underlying61 hv
  simp [Value.cells] at hcs
  obtain ⟨rfl, rfl, rfl⟩ := hcs
  exact ⟨_, _, _, xs, rfl, h1, h2, h3, h4, h5⟩
end Go.Proofs.YtjmbpldkggbdlaaGreatDoor

/- How a matrix, and two numbers, come in: facts for the frames of the laws; nothing of the program is proved here. -/
namespace Go.Proofs.YtjmbpldkggbdlaaGreatDoor
open Go.ChangeShapes Go.WideShapes Go.ChangeAt Go.RowKit Gf Go.Joins
set_option linter.unusedVariables false
set_option maxRecDepth 20000
theorem cellsMat : Tryz.prog.cellsOf 63 = 3 := by kernel_rfl
theorem cellsInt : Tryz.prog.cellsOf 3 = 1 := by kernel_rfl
/-- a list's datum, and its room -/
def Room2 {H : Type} (d : DataW H) (cap : Nat) : Prop := d = .nil ∧ cap = 0 ∨ ∃ es sp, d = .slice es sp ∧ es.length + sp.length = cap
theorem room2_le {H : Type} {d : DataW H} {cap : Nat} (h : Room2 d cap) (hw : ∀ n ∈ DataW.weights Tryz.prog 61 d, n ≤ reachBytes) : cap ≤ 140737488351232 := by
  rcases h with ⟨_, rfl⟩ | ⟨es, sp, rfl, rfl⟩
  · omega
  · have := hw ((es.length + sp.length) * Tryz.prog.bytesOf 5) (by simp [DataW.weights, Tryz.underlying61])
    rw [bytes8] at this
    simp only [reachBytes] at this
    omega
theorem openMat {H : Type} {enc : TypeId × Value → H} {W : World} {v : Value} {d : DataW H} {p : List MemPlace} {base : Nat} {ts : List TypeId} {ds : List (DataW H)} {j : Nat}
    (hv : Value.okWide Tryz.prog W .any base 63 v) (h : DataW.Trod enc Tryz.prog W 0 (fun _ => true) true 63 v d p)
    (hsz : (DataW.weightsEach Tryz.prog ts ds).all (· ≤ reachBytes) = true) (ht : ts[j]? = some 63) (hd : ds[j]? = some d) :
    ∃ (r c : Int) (a : Option Addr) (l cap : Nat) (xs : List F), v = .agg #[.int .i64 r, .int .i64 c, .slice a l cap] ∧ l = xs.length ∧ Row8 W a xs ∧ l ≤ cap ∧ cap ≤ 140737488351232 ∧ (a = none → cap = 0) ∧
      -9223372036854775808 ≤ r ∧ r ≤ 9223372036854775807 ∧ -9223372036854775808 ≤ c ∧ c ≤ 9223372036854775807 := by
  obtain ⟨v0, v1, v2, y0, y1, y2, n, rfl, rfl, _, e0, e1, e2⟩ := open_agg3 Tryz.underlying63 (by kernel_rfl) cellsMat hv h
  obtain ⟨r, s0, _, w0⟩ := DataW.trod_int Tryz.underlying3 e0
  obtain ⟨c, s1, _, w1⟩ := DataW.trod_int Tryz.underlying3 e1
  obtain ⟨a, la, ca, xs, s2, e, ka, ra, da, na⟩ := open8_cells e2
  simp only [List.cons.injEq, and_true] at s0 s1 s2
  subst s0 s1 s2
  have hw : ∀ n ∈ DataW.weights Tryz.prog 63 (.agg [y0.1, y1.1, y2.1]), n ≤ reachBytes := fun n hn => by
    simpa using List.all_eq_true.1 hsz _ (DataW.weights_mem_each ht hd n hn)
  simp only [DataW.weights, Tryz.underlying63] at hw
  have r2 : Room2 y2.1 ca := da.imp (fun h => ⟨h.1, h.2.2⟩) id
  refine ⟨r, c, a, la, ca, xs, rfl, e, ra, ka, room2_le r2 ?_, na, (bounds_i64 w0).1, (bounds_i64 w0).2, (bounds_i64 w1).1, (bounds_i64 w1).2⟩
  exact fun n hn => hw n (by simp [DataW.weightsEach, hn])
end Go.Proofs.YtjmbpldkggbdlaaGreatDoor

/- How a list of lists of bytes, and a list of numbers, come in: facts for the frames of the laws; nothing of the program is proved here. -/
namespace Go.Proofs.YtjmbpldkggbdlaaGreatDoor
open Go.ChangeShapes Go.WideShapes Go.ChangeAt Go.RowKit Gf Go.Joins
set_option linter.unusedVariables false
set_option maxRecDepth 20000
theorem addr_off {w : World} {ad : Addr} {v : Value} (h : w.cell? (ad.add 0) = some v) : ∃ b off, ad = ⟨b, off, none⟩ := by
  obtain ⟨b, off, spot⟩ := ad
  have hspot : spot = none := by simpa [Addr.add] using World.cell?_spot h
  subst hspot
  exact ⟨b, off, rfl⟩
theorem add_off (b off j : Nat) : (⟨b, off, none⟩ : Addr).add j = ⟨b, off + j, none⟩ := by unfold Addr.add; split <;> simp_all
theorem cellsSl : Tryz.prog.cellsOf 61 = 1 := by kernel_rfl
theorem cellsU8 : Tryz.prog.cellsOf 5 = 1 := by kernel_rfl
theorem openRows {H : Type} {enc : TypeId × Value → H} {W : World} {v : Value} {d : DataW H} {p : List MemPlace} {base : Nat}
    (hv : Value.okWide Tryz.prog W .any base 83 v) (h : DataW.Trod enc Tryz.prog W 0 (fun _ => true) true 83 v d p) :
    ∃ a l cap L, v = .slice a l cap ∧ l = List.length L ∧ Rows8 W a L ∧
      ∀ b off, a = some ⟨b, off, none⟩ → ∀ j n a' cap', W.cell? ⟨b, off + j, none⟩ = some (.slice a' n cap') → j < L.length → a' = none → cap' = 0 := by
  obtain ⟨fuel, hf⟩ := h
  obtain ⟨a0, l0, c0, rfl⟩ := okWide_slice Tryz.underlying83 hv
  rcases Deep.open_int_rows Tryz.underlying83 Tryz.underlying61 Tryz.underlying5 cellsSl cellsU8 hf with ⟨hcs, hx⟩ | ⟨ad, len, cap, A, L, C, Z, hcs, _, hl, hm, hx, hr⟩
  · simp [Value.cells] at hcs
    obtain ⟨rfl, rfl, rfl⟩ := hcs
    exact ⟨none, 0, 0, [], rfl, rfl, .inl rfl, fun b off e => by cases e⟩
  · simp [Value.cells] at hcs
    obtain ⟨rfl, rfl, rfl⟩ := hcs
    refine ⟨some ad, l0, c0, (List.range l0).map fun r => ((Z r).take (L r)).map toF, rfl, by simp, ?_, ?_⟩
    · by_cases h0 : l0 = 0
      · left; simp [h0]
      · right
        obtain ⟨b, off, rfl⟩ := addr_off (hr 0 (by omega)).1
        refine ⟨b, off, rfl, fun j xs hj => ?_⟩
        have hjl : j < l0 := by have := (List.getElem?_eq_some_iff.1 hj).1; simpa using this
        rw [List.getElem?_map, List.getElem?_range hjl] at hj
        obtain rfl := Option.some.inj hj
        obtain ⟨h1, h2, h3, h4, h5, h6, h7⟩ := hr j (by omega)
        rw [add_off] at h1
        have hlen : (((Z j).take (L j)).map toF).length = L j := by rw [List.length_map, List.length_take]; omega
        refine ⟨A j, C j, by rw [hlen]; exact h1, ?_⟩
        by_cases hL0 : L j = 0
        · left; simp [hL0]
        · right
          cases hA : A j with
          | none => have := h6 hA; omega
          | some ad' =>
            obtain ⟨_, h8⟩ := h7 ad' hA
            obtain ⟨b', off', rfl⟩ := addr_off (h8 0 (by omega))
            refine ⟨b', off', rfl, fun i hi => ?_⟩
            rw [hlen] at hi
            have hc := h8 i (by omega)
            rw [add_off] at hc
            rw [hc]
            have hb := bounds_u8 (h5 ((Z j).getD i 0) (by rw [getD_get _ _ _ (by omega)]; exact List.getElem_mem _))
            have e : ((at8 (((Z j).take (L j)).map toF) i).toNat : Int) = (Z j).getD i 0 := by
              unfold at8
              rw [getD_get _ _ _ (by rw [hlen]; exact hi)]
              simp only [List.getElem_map, List.getElem_take]
              rw [getD_get _ _ _ (by omega)] at hb ⊢
              exact val_toF hb.1 hb.2
            rw [e]
    · intro b off e j n a' cap' hc hj ha
      simp only [List.length_map, List.length_range] at hj
      obtain ⟨h1, h2, h3, h4, h5, h6, h7⟩ := hr j (by omega)
      obtain rfl := Option.some.inj e
      rw [add_off, hc] at h1
      simp only [Option.some.injEq, Value.slice.injEq] at h1
      obtain ⟨e1, _, e3⟩ := h1
      rw [e3]; exact h6 (by rw [← e1]; exact ha)
theorem bytesInt : Tryz.prog.bytesOf 3 = 8 := by kernel_rfl
theorem openInts {H : Type} {enc : TypeId × Value → H} {W : World} {v : Value} {d : DataW H} {p : List MemPlace} {base : Nat} {ts : List TypeId} {ds : List (DataW H)} {j : Nat}
    (hv : Value.okWide Tryz.prog W .any base 22 v) (h : DataW.Trod enc Tryz.prog W 0 (fun _ => true) true 22 v d p)
    (hsz : (DataW.weightsEach Tryz.prog ts ds).all (· ≤ reachBytes) = true) (ht : ts[j]? = some 22) (hd : ds[j]? = some d) :
    ∃ a l cap ns, v = .slice a l cap ∧ l = List.length ns ∧ RowI W a ns ∧ l ≤ cap ∧ cap ≤ 17592186043904 ∧ (a = none → cap = 0) ∧ ∀ n ∈ ns, -9223372036854775808 ≤ n ∧ n ≤ 9223372036854775807 := by
  obtain ⟨fuel, hf⟩ := h
  obtain ⟨a0, l0, c0, rfl⟩ := okWide_slice Tryz.underlying22 hv
  rcases open_ints Tryz.underlying22 Tryz.underlying3 cellsInt hf with ⟨hcs, hx⟩ | ⟨ad, l, c, zs, hcs, _, hl, hm, hz, hx, hcell, hwz⟩
  · simp [Value.cells] at hcs
    obtain ⟨rfl, rfl, rfl⟩ := hcs
    exact ⟨none, 0, 0, [], rfl, rfl, .inl rfl, Nat.le_refl _, by omega, fun _ => rfl, fun n hn => by cases hn⟩
  · simp [Value.cells] at hcs
    obtain ⟨rfl, rfl, rfl⟩ := hcs
    have hz' : zs.length = c0 := by simpa using hz
    have hcap : c0 ≤ 17592186043904 := by
      have hw : ∀ n ∈ DataW.weights Tryz.prog 22 d, n ≤ reachBytes := fun n hn => by simpa using List.all_eq_true.1 hsz _ (DataW.weights_mem_each ht hd n hn)
      simp only [Prod.mk.injEq] at hx
      rw [hx.1] at hw
      have := hw (((lits .i64 (zs.take l0) : List (DataW H)).length + (lits .i64 (zs.drop l0) : List (DataW H)).length) * Tryz.prog.bytesOf 3) (by simp [DataW.weights, Tryz.underlying22])
      rw [bytesInt] at this
      simp only [reachBytes, lits, List.length_map, List.length_take, List.length_drop] at this
      omega
    refine ⟨some ad, l0, c0, zs.take l0, rfl, by rw [List.length_take]; omega, ?_, hl, hcap, (fun e => by cases e), fun n hn => bounds_i64 (hwz n (List.mem_of_mem_take hn))⟩
    by_cases h0 : l0 = 0
    · left; simp [h0]
    · right
      obtain ⟨b, off, rfl⟩ := addr_off (hcell 0 (by omega))
      refine ⟨b, off, rfl, fun j m hj => ?_⟩
      have hjl : j < l0 := by have := (List.getElem?_eq_some_iff.1 hj).1; rw [List.length_take] at this; omega
      have hc := hcell j (by omega)
      rw [add_off] at hc
      rw [hc]
      rw [List.getElem?_take_of_lt hjl] at hj
      rw [List.getD_eq_getElem?_getD, hj]; rfl
end Go.Proofs.YtjmbpldkggbdlaaGreatDoor

/- How parameters, a number and two lists of numbers come in; facts for the frames of the laws; nothing of the program is proved here. -/
namespace Go.Proofs.YtjmbpldkggbdlaaGreatDoor
open Go.ChangeShapes Go.WideShapes Go.ChangeAt Go.RowKit Gf Go.Joins
set_option linter.unusedVariables false
set_option maxRecDepth 20000
theorem array5 {α : Type} {cs : Array α} (h : cs.size = 5) : ∃ c0 c1 c2 c3 c4, cs = #[c0, c1, c2, c3, c4] := by
  obtain ⟨l⟩ := cs
  match l, h with
  | [c0, c1, c2, c3, c4], _ => exact ⟨c0, c1, c2, c3, c4, rfl⟩
theorem open_agg5 {H : Type} {enc : TypeId × Value → H} {P : Program} {w : World} {base : Nat} {spare : Nat → Bool} {held : Bool} {r : Reach} {b0 : Nat} {t : TypeId} {f0 f1 f2 f3 f4 : Field} {v : Value} {d : DataW H} {p : List MemPlace} (hs : P.underlying t = some (.struct #[f0, f1, f2, f3, f4])) (hone : Go.Deep.oneCellFields P #[f0, f1, f2, f3, f4] = true) (hC : P.cellsOf t = 5)
    (hv : Value.okWide P w r b0 t v) (h : DataW.Trod enc P w base spare held t v d p) :
    ∃ (v0 v1 v2 v3 v4 : Value) (y0 y1 y2 y3 y4 : DataW H × List MemPlace) (n : Nat), v = .agg #[v0, v1, v2, v3, v4] ∧ d = .agg [y0.1, y1.1, y2.1, y3.1, y4.1] ∧
      DataW.trod enc P w base spare held n f0.type [v0] = some y0 ∧ DataW.trod enc P w base spare held n f1.type [v1] = some y1 ∧ DataW.trod enc P w base spare held n f2.type [v2] = some y2 ∧ DataW.trod enc P w base spare held n f3.type [v3] = some y3 ∧ DataW.trod enc P w base spare held n f4.type [v4] = some y4 := by
  obtain ⟨cs, rfl, hsz⟩ := okWide_struct hs hv
  obtain ⟨c0, c1, c2, c3, c4, rfl⟩ := array5 (hsz.trans hC)
  obtain ⟨fuel, hf⟩ := h
  obtain ⟨xs, n, _, hx, hl, hlen, hel⟩ := DataW.trod_struct hs hf
  match xs, hlen with
  | [y0, y1, y2, y3, y4], _ =>
    obtain ⟨o0, k0⟩ := Go.Deep.hone_of hone 0 f0 rfl
    obtain ⟨o1, k1⟩ := Go.Deep.hone_of hone 1 f1 rfl
    obtain ⟨o2, k2⟩ := Go.Deep.hone_of hone 2 f2 rfl
    obtain ⟨o3, k3⟩ := Go.Deep.hone_of hone 3 f3 rfl
    obtain ⟨o4, k4⟩ := Go.Deep.hone_of hone 4 f4 rfl
    have h0 := hel 0 f0 rfl
    have h1 := hel 1 f1 rfl
    have h2 := hel 2 f2 rfl
    have h3 := hel 3 f3 rfl
    have h4 := hel 4 f4 rfl
    simp only [Prod.mk.injEq] at hx
    exact ⟨c0, c1, c2, c3, c4, y0, y1, y2, y3, y4, n, rfl, by rw [hx.1]; rfl, by simpa [Value.cells, o0, k0] using h0, by simpa [Value.cells, o1, k1] using h1, by simpa [Value.cells, o2, k2] using h2, by simpa [Value.cells, o3, k3] using h3, by simpa [Value.cells, o4, k4] using h4⟩
/-- a list of numbers, as one cell -/
theorem openInts_cell {H : Type} {enc : TypeId × Value → H} {W : World} {v : Value} {y : DataW H × List MemPlace} {n : Nat}
    (h : DataW.trod enc Tryz.prog W 0 (fun _ => true) true n 22 [v] = some y) (hw : ∀ n ∈ DataW.weights Tryz.prog 22 y.1, n ≤ reachBytes) :
    ∃ a l cap ns, v = .slice a l cap ∧ l = List.length ns ∧ RowI W a ns ∧ l ≤ cap ∧ cap ≤ 17592186043904 ∧ (a = none → cap = 0) ∧ ∀ n ∈ ns, -9223372036854775808 ≤ n ∧ n ≤ 9223372036854775807 := by
  rcases open_ints Tryz.underlying22 Tryz.underlying3 cellsInt h with ⟨hcs, hx⟩ | ⟨ad, l, c, zs, hcs, _, hl, hm, hz, hx, hcell, hwz⟩
  · simp at hcs
    subst hcs
    exact ⟨none, 0, 0, [], rfl, rfl, .inl rfl, Nat.le_refl _, by omega, fun _ => rfl, fun n hn => by cases hn⟩
  · simp at hcs
    subst hcs
    have hz' : zs.length = c := by simpa using hz
    have hcap : c ≤ 17592186043904 := by
      rw [hx] at hw
      have := hw (((lits .i64 (zs.take l) : List (DataW H)).length + (lits .i64 (zs.drop l) : List (DataW H)).length) * Tryz.prog.bytesOf 3) (by simp [DataW.weights, Tryz.underlying22])
      rw [bytesInt] at this
      simp only [reachBytes, lits, List.length_map, List.length_take, List.length_drop] at this
      omega
    refine ⟨some ad, l, c, zs.take l, rfl, by rw [List.length_take]; omega, ?_, hl, hcap, (fun e => by cases e), fun n hn => bounds_i64 (hwz n (List.mem_of_mem_take hn))⟩
    by_cases h0 : l = 0
    · left; simp [h0]
    · right
      obtain ⟨b, off, rfl⟩ := addr_off (hcell 0 (by omega))
      refine ⟨b, off, rfl, fun j m hj => ?_⟩
      have hjl : j < l := by have := (List.getElem?_eq_some_iff.1 hj).1; rw [List.length_take] at this; omega
      have hc := hcell j (by omega)
      rw [add_off] at hc
      rw [hc]
      rw [List.getElem?_take_of_lt hjl] at hj
      rw [List.getD_eq_getElem?_getD, hj]; rfl
end Go.Proofs.YtjmbpldkggbdlaaGreatDoor

/- How parameters, a number and a list of numbers come in as one; facts for the frames of the laws; nothing of the program is proved here. -/
namespace Go.Proofs.YtjmbpldkggbdlaaGreatDoor
open Go.ChangeShapes Go.WideShapes Go.ChangeAt Go.RowKit Gf Go.Joins
set_option linter.unusedVariables false
set_option maxRecDepth 20000
theorem cellsLost : Tryz.prog.cellsOf 48 = 4 := by kernel_rfl
theorem openLost {H : Type} {enc : TypeId × Value → H} {W : World} {v : Value} {d : DataW H} {p : List MemPlace} {base : Nat} {ts : List TypeId} {ds : List (DataW H)} {j : Nat}
    (hv : Value.okWide Tryz.prog W .any base 48 v) (h : DataW.Trod enc Tryz.prog W 0 (fun _ => true) true 48 v d p)
    (hsz : (DataW.weightsEach Tryz.prog ts ds).all (· ≤ reachBytes) = true) (ht : ts[j]? = some 48) (hd : ds[j]? = some d) :
    ∃ (k r n : Int) (a : Option Addr) (l cap : Nat) (ns : List Int), v = .agg #[.int .i64 k, .int .i64 r, .int .i64 n, .slice a l cap] ∧
      (-9223372036854775808 ≤ k ∧ k ≤ 9223372036854775807) ∧ (-9223372036854775808 ≤ r ∧ r ≤ 9223372036854775807) ∧ (-9223372036854775808 ≤ n ∧ n ≤ 9223372036854775807) ∧
      l = List.length ns ∧ RowI W a ns ∧ l ≤ cap ∧ cap ≤ 17592186043904 ∧ (a = none → cap = 0) ∧ ∀ n ∈ ns, -9223372036854775808 ≤ n ∧ n ≤ 9223372036854775807 := by
  obtain ⟨v0, v1, v2, v3, y0, y1, y2, y3, n', rfl, rfl, _, e0, e1, e2, e3⟩ := open_agg4 Tryz.underlying48 (by kernel_rfl) cellsLost hv h
  obtain ⟨k, s0, _, w0⟩ := DataW.trod_int Tryz.underlying3 e0
  obtain ⟨r, s1, _, w1⟩ := DataW.trod_int Tryz.underlying3 e1
  obtain ⟨n, s2, _, w2⟩ := DataW.trod_int Tryz.underlying3 e2
  have hw : ∀ n ∈ DataW.weights Tryz.prog 48 (.agg [y0.1, y1.1, y2.1, y3.1]), n ≤ reachBytes := fun n hn => by
    simpa using List.all_eq_true.1 hsz _ (DataW.weights_mem_each ht hd n hn)
  simp only [DataW.weights, Tryz.underlying48] at hw
  obtain ⟨a, l, cap, ns, s3, q⟩ := openInts_cell e3 (fun n hn => hw n (by simp [DataW.weightsEach, hn]))
  simp only [List.cons.injEq, and_true] at s0 s1 s2
  subst s0 s1 s2 s3
  exact ⟨k, r, n, a, l, cap, ns, rfl, bounds_i64 w0, bounds_i64 w1, bounds_i64 w2, q⟩
end Go.Proofs.YtjmbpldkggbdlaaGreatDoor

/- What the named variables of package api hold, by the rows' condition: errors, each of a block of its own. -/
namespace Go.Proofs.YtjmbpldkggbdlaaGreatDoor
open Go.RowKit Go.ChangeShapes
set_option linter.unusedVariables false
set_option maxRecDepth 20000
theorem cellsES : Tryz.prog.cellsOf 203 = 1 := by kernel_rfl
theorem cellsStr : Tryz.prog.cellsOf 9 = 1 := by kernel_rfl
theorem starES : "*" ++ "errors.errorString" = "*errors.errorString" := by decide
theorem rowES (u : TypeId) (h : Tryz.prog.typeName? 3 u = some "*errors.errorString") : u = 188 :=
  typeName_ptr_named (nm := "errors.errorString") (by rw [starES]; kernel_rfl) (by kernel_rfl) (by decide) u (by rw [starES]; exact h)
/-- an error's datum -/
def errD (text : List UInt8) : DataW Unit := .iface "*errors.errorString" (.ptr (.agg [.lit (.string text)]))
def ErrsAt (W : World) (gs : List Nat) (es : List Addr) : Prop :=
  gs.length = es.length ∧ es.Nodup ∧ ∀ (k g : Nat) (a : Addr), gs[k]? = some g → es[k]? = some a → W.cell? ⟨g, 0, none⟩ = some (errAt a) ∧ ∃ c t, W.heap[a.block]? = some (.cells c t (0, 0))
theorem errs_go {W : World} : ∀ (laid : List (String × DataW Unit)) (gs : List Nat) (ps : List MemPlace), DataW.LaidVars Tryz.prog W laid ps → ps.Nodup →
    (∀ b off, MemPlace.cell b off ∈ ps → (∃ c t, W.heap[b]? = some (.cells c t (0, 0))) ∧ ∀ u v, W.cell? ⟨b, off, none⟩ = some (.iface u v) → Value.okWide Tryz.prog W .any 0 u v) →
    laid.map (fun x => Tryz.prog.globalNamed x.1) = gs.map some → (∀ g ∈ gs, (Tryz.prog.globals[g]?).map (·.type) = some 26) → (∀ x ∈ laid, ∃ text, x.2 = errD text) →
    ∃ es : List Addr, gs.length = es.length ∧ es.Nodup ∧ (∀ a ∈ es, MemPlace.cell a.block a.off ∈ ps) ∧ ∀ (k g : Nat) (a : Addr), gs[k]? = some g → es[k]? = some a → W.cell? ⟨g, 0, none⟩ = some (errAt a) ∧ ∃ c t, W.heap[a.block]? = some (.cells c t (0, 0))
  | [], [], _, _, _, _, _, _, _ => ⟨[], rfl, List.nodup_nil, fun a h => by simp at h, fun k g a h => by simp at h⟩
  | [], _ :: _, _, _, _, _, h, _, _ => by simp at h
  | _ :: _, [], _, _, _, _, h, _, _ => by simp at h
  | (n, d) :: r, g :: gs, ps, hv, hnd, hrows, hn, ht, hd => by
    obtain ⟨text, hdd⟩ := hd _ List.mem_cons_self
    simp only at hdd
    subst hdd
    obtain ⟨g0, t0, cs0, f0, p0, q0, hg0, ht0, hv0, hd0, hq, rfl⟩ := hv
    simp only [List.map_cons, List.cons.injEq] at hn
    obtain rfl := Option.some.inj (hg0.symm.trans hn.1)
    obtain rfl := Option.some.inj (ht0.symm.trans (ht _ List.mem_cons_self))
    obtain ⟨l0⟩ := cs0
    have ok0 : ∀ u v, l0 = [.iface u v] → Value.okWide Tryz.prog W .any 0 u v := fun u v e => by
      subst e
      exact (hrows g0 0 (by simp [MemPlace.row])).2 u v (by simpa using World.var?_cell hg0 hv0 0)
    obtain ⟨a0, s0, rfl, hc0, hs0, hz0, rfl⟩ := errorString_of_trod Tryz.underlying26 rowES Tryz.underlying188 Tryz.underlying203 rfl rfl Tryz.underlying9 cellsES cellsStr hd0 ok0
    have hndq : q0.Nodup := List.Nodup.sublist (List.sublist_append_right _ _) hnd
    obtain ⟨es, h1, h2, h3, h4⟩ := errs_go r gs q0 hq hndq (fun b off hm => hrows b off (List.mem_append_right _ hm)) hn.2 (fun g hg => ht g (List.mem_cons_of_mem _ hg)) (fun x hx => hd x (List.mem_cons_of_mem _ hx))
    have hm0 : MemPlace.cell a0.block a0.off ∈ MemPlace.row ⟨g0, 0, none⟩ (Array.mk [Value.iface 188 (.pointer (some a0))]).size ++ MemPlace.row a0 1 := by simp [MemPlace.row]
    refine ⟨a0 :: es, by simp [h1], List.nodup_cons.2 ⟨fun hin => ?_, h2⟩, fun a ha => ?_, fun k g a hk ha => ?_⟩
    · exact (List.nodup_append.1 hnd).2.2 _ hm0 _ (h3 _ hin) rfl
    · rcases List.mem_cons.1 ha with rfl | ha
      · exact List.mem_append_left _ hm0
      · exact List.mem_append_right _ (h3 _ ha)
    · cases k with
      | zero =>
        simp only [List.getElem?_cons_zero, Option.some.injEq] at hk ha
        subst hk ha
        exact ⟨by simpa [errAt] using World.var?_cell hg0 hv0 0, (hrows a0.block a0.off (List.mem_append_left _ hm0)).1⟩
      | succ k => exact h4 k g a (by simpa using hk) (by simpa using ha)
theorem errs_of_laid {W : World} {laid : List (String × DataW Unit)} {gs : List Nat} (h : laidMetH Tryz.prog laid W) (hp : (laid.all fun x => x.2.handleName?.isNone) = true)
    (hn : laid.map (fun x => Tryz.prog.globalNamed x.1) = gs.map some) (ht : ∀ g ∈ gs, (Tryz.prog.globals[g]?).map (·.type) = some 26) (hd : ∀ x ∈ laid, ∃ text, x.2 = errD text) : ∃ es, ErrsAt W gs es := by
  rw [MakeChecks.laidMetH_plain _ _ _ hp] at h
  obtain ⟨ps, hv, hnd, hrows⟩ := h
  obtain ⟨es, h1, h2, _, h4⟩ := errs_go laid gs ps hv hnd hrows hn ht hd
  exact ⟨es, h1, h2, h4⟩
theorem errs_at {W : World} {gs : List Nat} {es : List Addr} (h : ErrsAt W gs es) (k g : Nat) (hk : gs[k]? = some g) : ∃ a, es[k]? = some a ∧ W.cell? ⟨g, 0, none⟩ = some (errAt a) ∧ ∃ c t, W.heap[a.block]? = some (.cells c t (0, 0)) := by
  have hlt : k < es.length := by
    rw [← h.1]; exact (List.getElem?_eq_some_iff.1 hk).1
  exact ⟨es[k], List.getElem?_eq_getElem hlt, h.2.2 k g _ hk (List.getElem?_eq_getElem hlt)⟩
theorem errsAt_below {w w' : World} {gs : List Nat} {es : List Addr} (h : ErrsAt w gs es) (hb : Below w.heap.size w w') : ErrsAt w' gs es :=
  ⟨h.1, h.2.1, fun k g a hk ha => by
    obtain ⟨h1, c, t, h2⟩ := h.2.2 k g a hk ha
    exact ⟨(hb.cell (p := ⟨g, 0, none⟩) (by simpa using World.block_lt_of_cell? w _ h1)).trans h1, c, t, heap_later h2 hb⟩⟩
theorem infoPtr : ∃ i, Tryz.prog.info? 188 = some i ∧ i.comparable = true := by
  have h : (Tryz.prog.info? 188).map (·.comparable) = some true := by kernel_rfl
  cases hq : Tryz.prog.info? 188 with
  | none => simp [hq] at h
  | some i => simp only [hq, Option.map_some, Option.some.injEq] at h; exact ⟨i, rfl, h⟩
theorem infoES : ∃ j, Tryz.prog.info? 203 = some j ∧ j.size ≠ 0 := by
  have h : (Tryz.prog.info? 203).map (·.size) = some 1 := by kernel_rfl
  cases hq : Tryz.prog.info? 203 with
  | none => simp [hq] at h
  | some i => simp only [hq, Option.map_some, Option.some.injEq] at h; exact ⟨i, rfl, by omega⟩
/-- one error held against itself -/
theorem eq_same (w : World) (a : Addr) : (binOp .eql 26 (.iface 188 (.pointer (some a))) (.iface 188 (.pointer (some a)))).run Tryz.prog w = .ok (.bool true) w := by
  obtain ⟨i, h1, h2⟩ := infoPtr
  obtain ⟨j, h3, _⟩ := infoES
  exact run_eql_iface_ptr_same w a Tryz.underlying26 Tryz.underlying188 h1 h2 h3
theorem eq_other {w : World} {a b : Addr} {ca cb : Array Value} {ta tb : TypeId} (hne : a ≠ b) (ha : w.heap[a.block]? = some (.cells ca ta (0, 0))) (hb : w.heap[b.block]? = some (.cells cb tb (0, 0))) :
    (binOp .eql 26 (.iface 188 (.pointer (some a))) (.iface 188 (.pointer (some b)))).run Tryz.prog w = .ok (.bool false) w := by
  obtain ⟨i, h1, h2⟩ := infoPtr
  obtain ⟨j, h3, h4⟩ := infoES
  exact run_eql_iface_ptr_other w Tryz.underlying26 Tryz.underlying188 h1 h2 h3 h4 hne ha hb
end Go.Proofs.YtjmbpldkggbdlaaGreatDoor

/- What rises and Check of package damage answer, of all numbers; nothing that was there turns. -/
namespace Go.Proofs.YtjmbpldkggbdlaaGreatDoor
open Go.RowKit Gf
set_option linter.unusedVariables false
set_option maxRecDepth 20000
theorem rises_F (l cap : Nat) (a : Option Addr) (ns : List Int) (x : Int) (w : World) (hl : l = ns.length) (hl9 : l ≤ 4611686018427387904) (hX : RowI w a ns) :
    Calls Tryz.prog 30 #[.slice a l cap, .int .i64 x] w fun e w' => e = .returned (.bool (decide (ns = [] ∨ ns.getD (ns.length - 1) 0 < x))) ∧ w = w' := by
  by_cases h0 : ns = []
  · subst h0
    obtain rfl : l = 0 := hl
    go_enter Tryz.func30, Tryz.ntmps30
    go_wp2
    go_ret
    exact ⟨rfl, rfl⟩
  · have hp := List.length_pos_iff.2 h0
    obtain ⟨m, hm⟩ : ∃ m, ns.length = m + 1 := ⟨ns.length - 1, by omega⟩
    rw [hm] at hl
    subst hl
    obtain ⟨b, off, rfl, hb, hc⟩ := rowI_cell hX (show m < ns.length by omega)
    have c1 := hc m (by omega)
    have e2 : decide (ns = [] ∨ ns.getD (ns.length - 1) 0 < x) = decide (ns.getD m 0 < x) := by
      rw [hm]; simp [h0]
    rw [e2]
    generalize ns.getD m 0 = y at c1 ⊢
    clear hc hX hm h0 hp e2
    go_enter Tryz.func30, Tryz.ntmps30
    go_wp2
    go_ret
    exact ⟨rfl, rfl⟩
/-- the error of a number -/
def evH (E : Nat → Addr) (n : Nat) : Value := if n = 0 then .nilIface else errAt (E (n - 1))
/-- the error of a list of lost halves -/
noncomputable def chkE (k r : Int) (xs : List Int) : Nat := open Classical in if LegalP k r then (if GoodH (2 * (k + r)).toNat xs then 0 else 4) else 1
theorem chkE_ok {k r : Nat} {xs : List Int} (h1 : 1 ≤ k) (h2 : 2 ≤ r) (h3 : k + r ≤ 16) (h : GoodH (2 * (k + r)) xs) : chkE k r xs = 0 := by
  unfold chkE
  rw [if_pos (show LegalP (k : Int) r by unfold LegalP; omega), if_pos (show GoodH (2 * ((k : Int) + r)).toNat xs by rw [show (2 * ((k : Int) + r)).toNat = 2 * (k + r) by omega]; exact h)]
theorem chkE_no {k r : Nat} {xs : List Int} (h1 : 1 ≤ k) (h2 : 2 ≤ r) (h3 : k + r ≤ 16) (h : ¬ GoodH (2 * (k + r)) xs) : chkE k r xs = 4 := by
  unfold chkE
  rw [if_pos (show LegalP (k : Int) r by unfold LegalP; omega), if_neg (show ¬ GoodH (2 * ((k : Int) + r)).toNat xs by rw [show (2 * ((k : Int) + r)).toNat = 2 * (k + r) by omega]; exact h)]
theorem chkE_bad {k r : Int} {xs : List Int} (h : ¬ LegalP k r) : chkE k r xs = 1 := by
  unfold chkE; rw [if_neg h]
/-- what Check names -/
def ErrsH (w : World) (E : Nat → Addr) : Prop := w.cell? ⟨0, 0, none⟩ = some (errAt (E 0)) ∧ w.cell? ⟨1, 0, none⟩ = some (errAt (E 3))
theorem errsH_below {w w' : World} {E : Nat → Addr} (h : ErrsH w E) (hb : Below w.heap.size w w') : ErrsH w' E := ⟨cell_later hb h.1, cell_later hb h.2⟩
theorem rowI_take {w : World} {a : Option Addr} {ns : List Int} (h : RowI w a ns) (j : Nat) : RowI w a (ns.take j) := by
  rcases h with h | ⟨b, off, e, h⟩
  · exact .inl (by rw [h, List.take_nil])
  · refine .inr ⟨b, off, e, fun q n hq => h q n ?_⟩
    rw [List.getElem?_take] at hq
    split at hq
    · exact hq
    · cases hq
set_option maxHeartbeats 2000000 in
theorem dcheck_legal (k r l cap : Nat) (a : Option Addr) (xs : List Int) (w : World) (E : Nat → Addr) (hE : ErrsH w E) (h1 : 1 ≤ k) (h2 : 2 ≤ r) (h3 : k + r ≤ 16) (hl : l = xs.length) (hl9 : l ≤ 4611686018427387904) (hcap : l ≤ cap) (hX : RowI w a xs) :
    Calls Tryz.prog 11 #[.int .i64 k, .int .i64 r, .slice a l cap] w fun e w' => e = .returned (evH E (chkE k r xs)) ∧ Below w.heap.size w w' := by
  have HE : Hid _ := hE
  have HL : Hid (l = xs.length) := hl
  have HX : Hid (RowI w a xs) := hX
  have HOK : Hid (GoodH (2 * (k + r)) xs → chkE k r xs = 0) := fun h => chkE_ok h1 h2 h3 h
  have HNO : Hid (¬ GoodH (2 * (k + r)) xs → chkE k r xs = 4) := fun h => chkE_no h1 h2 h3 h
  clear hE hl hX
  go_enter Tryz.func11, Tryz.ntmps11
  go_wp2_with fail
  refine (bcheck_ok _ _ _ h1 h2 h3).mono ?_
  rintro e w' ⟨rfl, rfl⟩
  go_wp2
  go_loopw [21] (fun i wr => ∃ j : Nat, j ≤ l ∧ i = .int .i64 j ∧ Below w.heap.size w wr ∧ GoodH (2 * (k + r)) (xs.take j)) (fun i _ => l - (intOf i).toNat)
  case atStart => exact ⟨0, by omega, rfl, Below.refl _ _, by rw [List.take_zero]; exact goodH_nil _⟩
  case round =>
    obtain ⟨j, hj, rfl, hb, hg⟩ := hrel
    have HB : Hid _ := hb
    have HG : Hid (GoodH (2 * (k + r)) (xs.take j)) := hg
    clear hb hg
    by_cases hlt : j < l
    · have hjx : j < xs.length := by rw [← HL.out]; exact hlt
      have HS := goodH_step hjx HG.out
      obtain ⟨b, off, hab, hbl, hc⟩ := rowI_cell (rowI_below HX.out HB.out) hjx
      have c1 := hc j hjx
      rw [show xs.getD j 0 = xs[j] by simp [List.getD, hjx]] at c1
      have HR : Hid (∀ w', Below w.heap.size w w' → Calls Tryz.prog 30 #[.slice a j cap, .int .i64 xs[j]] w' fun e w2 => e = .returned (.bool (decide (xs.take j = [] ∨ (xs.take j).getD ((xs.take j).length - 1) 0 < xs[j]))) ∧ w' = w2) := fun w' hb =>
        rises_F j cap a (xs.take j) xs[j] w' (by rw [List.length_take]; omega) (by omega) (rowI_take (rowI_below HX.out hb) j)
      have HNG : Hid (¬ GoodH (2 * (k + r)) (xs.take (j + 1)) → ¬ GoodH (2 * (k + r)) xs) := fun h h2 => h (goodH_take h2 _)
      have HQ : Hid (decide (xs.take j = [] ∨ (xs.take j).getD ((xs.take j).length - 1) 0 < xs[j]) = false → ¬ GoodH (2 * (k + r)) (xs.take (j + 1))) := fun h h2 => of_decide_eq_false h (HS.1 h2).2
      have HQ2 : Hid (decide (xs.take j = [] ∨ (xs.take j).getD ((xs.take j).length - 1) 0 < xs[j]) = true → (0 ≤ xs[j] ∧ xs[j] < ((2 * (k + r) : Nat) : Int)) → GoodH (2 * (k + r)) (xs.take (j + 1))) := fun h h2 => HS.2 ⟨h2, of_decide_eq_true h⟩
      have HQ3 : Hid (¬ (0 ≤ xs[j] ∧ xs[j] < ((2 * (k + r) : Nat) : Int)) → ¬ GoodH (2 * (k + r)) (xs.take (j + 1))) := fun h h2 => h (HS.1 h2).1
      generalize decide (xs.take j = [] ∨ (xs.take j).getD ((xs.take j).length - 1) 0 < xs[j]) = q at *
      generalize hx : xs[j] = x at *
      clear hx hc HS hjx
      subst hab
      by_cases hin : 0 ≤ x ∧ x < ((2 * (k + r) : Nat) : Int)
      · obtain ⟨s, p, hp, hs, en⟩ : ∃ s p : Nat, p < 2 ∧ s < k + r ∧ x = ((2 * s + p : Nat) : Int) := ⟨x.toNat / 2, x.toNat % 2, by omega, by omega, by omega⟩
        have HIN : Hid _ := HQ2.out
        have HT : Hid (q = true → GoodH (2 * (k + r)) (xs.take (j + 1))) := fun h => HQ2.out h hin
        clear HIN HQ2 HQ3 hin
        subst en
        go_wp2_with fail
        refine Calls.mono (split_ok k r _ s p _ h1 h2 h3 rfl hp hs) ?_
        rintro e w2 ⟨rfl, hb2⟩
        have HB2 : Hid _ := HB.out.trans (hb2.mono HB.out.size)
        clear hb2
        go_wp2_with fail
        refine Calls.mono (HR.out _ HB2.out) ?_
        rintro e w3 ⟨rfl, rfl⟩
        cases hq : q
        · have HBAD : Hid _ := HNO.out (HNG.out (HQ.out hq))
          have c3 := (errsH_below HE.out HB2.out).2
          clear hq HQ HT
          unfold errAt at c3
          go_wp2
          go_ret
          exact ⟨by rw [HBAD.out]; rfl, HB2.out⟩
        · have HGO : Hid _ := HT.out hq
          clear hq HQ HT
          go_wp2
          exact ⟨⟨j + 1, by omega, by go_num, HB2.out, HGO.out⟩, by simp [intOf]; omega⟩
      · have HBAD : Hid _ := HNO.out (HNG.out (HQ3.out hin))
        have HSP : Hid _ := split_no k r x
        have HIN : Hid _ := hin
        clear hin HQ HQ2 HQ3 HNG
        go_wp2_with fail
        refine Calls.mono (HSP.out _ (E 3) (errsH_below HE.out HB.out).2 h1 h2 h3 (fun h => HIN.out (by omega))) ?_
        unfold errAt
        rintro e w2 ⟨rfl, hb2⟩
        have HB2 : Hid _ := HB.out.trans (hb2.mono HB.out.size)
        clear hb2
        go_wp2
        go_ret
        exact ⟨by rw [HBAD.out]; rfl, HB2.out⟩
    · obtain rfl : j = l := by omega
      have HF : Hid (GoodH (2 * (k + r)) xs) := by have := HG.out; rwa [HL.out, List.take_length] at this
      go_wp2
      go_ret
      exact ⟨by rw [HOK.out HF.out]; rfl, HB.out⟩
theorem dcheck_F (k r : Int) (l cap : Nat) (a : Option Addr) (xs : List Int) (w : World) (E : Nat → Addr) (hE : ErrsH w E) (hk0 : -9223372036854775808 ≤ k) (hk1 : k ≤ 9223372036854775807) (hr0 : -9223372036854775808 ≤ r) (hr1 : r ≤ 9223372036854775807)
    (hl : l = xs.length) (hl9 : l ≤ 4611686018427387904) (hcap : l ≤ cap) (hX : RowI w a xs) :
    Calls Tryz.prog 11 #[.int .i64 k, .int .i64 r, .slice a l cap] w fun e w' => e = .returned (evH E (chkE k r xs)) ∧ Below w.heap.size w w' := by
  by_cases hL : LegalP k r
  · obtain ⟨a1, b1, rfl, rfl, h1, h2, h3⟩ := legal_nat hL
    exact dcheck_legal a1 b1 l cap a xs w E hE h1 h2 h3 hl hl9 hcap hX
  · rw [chkE_bad hL]
    have HS : Hid _ := hE.1
    clear hE hl hX hcap hl9
    go_enter Tryz.func11, Tryz.ntmps11
    go_wp2_with fail
    refine Calls.mono (bcheck_bad k r _ (E 0) HS.out hk0 hk1 hr0 hr1 hL) ?_
    rintro e w' ⟨rfl, rfl⟩
    unfold errAt
    go_wp2
    go_ret
    exact ⟨rfl, Below.refl _ _⟩
end Go.Proofs.YtjmbpldkggbdlaaGreatDoor

/- The library's calls of stage 8: the keys of a map of numbers, sorted; texts joined; where a byte first stands in a text. -/
namespace Go.Proofs.YtjmbpldkggbdlaaGreatDoor
open Go.RowKit Go.Maps Go.Sort Go.Shelf Gf
set_option linter.unusedVariables false
set_option maxRecDepth 20000
/-- the two contracts of slices.Sort at this program -/
theorem sortsA (m : Nat) : AnyZI.SortsIn Tryz.prog Tryz.sortedA_ren Fence.wide m :=
  ⟨fun blk off cap ss W hH hblk hsz => callsIn_wide.2 (AnyM.slices_Sort_int Tryz.sortA blk off cap ss W hH hblk hsz),
   fun p cap W => callsIn_wide.2 (AnyM.slices_Sort_int_none Tryz.sortA p cap W)⟩
theorem keys_F (mb : Value) (b : Option Nat) (hm : mb = .map b) (w : World) : Calls Tryz.prog 32 #[mb] w fun e w' =>
    e = .returned (.func (.func 46) #[] #[.pointer (some ⟨w.heap.size, 0, none⟩)]) ∧ w' = w.alloc (.cells #[mb] 57) := by
  subst hm
  exact (callsIn_wide (n := 5)).1 (AnyZI.keys_in Tryz.keysA Fence.wide 5 trivial rfl b w)
/-- the keys of a map that lies in a block of one cell: a new slice of them, rising -/
theorem sorted_F {H : Type} (b nn g : Nat) (D0 : DataW H) (R : Value → Option (DataW H × List MemPlace)) (w : World) (hown : w.ownsMap Tryz.prog 3 R b nn D0) (hg : w.heap[g]? = some (.cells #[.map (some b)] 57 (0, 0)))
    (hmax : Maps.size D0 ≤ maxLen) (hbytes : Maps.size D0 * 8 ≤ 140737488355328) :
    Calls Tryz.prog 31 #[.func (.func 46) #[] #[.pointer (some ⟨g, 0, none⟩)]] w fun e w' => ∃ (v : Value) (ss : List Int), e = .returned v ∧ ss.Perm (intKeys D0) ∧
      w'.ownsRow w.heap.size 3 1 v ss.length ((ss.mergeSort (fun x y => decide (x ≤ y))).map (Value.int .i64)) ∧ (v = .slice none 0 0 ↔ ss = []) ∧ Below w.heap.size w w' := by
  have hgl : g < w.heap.size := ltHeap hg
  have c1 := cellAt hg 0 _ rfl
  have hseq : SeqGives Fence.wide 2 Tryz.prog 46 #[.pointer (some ⟨g, 0, none⟩)] encZ (fun ss => ss.Perm (intKeys D0)) (Maps.size D0) w :=
    AnyZI.keys_gives (ρ := Tryz.keysA_ren) { Tryz.keysA with } Fence.wide _ trivial rfl (by omega) g b nn D0 _ hgl c1 hown
  refine (callsIn_wide (n := 5)).1 ?_
  exact AnyZI.sorted_in Tryz.sortedA Fence.wide 5 trivial trivial trivial trivial rfl (by omega) (sortsA _) (enters_of Tryz.func45 (by kernel_rfl) rfl) 46 #[.pointer (some ⟨g, 0, none⟩)] trivial (enters_of Tryz.func46 (by kernel_rfl) rfl) _ _ hmax hbytes _ hseq
theorem join_F (bk o c : Nat) (xs : List ByteArray) (sep : ByteArray) (w : World)
    (hcells : ∀ (j : Nat) x, xs[j]? = some x → w.cell? ⟨bk, o + j, none⟩ = some (.string x)) (hbk : bk < w.heap.size) (hN : xs.length ≤ 140737488355328) (hcap : xs.length ≤ c) (hlen : (Lib.join (xs.map (·.data.toList)) sep.data.toList).length ≤ 140737488355328) :
    Calls Tryz.prog 38 #[.slice (some ⟨bk, o, none⟩) xs.length c, .string sep] w fun e w' => e = .returned (.string (strB (Lib.join (xs.map (·.data.toList)) sep.data.toList))) ∧ Below w.heap.size w w' :=
  Any.strings_Join Tryz.joinA Tryz.joinX bk o c xs sep w hcells hbk hN hcap hlen
theorem index_S (l : List UInt8) (c : UInt8) (w : World) : Calls Tryz.prog 85 #[.string (strB l), .string (strB [c])] w fun e w' => e = .returned (.int .i64 (Lib.indexByte l c)) ∧ w' = w :=
  Any.strings_Index_one Tryz.indexA (strB l) c w
end Go.Proofs.YtjmbpldkggbdlaaGreatDoor

/- What leftOf of package damage answers: a map of its own whose keys are what is left; nothing that was there turns. -/
namespace Go.Proofs.YtjmbpldkggbdlaaGreatDoor
open Go.RowKit Go.Maps Gf
set_option linter.unusedVariables false
set_option maxRecDepth 20000
theorem lawI : Keyed Tryz.prog 3 := int_keyed Tryz.underlying3
/-- the numbers that are keys of a map -/
def SetF (D : DataW Unit) (p : Int → Prop) : Prop := ∀ x : Int, has D (.int .i64 x) = true ↔ p x
theorem setF_put {D : DataW Unit} {p q : Int → Prop} {y : Int} {d : DataW Unit} (h : SetF D p) (hD : IsMap D) (hk : keyOf Tryz.prog 3 (.int .i64 y) = some (.int .i64 y)) (hq : ∀ x, q x ↔ p x ∨ x = y) : SetF (D.put (.int .i64 y) d) q := fun x => by
  rw [hq]
  by_cases e : x = y
  · subst e
    exact ⟨fun _ => .inr rfl, fun _ => has_put_same hD (lawI.key hk) d⟩
  · rw [has_put_other (fun h => e (by injection h)) d, h x]
    exact ⟨.inl, fun hh => hh.resolve_right e⟩
theorem setF_del {D : DataW Unit} {p q : Int → Prop} {y : Int} (h : SetF D p) (hq : ∀ x, q x ↔ p x ∧ x ≠ y) : SetF (D.del (.int .i64 y)) q := fun x => by
  rw [hq]
  by_cases e : x = y
  · subst e
    rw [has_del_same]
    exact ⟨fun h => (by cases h), fun h => absurd rfl h.2⟩
  · rw [has_del_other (fun h => e (by injection h)), h x]
    exact ⟨fun h => ⟨h, e⟩, fun h => h.1⟩
theorem setF_empty : SetF (.map []) (fun x => 0 ≤ x ∧ x < ((0 : Nat) : Int)) := fun x => ⟨fun h => by simp [has_eq] at h, fun h => by omega⟩
theorem key_i64 {x : Int} (h : -9223372036854775808 ≤ x ∧ x ≤ 9223372036854775807) : keyOf Tryz.prog 3 (.int .i64 x) = some (.int .i64 x) := keyOf_int_mk Tryz.underlying3 (WalkArith.wf_i64 (by omega))
theorem setF_perm {w : World} {b n : Nat} {D : DataW Unit} {L ss : List Int} (hown : w.ownsMap Tryz.prog 3 (unitElem (H := Unit)) b n D) (h : SetF D (· ∈ L)) (hn : L.Nodup) (hs : ss.Perm (intKeys D)) : ss.Perm L := by
  obtain ⟨es, hD, hpw, _⟩ := hown.entries lawI
  obtain ⟨es', hD', hko⟩ := hown.keysOf
  obtain rfl : es = es' := by rw [hD] at hD'; simpa using hD'
  subst hD
  exact hs.trans (perm_intKeys hpw (fun p hp => by obtain ⟨v, hv⟩ := hko p hp; obtain ⟨x, _, hx, _⟩ := Maps.keyOf_i64 Tryz.underlying3 hv; exact ⟨x, hx⟩) hn (fun x => (h x).symm)).symm
set_option maxHeartbeats 2000000 in
theorem leftOf_F (k r l cap : Nat) (a : Option Addr) (ns : List Nat) (w : World) (h3 : k + r ≤ 16) (hl : l = ns.length) (hcap : l ≤ cap) (hX : RowI w a (natJ8 ns)) (hr : ∀ x ∈ ns, x < 2 * (k + r)) (hl9 : l ≤ 32) :
    Calls Tryz.prog 33 #[.int .i64 k, .int .i64 r, .slice a l cap] w fun e w' => ∃ D : DataW Unit, e = .returned (.map (some w.heap.size)) ∧ w'.ownsMap Tryz.prog 3 (unitElem (H := Unit)) w.heap.size 32 D ∧
      SetF D (fun x => x ∈ natJ8 (leftL (2 * (k + r)) ns)) ∧ Below w.heap.size w w' := by
  have HL : Hid (l = ns.length) := hl
  have HX : Hid (RowI w a (natJ8 ns)) := hX
  have HR : Hid (∀ x ∈ ns, x < 2 * (k + r)) := hr
  clear hl hX hr
  have hmm := @run_makeMap Tryz.prog
  go_enter Tryz.func33, Tryz.ntmps33
  go_wp2
  go_loopw [16] (fun i wr => ∃ j : Nat, j ≤ 2 * (k + r) ∧ i = .int .i64 j ∧ Below w.heap.size w wr ∧ ∃ D : DataW Unit, wr.ownsMap Tryz.prog 3 (unitElem (H := Unit)) w.heap.size j D ∧ SetF D (fun x => 0 ≤ x ∧ x < (j : Int))) (fun i _ => 2 * (k + r) - (intOf i).toNat)
  case atStart => exact ⟨0, by omega, rfl, (Below.refl _ _).alloc (Nat.le_refl _) _, _, World.ownsMap_made _ _ _ _, setF_empty⟩
  case round =>
    obtain ⟨j, hj, rfl, hb, D, hown, hset⟩ := hrel
    have HB : Hid _ := hb
    have HSET : Hid _ := hset
    clear hb hset
    by_cases hlt : j < 2 * (k + r)
    · have hkey := key_i64 (x := (j : Int)) (by omega)
      go_wp2_with (at_mapUpdate; refine wpList_mapUpdate_own _ rfl _ _ _ 57 rfl 3 58 lawI Tryz.underlying57 (unitElem (H := Unit)) w.heap.size j D rfl hown (by unfold maxLen; omega) _ _ _ rfl rfl hkey _ [] unitElem_mk ?_; intro w1 hown1 hgrow1)
      exact ⟨⟨j + 1, by omega, by go_num, HB.out.grown hgrow1 HB.out.size (fun j hj => by cases hj; exact Nat.le_refl _), _, hown1, setF_put HSET.out hown.isMap hkey (fun x => by omega)⟩, by simp [intOf]; omega⟩
    · obtain rfl : j = 2 * (k + r) := by omega
      have HS0 : Hid (SetF D (fun x => x ∈ natJ8 (leftL (2 * (k + r)) (ns.take 0)))) := fun x => by
        rw [HSET.out x, natJ8]
        simp only [List.mem_map, mem_leftL, List.take_zero]
        constructor
        · intro h; exact ⟨x.toNat, ⟨by omega, by simp⟩, by omega⟩
        · rintro ⟨y, ⟨h, _⟩, rfl⟩; omega
      clear HSET
      have hown0 := hown.mono (show 2 * (k + r) ≤ 32 by omega)
      clear hown
      go_wp2
      go_loopw [25] (fun i wq => ∃ j : Nat, j ≤ l ∧ i = .int .i64 j ∧ Below w.heap.size w wq ∧ ∃ D : DataW Unit, wq.ownsMap Tryz.prog 3 (unitElem (H := Unit)) w.heap.size 32 D ∧ SetF D (fun x => x ∈ natJ8 (leftL (2 * (k + r)) (ns.take j)))) (fun i _ => l - (intOf i).toNat)
      case atStart => exact ⟨0, by omega, rfl, HB.out, _, hown0, HS0.out⟩
      case round =>
        obtain ⟨i, hi, rfl, hb, D2, hown, hset⟩ := hrel
        have HB2 : Hid _ := hb
        have HSET : Hid _ := hset
        clear hb hset hown0
        by_cases hlt : i < l
        · have hin : i < ns.length := by rw [← HL.out]; exact hlt
          obtain ⟨b, off, hab, hbl, hc⟩ := rowI_cell (rowI_below HX.out HB2.out) (show i < (natJ8 ns).length by rw [natJ8_len]; exact hin)
          have c1 := hc i (by rw [natJ8_len]; exact hin)
          rw [show (natJ8 ns).getD i 0 = ((ns[i] : Nat) : Int) by simp [natJ8, List.getD, hin]] at c1
          have hx9 := HR.out _ (List.getElem_mem hin)
          have HT : Hid (ns.take (i + 1) = ns.take i ++ [ns[i]]) := List.take_succ_eq_append_getElem hin
          generalize ns[i] = x at *
          clear hc
          subst hab
          have hkey := key_i64 (x := (x : Int)) (by omega)
          go_wp2_with (at_delete; refine wpList_delete_own _ rfl _ _ 57 3 rfl 58 lawI Tryz.underlying57 _ w.heap.size 32 D2 rfl hown _ _ rfl hkey ?_; intro w1 hown1 hturn1)
          refine ⟨⟨i + 1, by omega, by go_num, HB2.out.grown hturn1.grown HB2.out.size (fun j hj => by cases hj; exact Nat.le_refl _), _, hown1, setF_del HSET.out (fun y => ?_)⟩, by simp [intOf]; omega⟩
          rw [HT.out]
          simp only [natJ8, List.mem_map, mem_leftL, List.mem_append, List.mem_singleton, not_or]
          constructor
          · rintro ⟨z, ⟨h1, h2, h3⟩, rfl⟩; exact ⟨⟨z, ⟨h1, h2⟩, rfl⟩, by omega⟩
          · rintro ⟨⟨z, ⟨h1, h2⟩, rfl⟩, h3⟩; exact ⟨z, ⟨h1, h2, by omega⟩, rfl⟩
        · obtain rfl : i = l := by omega
          have hf := HSET.out
          rw [show ns.take i = ns by rw [HL.out, List.take_length]] at hf
          have HF : Hid _ := hf
          clear hf HSET
          go_wp2
          go_ret
          exact ⟨rfl, D2, hown, HF.out, HB2.out⟩
end Go.Proofs.YtjmbpldkggbdlaaGreatDoor

/- What Left, Whole, Kind and Gone of package damage answer, of all arguments; nothing that was there turns. -/
namespace Go.Proofs.YtjmbpldkggbdlaaGreatDoor
open Go.RowKit Go.Maps Gf
set_option linter.unusedVariables false
set_option maxRecDepth 20000
theorem natJ8_sort {L : List Nat} {ss : List Int} (h : L.Pairwise (· < ·)) (hp : ss.Perm (natJ8 L)) : ss.mergeSort (fun x y => decide (x ≤ y)) = natJ8 L := by
  have e := mergeSort_of_perm_i hp
  have hs : (natJ8 L).Pairwise (fun x y => leI x y = true) := by
    rw [natJ8, List.pairwise_map]
    exact h.imp fun h => decide_eq_true (by omega)
  rw [List.mergeSort_of_pairwise hs] at e
  exact e
theorem natJ8_nodup {L : List Nat} (h : L.Pairwise (· < ·)) : (natJ8 L).Nodup := by
  show (natJ8 L).Pairwise (· ≠ ·)
  rw [natJ8, List.pairwise_map]
  exact h.imp fun h => by omega
/-- a list that a call answers: the call's own, or none -/
def ListOf (w' : World) (B : Nat) (v : Value) (L : List Nat) : Prop := ∃ a cap, v = .slice a L.length cap ∧ L.length ≤ cap ∧ cap ≤ maxLen ∧ (a = none → cap = 0) ∧ RowI w' a (natJ8 L) ∧ (∀ p, a = some p → B ≤ p.block)
theorem listOf_own {w' : World} {B0 B n : Nat} {v : Value} {L : List Nat} (h0 : B0 ≤ B) (hn : n = L.length) (ho : w'.ownsRow B 3 1 v n ((natJ8 L).map (Value.int .i64))) : ListOf w' B0 v L := by
  subst hn
  rcases ho.2 with ⟨rfl, hz⟩ | ⟨g, cap, cur, rfl, hg, hb, h1, h2, h3, h4⟩
  · have e : L = [] := List.eq_nil_of_length_eq_zero hz
    subst e
    exact ⟨none, 0, rfl, Nat.le_refl _, Nat.zero_le _, fun _ => rfl, .inl rfl, fun p h => (by cases h)⟩
  · exact ⟨_, cap, rfl, h1, h2, fun h => (by cases h), rowI_own ho, fun p h => (by cases h; exact Nat.le_trans h0 hg)⟩
theorem listOf_below {w w' : World} {B : Nat} {v : Value} {L : List Nat} (h : ListOf w B v L) (hb : Below w.heap.size w w') : ListOf w' B v L := by
  obtain ⟨a, cap, e, h1, h2, h3, h4, h5⟩ := h
  exact ⟨a, cap, e, h1, h2, h3, rowI_below h4 hb, h5⟩
set_option maxHeartbeats 2000000 in
theorem left_legal (k r l cap : Nat) (a : Option Addr) (ns : List Nat) (w : World) (E : Nat → Addr) (hE : ErrsH w E) (h1 : 1 ≤ k) (h2 : 2 ≤ r) (h3 : k + r ≤ 16) (hl : l = ns.length) (hcap : l ≤ cap) (hX : RowI w a (natJ8 ns)) (hu : ns.Pairwise (· < ·)) (hr : ∀ x ∈ ns, x < 2 * (k + r)) :
    Calls Tryz.prog 12 #[.int .i64 k, .int .i64 r, .slice a l cap] w fun e w' => ∃ v, e = .returned (.tuple #[v, .nilIface]) ∧ ListOf w' w.heap.size v (leftL (2 * (k + r)) ns) ∧ Below w.heap.size w w' := by
  have hlen : l ≤ 32 := by have := pair_len hu hr; omega
  have HC : Hid _ := dcheck_legal k r l cap a (natJ8 ns) w E hE h1 h2 h3 (by rw [natJ8_len]; exact hl) (by omega) hcap hX
  have HZ : Hid _ := chkE_ok h1 h2 h3 (goodH_of hu hr)
  have HL : Hid (l = ns.length) := hl
  have HX : Hid (RowI w a (natJ8 ns)) := hX
  have HR : Hid (∀ x ∈ ns, x < 2 * (k + r)) := hr
  clear hl hX hr hu hE
  go_enter Tryz.func12, Tryz.ntmps12
  go_wp2_with fail
  refine Calls.mono HC.out ?_
  rw [HZ.out]
  rintro e w1 ⟨rfl, hb1⟩
  have HB1 : Hid _ := hb1
  clear hb1
  rw [show evH E 0 = Value.nilIface from rfl]
  go_wp2_with fail
  refine Calls.mono (leftOf_F k r l cap a ns w1 h3 HL.out hcap (rowI_below HX.out HB1.out) HR.out hlen) ?_
  rintro e w2 ⟨D, rfl, hown, hset, hb2⟩
  have HB2 : Hid _ := HB1.out.trans (hb2.mono HB1.out.size)
  have HSZ : Hid _ := hown.size_le
  have HSP : Hid (∀ ss : List Int, ss.Perm (intKeys D) → ss.Perm (natJ8 (leftL (2 * (k + r)) ns))) := fun ss h => setF_perm hown hset (natJ8_nodup (leftL_up _ _)) h
  have HOWN : Hid (w2.ownsMap Tryz.prog 3 (unitElem (H := Unit)) w1.heap.size 32 D) := hown
  have HB3 : Hid _ := HB2.out.alloc HB2.out.size (.cells #[.map (some w1.heap.size)] 57)
  clear hb2 hown hset
  go_wp2_with fail
  refine Calls.mono (keys_F _ _ rfl _) ?_
  rintro e w3 ⟨rfl, hw3⟩
  subst hw3
  go_wp2_with fail
  refine Calls.mono (sorted_F w1.heap.size 32 w2.heap.size D (unitElem (H := Unit)) _ (HOWN.out.alloc _) (holds_at (holds_new (holds_nil w2) #[.map (some w1.heap.size)] 57) 0 rfl) (by have := HSZ.out; unfold maxLen; omega) (by have := HSZ.out; omega)) ?_
  rintro e w4 ⟨v, ss, rfl, hperm, hrow, hnil, hb4⟩
  have e9 := natJ8_sort (leftL_up _ _) (HSP.out ss hperm)
  have hlen9 : ss.length = (leftL (2 * (k + r)) ns).length := by rw [(HSP.out ss hperm).length_eq, natJ8_len]
  rw [e9, hlen9] at hrow
  have HV : Hid (ListOf w4 w.heap.size v (leftL (2 * (k + r)) ns)) := listOf_own HB3.out.size rfl hrow
  have HB4 : Hid _ := HB3.out.trans (hb4.mono HB3.out.size)
  clear hb4 hrow hnil hperm e9 hlen9
  go_wp2
  go_ret2
  exact ⟨v, rfl, HV.out, HB4.out⟩
end Go.Proofs.YtjmbpldkggbdlaaGreatDoor

/- What Whole and Kind of package damage answer; nothing that was there turns. -/
namespace Go.Proofs.YtjmbpldkggbdlaaGreatDoor
open Go.RowKit Go.Maps Gf
set_option linter.unusedVariables false
set_option maxRecDepth 20000
theorem map_below {w w' : World} {b n : Nat} {D : DataW Unit} (h : w.ownsMap Tryz.prog 3 (unitElem (H := Unit)) b n D) (hb : Below w.heap.size w w') : w'.ownsMap Tryz.prog 3 (unitElem (H := Unit)) b n D := by
  have hl := h.lt
  obtain ⟨es, clock, hbk, r⟩ := h
  exact ⟨es, clock, (hb.block b hl).trans hbk, r⟩
theorem leftOf_E (k r l cap : Nat) (a : Option Addr) (ns : List Nat) (w : World) (h3 : k + r ≤ 16) (hl : l = ns.length) (hcap : l ≤ cap) (hX : RowI w a (natJ8 ns)) (hr : ∀ x ∈ ns, x < 2 * (k + r)) (hl9 : l ≤ 32) :
    Calls Tryz.prog 33 #[.int .i64 k, .int .i64 r, .slice a l cap] w fun e w' => ∃ (b : Nat) (D : DataW Unit), e = .returned (.map (some b)) ∧ w'.ownsMap Tryz.prog 3 (unitElem (H := Unit)) b 32 D ∧
      SetF D (fun x => x ∈ natJ8 (leftL (2 * (k + r)) ns)) ∧ Below w.heap.size w w' :=
  (leftOf_F k r l cap a ns w h3 hl hcap hX hr hl9).mono fun e w' ⟨D, h⟩ => ⟨_, D, h⟩
theorem zeroU (w : World) : (zeroValue 58).run Tryz.prog w = .ok (.agg #[]) w := Tryz.zeroValue58 w
/-- is a half left? -/
theorem setF_left {D : DataW Unit} {n x : Nat} {ns : List Nat} {y : Int} (h : SetF D (fun x => x ∈ natJ8 (leftL n ns))) (e : y = ((x : Nat) : Int)) (hx : x < n) : has D (.int .i64 y) = decide (¬ x ∈ ns) := by
  subst e
  cases hb : has D (.int .i64 (x : Int)) with
  | true => exact (decide_eq_true ((mem_leftL.1 (natJ8_mem.1 ((h _).1 hb))).2)).symm
  | false => exact (decide_eq_false (fun hn => by rw [(h _).2 (natJ8_mem.2 (mem_leftL.2 ⟨hx, hn⟩))] at hb; cases hb)).symm
set_option maxRecDepth 100000 in
set_option maxHeartbeats 4000000 in
theorem whole_legal (k r l cap : Nat) (a : Option Addr) (ns : List Nat) (w : World) (E : Nat → Addr) (hE : ErrsH w E) (h1 : 1 ≤ k) (h2 : 2 ≤ r) (h3 : k + r ≤ 16) (hl : l = ns.length) (hcap : l ≤ cap) (hX : RowI w a (natJ8 ns)) (hu : ns.Pairwise (· < ·)) (hr : ∀ x ∈ ns, x < 2 * (k + r)) :
    Calls Tryz.prog 13 #[.int .i64 k, .int .i64 r, .slice a l cap] w fun e w' => ∃ v, e = .returned (.tuple #[v, .nilIface]) ∧ ListOf w' w.heap.size v (wholeL (k + r) ns) ∧ Below w.heap.size w w' := by
  have hlen : l ≤ 32 := by have := pair_len hu hr; omega
  have HC : Hid _ := dcheck_legal k r l cap a (natJ8 ns) w E hE h1 h2 h3 (by rw [natJ8_len]; exact hl) (by omega) hcap hX
  have HZ : Hid _ := chkE_ok h1 h2 h3 (goodH_of hu hr)
  have HL : Hid (l = ns.length) := hl
  have HX : Hid (RowI w a (natJ8 ns)) := hX
  have HR : Hid (∀ x ∈ ns, x < 2 * (k + r)) := hr
  clear hl hX hr hu hE
  go_enter Tryz.func13, Tryz.ntmps13
  go_wp2_with fail
  refine Calls.mono HC.out ?_
  rw [HZ.out]
  rintro e w1 ⟨rfl, hb1⟩
  have HB1 : Hid _ := hb1
  clear hb1
  rw [show evH E 0 = Value.nilIface from rfl]
  go_wp2_with fail
  refine Calls.mono (leftOf_E k r l cap a ns w1 h3 HL.out hcap (rowI_below HX.out HB1.out) HR.out hlen) ?_
  rintro e w2 ⟨bm, D, rfl, hown, hset, hb2⟩
  have HB2 : Hid _ := HB1.out.trans (hb2.mono HB1.out.size)
  have HOWN : Hid (w2.ownsMap Tryz.prog 3 (unitElem (H := Unit)) bm 32 D) := hown
  have HSET : Hid (SetF D (fun x => x ∈ natJ8 (leftL (2 * (k + r)) ns))) := hset
  have H12 : Hid _ := HB1.out.size
  clear hb2 hown hset
  go_wp2
  obtain ⟨m, hm⟩ : ∃ m : Nat, m = k + r := ⟨_, rfl⟩
  have em : (k : Int) + r = (m : Int) := by omega
  rw [em]
  rw [← hm] at HSET HR
  have hm16 : m ≤ 16 := by omega
  have HMM : Hid _ := hm
  clear em hm
  go_loopw [30, 10] (fun i v wr => ∃ j : Nat, j ≤ m ∧ i = .int .i64 j ∧ (∃ av cv, v = .slice av (wholeL j ns).length cv) ∧ Below w2.heap.size w2 wr ∧ wr.ownsRow w2.heap.size 3 1 v (wholeL j ns).length ((natJ8 (wholeL j ns)).map (Value.int .i64))) (fun i _ _ => m - (intOf i).toNat)
  case atStart => exact ⟨0, by omega, rfl, ⟨none, 0, rfl⟩, Below.refl _ _, World.ownsRow_nil _ _ _ _⟩
  case round =>
    obtain ⟨j, hj, rfl, ⟨av, cv, rfl⟩, hb, ho⟩ := hrel
    have HB : Hid _ := hb
    clear hb
    by_cases hlt : j < m
    · have HK1 : Hid _ := key_i64 (x := 2 * (j : Int)) (by omega)
      have HK2 : Hid _ := key_i64 (x := 2 * (j : Int) + 1) (by omega)
      have p1 := setF_left (y := 2 * (j : Int)) (x := 2 * j) HSET.out (by omega) (by omega)
      have p2 := setF_left (y := 2 * (j : Int) + 1) (x := 2 * j + 1) HSET.out (by omega) (by omega)
      have hs := wholeL_succ j ns
      have HWL : Hid _ := wholeL_le j ns
      have HM : Hid (wr.ownsMap Tryz.prog 3 (unitElem (H := Unit)) bm 32 D) := map_below HOWN.out HB.out
      by_cases q1 : 2 * j ∈ ns
      · rw [decide_eq_false (not_not_intro q1)] at p1
        have P1 : Hid _ := p1
        clear p1
        by_cases q2 : 2 * j + 1 ∈ ns
        · rw [decide_eq_false (not_not_intro q2)] at p2
          have P2 : Hid _ := p2
          clear p2
          rw [if_pos ⟨q1, q2⟩] at hs
          have hz : ((wr.alloc (.cells #[] 58)).alloc (.cells #[] 58)).heap.size = wr.heap.size + 1 + 1 := by simp
          have hb5 := ((HB.out.alloc HB.out.size (.cells #[] 58)).alloc (by have := HB.out.size; simp; omega) (.cells #[] 58)).alloc (by have := HB.out.size; simp; omega) (.cells #[.int .i64 j] 3)
          have ho5 := ((ho.alloc (.cells #[] 58)).alloc (.cells #[] 58)).alloc (.cells #[.int .i64 j] 3)
          obtain ⟨g2, cap2, w6, hrun, ho2, hgr, hor, hlt2⟩ := appendI (b := wr.heap.size + 1 + 1) (c := 1) (x := (j : Int)) 22 ho5 (cellAt (by rw [← hz]; exact heap_alloc_last ((wr.alloc (.cells #[] 58)).alloc (.cells #[] 58)) (.cells #[.int .i64 j] 3)) 0 _ rfl) (by have := HWL.out; omega) (by have := HB.out.size; simp; omega)
          have hb6 := below_own hb5 ho5 hgr (by have := HB.out.size; simp; omega)
          have hn6 : (wholeL (j + 1) ns).length = (wholeL j ns).length + 1 := by rw [hs]; simp
          have hv6 : (natJ8 (wholeL j ns)).map (Value.int .i64) ++ [.int .i64 (j : Int)] = (natJ8 (wholeL (j + 1) ns)).map (Value.int .i64) := by rw [hs]; simp [natJ8]
          rw [hv6] at ho2
          have HRun : Hid _ := hrun
          have HO2 : Hid (w6.ownsRow w2.heap.size 3 1 (.slice (some ⟨g2, 0, none⟩) ((wholeL j ns).length + 1) cap2) ((wholeL j ns).length + 1) ((natJ8 (wholeL (j + 1) ns)).map (Value.int .i64))) := ho2
          have HB6 : Hid _ := hb6
          have HN6 : Hid _ := hn6
          clear hs ho q1 q2 hz hb5 ho5 hrun ho2 hgr hor hlt2 hb6 hn6 hv6
          have tok1 : True := trivial
          go_wp2_with (first | (at_lookup; have _t := tok1; refine wpList_lookup_own_unit _ rfl _ _ 57 rfl 3 58 lawI Tryz.underlying57 (zeroU _) bm 32 D rfl HM.out _ _ rfl HK1.out ?_; rw [P1.out]; clear tok1) | (at_lookup; refine wpList_lookup_own_unit _ rfl _ _ 57 rfl 3 58 lawI Tryz.underlying57 (zeroU _) bm 32 D rfl (World.ownsMap.alloc HM.out _) _ _ rfl HK2.out ?_; rw [P2.out]) | (at_builtin; refine wpList_append_run rfl _ _ 22 rfl _ _ _ _ rfl rfl HRun.out ?_))
          refine ⟨⟨j + 1, by omega, by go_num, ⟨_, _, by rw [HN6.out]⟩, HB6.out, by rw [HN6.out]; exact HO2.out⟩, by simp [intOf]; omega⟩
        · rw [decide_eq_true q2] at p2
          have P2 : Hid _ := p2
          clear p2
          rw [if_neg (fun h => q2 h.2), List.append_nil] at hs
          have HS : Hid _ := hs
          have HO : Hid (wr.ownsRow w2.heap.size 3 1 (.slice av (wholeL j ns).length cv) (wholeL j ns).length ((natJ8 (wholeL j ns)).map (Value.int .i64))) := ho
          have HB5 : Hid _ := ((HB.out.alloc HB.out.size (.cells #[] 58)).alloc (by have := HB.out.size; simp; omega) (.cells #[] 58))
          clear hs ho q1 q2
          have tok1 : True := trivial
          go_wp2_with (first | (at_lookup; have _t := tok1; refine wpList_lookup_own_unit _ rfl _ _ 57 rfl 3 58 lawI Tryz.underlying57 (zeroU _) bm 32 D rfl HM.out _ _ rfl HK1.out ?_; rw [P1.out]; clear tok1) | (at_lookup; refine wpList_lookup_own_unit _ rfl _ _ 57 rfl 3 58 lawI Tryz.underlying57 (zeroU _) bm 32 D rfl (World.ownsMap.alloc HM.out _) _ _ rfl HK2.out ?_; rw [P2.out]))
          refine ⟨⟨j + 1, by omega, by go_num, ⟨av, cv, by rw [HS.out]⟩, HB5.out, by rw [HS.out]; exact (HO.out.alloc _).alloc _⟩, by simp [intOf]; omega⟩
      · rw [decide_eq_true q1] at p1
        have P1 : Hid _ := p1
        clear p1
        cases q2 : decide (¬ 2 * j + 1 ∈ ns) with
        | true =>
          rw [q2] at p2
          have P2 : Hid _ := p2
          clear p2 q2
          rw [if_neg (fun h => q1 h.1), List.append_nil] at hs
          have HS : Hid _ := hs
          have HO : Hid (wr.ownsRow w2.heap.size 3 1 (.slice av (wholeL j ns).length cv) (wholeL j ns).length ((natJ8 (wholeL j ns)).map (Value.int .i64))) := ho
          have HB5 : Hid _ := ((HB.out.alloc HB.out.size (.cells #[] 58)).alloc (by have := HB.out.size; simp; omega) (.cells #[] 58))
          clear hs ho q1
          have tok1 : True := trivial
          go_wp2_with (first | (at_lookup; have _t := tok1; refine wpList_lookup_own_unit _ rfl _ _ 57 rfl 3 58 lawI Tryz.underlying57 (zeroU _) bm 32 D rfl HM.out _ _ rfl HK1.out ?_; rw [P1.out]; clear tok1) | (at_lookup; refine wpList_lookup_own_unit _ rfl _ _ 57 rfl 3 58 lawI Tryz.underlying57 (zeroU _) bm 32 D rfl (World.ownsMap.alloc HM.out _) _ _ rfl HK2.out ?_; rw [P2.out]))
          refine ⟨⟨j + 1, by omega, by go_num, ⟨av, cv, by rw [HS.out]⟩, HB5.out, by rw [HS.out]; exact (HO.out.alloc _).alloc _⟩, by simp [intOf]; omega⟩
        | false =>
          rw [q2] at p2
          have P2 : Hid _ := p2
          clear p2 q2
          rw [if_neg (fun h => q1 h.1), List.append_nil] at hs
          have HS : Hid _ := hs
          have HO : Hid (wr.ownsRow w2.heap.size 3 1 (.slice av (wholeL j ns).length cv) (wholeL j ns).length ((natJ8 (wholeL j ns)).map (Value.int .i64))) := ho
          have HB5 : Hid _ := ((HB.out.alloc HB.out.size (.cells #[] 58)).alloc (by have := HB.out.size; simp; omega) (.cells #[] 58))
          clear hs ho q1
          have tok1 : True := trivial
          go_wp2_with (first | (at_lookup; have _t := tok1; refine wpList_lookup_own_unit _ rfl _ _ 57 rfl 3 58 lawI Tryz.underlying57 (zeroU _) bm 32 D rfl HM.out _ _ rfl HK1.out ?_; rw [P1.out]; clear tok1) | (at_lookup; refine wpList_lookup_own_unit _ rfl _ _ 57 rfl 3 58 lawI Tryz.underlying57 (zeroU _) bm 32 D rfl (World.ownsMap.alloc HM.out _) _ _ rfl HK2.out ?_; rw [P2.out]))
          refine ⟨⟨j + 1, by omega, by go_num, ⟨av, cv, by rw [HS.out]⟩, HB5.out, by rw [HS.out]; exact (HO.out.alloc _).alloc _⟩, by simp [intOf]; omega⟩
    · obtain rfl : j = m := by omega
      have HV : Hid (ListOf wr w.heap.size (.slice av (wholeL j ns).length cv) (wholeL (k + r) ns)) := by rw [← HMM.out]; exact listOf_own HB2.out.size rfl ho
      have HB4 : Hid _ := HB2.out.trans (HB.out.mono HB2.out.size)
      clear ho
      go_wp2
      go_ret2
      exact ⟨_, rfl, HV.out, HB4.out⟩
end Go.Proofs.YtjmbpldkggbdlaaGreatDoor

/- What Kind of package damage answers of legal arguments. -/
namespace Go.Proofs.YtjmbpldkggbdlaaGreatDoor
open Go.RowKit Go.Maps Gf
set_option linter.unusedVariables false
set_option maxRecDepth 20000
set_option maxHeartbeats 4000000 in
theorem kind_legal (k r l cap : Nat) (a : Option Addr) (ns : List Nat) (w : World) (E : Nat → Addr) (hE : ErrsH w E) (h1 : 1 ≤ k) (h2 : 2 ≤ r) (h3 : k + r ≤ 16) (hl : l = ns.length) (hcap : l ≤ cap) (hX : RowI w a (natJ8 ns)) (hu : ns.Pairwise (· < ·)) (hr : ∀ x ∈ ns, x < 2 * (k + r)) :
    Calls Tryz.prog 14 #[.int .i64 k, .int .i64 r, .slice a l cap] w fun e w' => e = .returned (.tuple #[.int .i64 (kindN k ns), .nilIface]) ∧ Below w.heap.size w w' := by
  have HK : Hid (kindN k ns = if ns.length = 0 then 0 else if ns.length = 2 ∧ (wholeL (k + r) ns).length = 1 ∧ (wholeL (k + r) ns).getD 0 0 < k then 1 else 2) := kind_way (by omega) hu
  have HW : Hid _ := whole_legal k r l cap a ns w E hE h1 h2 h3 hl hcap hX hu hr
  have HL : Hid (l = ns.length) := hl
  clear hl hX hr hu hE
  go_enter Tryz.func14, Tryz.ntmps14
  go_wp2_with fail
  refine Calls.mono HW.out ?_
  rintro e w1 ⟨v, rfl, ⟨av, cv, rfl, hl9, hm9, hn9, hx9, hf9⟩, hb1⟩
  have HB1 : Hid _ := hb1
  clear hb1
  have hk := HK.out
  generalize wholeL (k + r) ns = wl at *
  rw [← HL.out] at hk
  have HK2 : Hid _ := hk
  clear hk HK HL HW
  by_cases h0 : l = 0
  · rw [if_pos h0] at HK2
    subst h0
    clear hx9 hf9 hn9
    go_wp2
    go_ret2
    exact ⟨by rw [HK2.out]; rfl, HB1.out⟩
  · rw [if_neg h0] at HK2
    by_cases hl2 : l = 2
    · by_cases hw1 : wl.length = 1
      · obtain ⟨x, rfl⟩ := List.length_eq_one_iff.1 hw1
        obtain ⟨b, off, rfl, hbl, hc⟩ := rowI_cell hx9 (show 0 < (natJ8 [x]).length by simp [natJ8])
        have c1 := hc 0 (by simp [natJ8])
        rw [show (natJ8 [x]).getD 0 0 = (x : Int) from rfl, Nat.add_zero] at c1
        rw [show [x].length = 1 from rfl]
        by_cases hxk : x < k
        · rw [if_pos ⟨hl2, rfl, hxk⟩] at HK2
          clear hx9 hf9 hn9 hc hw1
          subst hl2
          go_wp2
          go_ret2
          exact ⟨by rw [HK2.out]; rfl, HB1.out⟩
        · rw [if_neg (fun h => hxk h.2.2)] at HK2
          clear hx9 hf9 hn9 hc hw1
          subst hl2
          go_wp2
          go_ret2
          exact ⟨by rw [HK2.out]; rfl, HB1.out⟩
      · rw [if_neg (fun h => hw1 h.2.1)] at HK2
        generalize wl.length = wn at *
        clear hx9 hf9 hn9
        subst hl2
        go_wp2
        go_ret2
        exact ⟨by rw [HK2.out]; rfl, HB1.out⟩
    · rw [if_neg (fun h => hl2 h.1)] at HK2
      generalize wl.length = wn at *
      clear hx9 hf9 hn9
      go_wp2
      go_ret2
      exact ⟨by rw [HK2.out]; rfl, HB1.out⟩
end Go.Proofs.YtjmbpldkggbdlaaGreatDoor

/- What Gone of package damage answers of legal arguments: by the rank of the rows that are left. -/
namespace Go.Proofs.YtjmbpldkggbdlaaGreatDoor
open Go.RowKit Go.Maps Gf
set_option linter.unusedVariables false
set_option maxRecDepth 20000
theorem take_grid8 {k n : Nat} {xs : List F} {A : Nat → Nat → F} {L : List Nat} (hn : ∀ x ∈ L, x < n) (hx : xs = grid k A n) : (takeM k xs (natJ8 L)).flatten = grid k (fun i j => A (L.getD i 0) j) L.length := by
  subst hx
  rw [grid_flat k (fun i j => A (L.getD i 0) j)]
  congr 1
  apply List.ext_getElem
  · simp [takeM, natJ8]
  · intro i h1 h2
    have hi : i < L.length := by simpa [takeM, natJ8] using h1
    have e : L.getD i 0 = L[i] := by simp [List.getD, hi]
    simp only [takeM, natJ8, List.getElem_map, List.getElem_range, Int.toNat_natCast]
    rw [rowAt_grid (hn _ (List.getElem_mem hi)), e]
theorem take_rank8 {k r : Nat} {L : List Nat} (hn : ∀ x ∈ L, x < 2 * (k + r)) :
    (pivL (cellF (2 * k) (takeM (2 * k) (halfM k r) (natJ8 L)).flatten) L.length (2 * k)).length = rankL k (carN (groupN k r)) L := by
  rw [take_grid8 (xs := halfM k r) (A := halfF k (carN (groupN k r))) hn rfl]
  exact congrArg List.length (pivL_congr fun i hi j hj => at8_grid hi hj)
theorem take_len8 {k r : Nat} {L : List Nat} (hn : ∀ x ∈ L, x < 2 * (k + r)) : (takeM (2 * k) (halfM k r) (natJ8 L)).flatten.length = L.length * (2 * k) := by
  rw [take_grid8 (xs := halfM k r) (A := halfF k (carN (groupN k r))) hn rfl, grid_len]
/-- what Gone names -/
def ErrsG (w : World) (E : Nat → Addr) : Prop := ErrsH w E ∧ w.cell? ⟨2, 0, none⟩ = some (errAt (E 1)) ∧ w.cell? ⟨3, 0, none⟩ = some (errAt (E 11))
theorem errsG_below {w w' : World} {E : Nat → Addr} (h : ErrsG w E) (hb : Below w.heap.size w w') : ErrsG w' E := ⟨errsH_below h.1 hb, cell_later hb h.2.1, cell_later hb h.2.2⟩
set_option maxHeartbeats 4000000 in
theorem gone_legal (k r l cap : Nat) (a : Option Addr) (ns : List Nat) (w : World) (E : Nat → Addr) (hE : ErrsG w E) (h1 : 1 ≤ k) (h2 : 2 ≤ r) (h3 : k + r ≤ 16) (hl : l = ns.length) (hcap : l ≤ cap) (hX : RowI w a (natJ8 ns)) (hu : ns.Pairwise (· < ·)) (hr : ∀ x ∈ ns, x < 2 * (k + r)) :
    Calls Tryz.prog 15 #[.int .i64 k, .int .i64 r, .slice a l cap] w fun e w' => e = .returned (.tuple #[.bool (goneB k (2 * (k + r)) (carN (groupN k r)) ns), .nilIface]) ∧ Below w.heap.size w w' := by
  have HW : Hid _ := left_legal k r l cap a ns w E hE.1 h1 h2 h3 hl hcap hX hu hr
  have HE : Hid _ := hE
  have HV : Hid _ := fun w s hs => hrows_F k r w s hs h1 h2 h3
  have hml := halfM_len k r
  have HML : Hid _ := hml
  have hlin : ∀ x ∈ leftL (2 * (k + r)) ns, x < 2 * (k + r) := fun x hx => (mem_leftL.1 hx).1
  have HRK : Hid _ := take_rank8 hlin
  have HTL : Hid _ := take_len8 hlin
  have HG : Hid (goneB k (2 * (k + r)) (carN (groupN k r)) ns = decide (rankL k (carN (groupN k r)) (leftL (2 * (k + r)) ns) < 2 * k)) := rfl
  have HLE : Hid _ := leftL_le (2 * (k + r)) ns
  have HLIN : Hid _ := hlin
  clear hl hX hr hu hE hml hlin
  rw [HG.out]
  clear HG
  generalize leftL (2 * (k + r)) ns = lf at *
  obtain ⟨n, hn⟩ : ∃ n, n = 2 * (k + r) := ⟨_, rfl⟩
  obtain ⟨c, hc⟩ : ∃ c, c = 2 * k := ⟨_, rfl⟩
  rw [← hn, ← hc] at HV HML
  rw [← hn] at HLE HLIN
  rw [← hc] at HRK HTL
  rw [← hc]
  have hn32 : n ≤ 32 := by omega
  have hc32 : c ≤ 32 := by omega
  clear hn hc
  go_enter Tryz.func15, Tryz.ntmps15
  go_wp2_with fail
  refine Calls.mono HW.out ?_
  rintro e w1 ⟨v, rfl, ⟨av, cv, rfl, hl9, hm9, hn9, hx9, hf9⟩, hb1⟩
  have HB1 : Hid _ := hb1
  have HX9 : Hid _ := hx9
  clear hb1 hx9 hf9 hn9
  go_wp2_with fail
  refine Calls.mono (HV.out _ (E 1) (errsG_below HE.out HB1.out).2.1) ?_
  rintro e w2 ⟨g2, m2, rfl, hm2, hg2, hh2, hb2⟩
  have HM2 : Hid _ := hm2
  have HA2 : Hid _ := holds_new (holds_cons (holds_nil w2) hh2) #[.int .i64 n, .int .i64 c, .slice (some ⟨g2, 0, none⟩) m2 m2] 63
  have hB2 := HB1.out.trans (hb2.mono HB1.out.size)
  have HX2 : Hid _ := rowI_alloc (rowI_below HX9.out hb2) (.cells #[.int .i64 n, .int .i64 c, .slice (some ⟨g2, 0, none⟩) m2 m2] 63)
  have HB2 : Hid _ := hB2.alloc hB2.size (.cells #[.int .i64 n, .int .i64 c, .slice (some ⟨g2, 0, none⟩) m2 m2] 63)
  clear hb2 hh2 hm2 hB2
  have c1 := cellAt (holds_at HA2.out 0 rfl) 0 _ rfl
  have c2 := cellAt (holds_at HA2.out 0 rfl) 1 _ rfl
  have c3 := cellAt (holds_at HA2.out 0 rfl) 2 _ rfl
  have z3 := ltHeap (holds_at HA2.out 0 rfl)
  go_wp2_with fail
  refine Calls.mono (take_F n c m2 m2 lf.length cv (some ⟨g2, 0, none⟩) av (halfM k r) (natJ8 lf) _ (by omega) (by omega) HM2.out HML.out (Nat.le_refl _) (holds_row HA2.out 1 rfl) (fun h => by cases h) (natJ8_len _).symm (by have := HLE.out; omega) HX2.out (E 11) (errsG_below HE.out HB2.out).2.2) ?_
  rintro e w3 (⟨_, g3, m3, rfl, hm3, hg3, hh3, hb3⟩ | ⟨hno, _⟩)
  · have HM3 : Hid _ := hm3
    have HA3 : Hid _ := holds_new (holds_cons (holds_later HA2.out hb3) hh3) #[.int .i64 lf.length, .int .i64 c, .slice (some ⟨g3, 0, none⟩) m3 m3] 63
    have hB3 := HB2.out.trans (hb3.mono HB2.out.size)
    have HB3 : Hid _ := hB3.alloc hB3.size (.cells #[.int .i64 lf.length, .int .i64 c, .slice (some ⟨g3, 0, none⟩) m3 m3] 63)
    clear hb3 hh3 hm3 hB3 c1 c2 c3 z3
    have c1 := cellAt (holds_at HA3.out 0 rfl) 0 _ rfl
    have c2 := cellAt (holds_at HA3.out 0 rfl) 1 _ rfl
    have c3 := cellAt (holds_at HA3.out 0 rfl) 2 _ rfl
    have z3 := ltHeap (holds_at HA3.out 0 rfl)
    have hlf : lf.length ≤ 32 := by have := HLE.out; omega
    go_wp2_with fail
    refine Calls.mono (rank_F lf.length c m3 m3 (some ⟨g3, 0, none⟩) (takeM c (halfM k r) (natJ8 lf)).flatten _ (by omega) (by omega) HM3.out HTL.out (Nat.le_refl _) (holds_row HA3.out 1 rfl) (fun h => by cases h)) ?_
    rw [HRK.out]
    rintro e w4 ⟨rfl, hb4⟩
    have HB4 : Hid _ := HB3.out.trans (hb4.mono HB3.out.size)
    have h9 := holds_later HA3.out hb4
    have HCOL : Hid _ := holds_at h9 2 rfl
    clear hb4 c1 c2 c3 z3
    have c1 := cellAt HCOL.out 1 _ rfl
    go_wp2
    go_ret2
    exact ⟨rfl, HB4.out⟩
  · exact absurd (fun x hx => by
      obtain ⟨y, hy, rfl⟩ := List.mem_map.1 hx
      have := HLIN.out y hy
      omega) hno
end Go.Proofs.YtjmbpldkggbdlaaGreatDoor

/- What Name and Parse of package half answer, at all numbers and texts; unlike halves have unlike names; nothing that was there turns. -/
namespace Go.Proofs.YtjmbpldkggbdlaaGreatDoor
open Go.RowKit Gf
set_option linter.unusedVariables false
set_option maxRecDepth 20000
theorem strB_eq {a b : List UInt8} (h : a = b) : ((strB a).toList == (strB b).toList) = true := by rw [h]; exact beq_self_eq_true _
theorem strB_ne {a b : List UInt8} (h : ¬ a = b) : ((strB a).toList == (strB b).toList) = false := by rw [strB_list, strB_list]; exact beq_eq_false_iff_ne.2 h
theorem nameB_inj : ∀ k < 15, ∀ h < 32, ∀ j < 32, nameB k h = nameB k j → h = j := by decide +kernel
theorem nameB_len : ∀ k < 15, ∀ h < 32, 3 ≤ (nameB k h).length ∧ (nameB k h).length ≤ 4 := by decide +kernel
set_option maxHeartbeats 1000000 in
theorem name_ok (k r h : Nat) (w : World) (h1 : 1 ≤ k) (h2 : 2 ≤ r) (h3 : k + r ≤ 16) (hh : h < 2 * (k + r)) :
    Calls Tryz.prog 37 #[.int .i64 k, .int .i64 r, .int .i64 h] w fun e w' => e = .returned (.tuple #[.string (strB (nameB k h)), .nilIface]) ∧ Below w.heap.size w w' := by
  obtain ⟨s, p, hp, hs, en⟩ : ∃ s p : Nat, p < 2 ∧ s < k + r ∧ h = 2 * s + p := ⟨h / 2, h % 2, by omega, by omega, by omega⟩
  have HE : Hid _ := en
  clear en hh
  go_enter Tryz.func37, Tryz.ntmps37
  go_wp2_with fail
  refine (find_ok k r h s p _ h1 h2 h3 HE.out hp hs).mono ?_
  rintro e w1 ⟨rfl, hb1⟩
  have HB1 : Hid _ := hb1.alloc hb1.size (.cells #[.int .i64 s, .int .i64 p] 77)
  clear hb1
  go_wp2_with fail
  refine (nameOf_F k h s p _ HE.out hp (by omega) (by omega)).mono ?_
  rintro e w2 ⟨rfl, hb2⟩
  have HB2 : Hid (Below w.heap.size w w2) := HB1.out.trans (hb2.mono HB1.out.size)
  clear hb2
  go_wp2
  go_ret2
  exact ⟨rfl, HB2.out⟩
theorem name_err (k r h : Int) (s : Addr) (w : World) (hF : ∀ w0 : World, w0 = w → Calls Tryz.prog 43 #[.int .i64 k, .int .i64 r, .int .i64 h] w0 fun e w' => e = .returned (.tuple #[.agg #[.int .i64 0, .int .i64 0], errAt s]) ∧ Below w0.heap.size w0 w') :
    Calls Tryz.prog 37 #[.int .i64 k, .int .i64 r, .int .i64 h] w fun e w' => e = .returned (.tuple #[.string (strB []), errAt s]) ∧ Below w.heap.size w w' := by
  have HF : Hid _ := hF
  clear hF
  unfold errAt at HF ⊢
  go_enter Tryz.func37, Tryz.ntmps37
  go_wp2_with fail
  refine (HF.out _ rfl).mono ?_
  rintro e w1 ⟨rfl, hb⟩
  have HB : Hid _ := hb
  clear hb
  go_wp2
  go_ret2
  exact ⟨rfl, HB.out.alloc HB.out.size _⟩
theorem name_bad (k r h : Int) (w : World) (s : Addr) (hs : w.cell? ⟨0, 0, none⟩ = some (errAt s)) (hk0 : -9223372036854775808 ≤ k) (hk1 : k ≤ 9223372036854775807) (hr0 : -9223372036854775808 ≤ r) (hr1 : r ≤ 9223372036854775807) (hL : ¬ LegalP k r) :
    Calls Tryz.prog 37 #[.int .i64 k, .int .i64 r, .int .i64 h] w fun e w' => e = .returned (.tuple #[.string (strB []), errAt s]) ∧ Below w.heap.size w w' :=
  name_err k r h s w fun w0 e => find_bad k r h w0 s (e ▸ hs) hk0 hk1 hr0 hr1 hL
theorem name_no (k r : Nat) (h : Int) (w : World) (s : Addr) (hs : w.cell? ⟨1, 0, none⟩ = some (errAt s)) (h1 : 1 ≤ k) (h2 : 2 ≤ r) (h3 : k + r ≤ 16) (hh : ¬ (0 ≤ h ∧ h < 2 * (k + r))) :
    Calls Tryz.prog 37 #[.int .i64 k, .int .i64 r, .int .i64 h] w fun e w' => e = .returned (.tuple #[.string (strB []), errAt s]) ∧ Below w.heap.size w w' :=
  name_err k r h s w fun w0 e => find_no k r h w0 s (e ▸ hs) h1 h2 h3 hh
theorem parse_bad (k r : Int) (b : ByteArray) (w : World) (s : Addr) (hs : w.cell? ⟨0, 0, none⟩ = some (errAt s)) (hk0 : -9223372036854775808 ≤ k) (hk1 : k ≤ 9223372036854775807) (hr0 : -9223372036854775808 ≤ r) (hr1 : r ≤ 9223372036854775807) (hL : ¬ LegalP k r) :
    Calls Tryz.prog 42 #[.int .i64 k, .int .i64 r, .string b] w fun e w' => e = .returned (.tuple #[.int .i64 0, errAt s]) ∧ w = w' := by
  have HS : Hid _ := hs
  have H : Hid _ := hL
  clear hs hL
  go_enter Tryz.func42, Tryz.ntmps42
  go_wp2_with fail
  refine (bcheck_bad k r _ s HS.out hk0 hk1 hr0 hr1 H.out).mono ?_
  unfold errAt
  rintro e w' ⟨rfl, rfl⟩
  go_wp2
  go_ret2
  exact ⟨rfl, rfl⟩
/-- which half a name is -/
def ParsedAs (k n : Nat) (l : List UInt8) (s : Addr) (v : Value) : Prop :=
  (∃ h : Nat, h < n ∧ nameB k h = l ∧ v = .tuple #[.int .i64 h, .nilIface]) ∨ (∀ h, h < n → nameB k h ≠ l) ∧ v = .tuple #[.int .i64 0, errAt s]
set_option maxHeartbeats 1000000 in
theorem parse_F (k r : Nat) (l : List UInt8) (w : World) (s : Addr) (hs : w.cell? ⟨1, 0, none⟩ = some (errAt s)) (h1 : 1 ≤ k) (h2 : 2 ≤ r) (h3 : k + r ≤ 16) :
    Calls Tryz.prog 42 #[.int .i64 k, .int .i64 r, .string (strB l)] w fun e w' => (∃ v, e = .returned v ∧ ParsedAs k (2 * (k + r)) l s v) ∧ Below w.heap.size w w' := by
  have HS : Hid _ := hs
  clear hs
  go_enter Tryz.func42, Tryz.ntmps42
  go_wp2_with fail
  refine (bcheck_ok _ _ _ h1 h2 h3).mono ?_
  rintro e w' ⟨rfl, rfl⟩
  go_wp2
  go_loopw [20] (fun i wr => ∃ j : Nat, j ≤ 2 * (k + r) ∧ i = .int .i64 j ∧ Below w.heap.size w wr ∧ ∀ h, h < j → nameB k h ≠ l) (fun i _ => 2 * (k + r) - (intOf i).toNat)
  case atStart => exact ⟨0, by omega, rfl, Below.refl _ _, fun h hh => absurd hh (Nat.not_lt_zero h)⟩
  case round =>
    obtain ⟨j, hj, rfl, hb, hno⟩ := hrel
    have HB : Hid _ := hb
    have HNO : Hid _ := hno
    clear hb hno
    by_cases hlt : j < 2 * (k + r)
    · have a1 : (j : Int) < 2 * ((k : Int) + r) := by omega
      obtain ⟨s1, p, hp, hs1, en⟩ : ∃ s p : Nat, p < 2 ∧ s < k + r ∧ j = 2 * s + p := ⟨j / 2, j % 2, by omega, by omega, by omega⟩
      have HE : Hid _ := en
      clear en
      go_wp2_with fail
      refine (placeOf_F j s1 p _ HE.out hp (by omega)).mono ?_
      rintro e w2 ⟨rfl, hb2⟩
      have HB2 : Hid (Below w.heap.size w w2) := HB.out.trans (hb2.mono HB.out.size)
      clear hb2
      go_wp2_with fail
      refine (nameOf_F k j s1 p _ HE.out hp (by omega) (by omega)).mono ?_
      rintro e w3 ⟨rfl, hb3⟩
      have HB3 : Hid (Below w.heap.size w w3) := HB2.out.trans (hb3.mono HB2.out.size)
      clear hb3
      by_cases he : nameB k j = l
      · have hq := strB_eq he
        go_wp2
        go_ret2
        exact ⟨⟨_, rfl, .inl ⟨j, hlt, he, rfl⟩⟩, HB3.out⟩
      · have hq := strB_ne he
        go_wp2
        refine ⟨⟨j + 1, by omega, by go_num, HB3.out, fun h hh => ?_⟩, by simp [intOf]; omega⟩
        by_cases e : h = j
        · rw [e]; exact he
        · exact HNO.out h (by omega)
    · have a1 : ¬ (j : Int) < 2 * ((k : Int) + r) := by omega
      obtain rfl : j = 2 * (k + r) := by omega
      have hsx := cell_later HB.out HS.out
      have hg := World.block_lt_of_cell? _ _ hsx
      unfold errAt at hsx
      go_wp2
      go_region
      go_wp2
      go_ret2
      exact ⟨⟨_, rfl, .inr ⟨HNO.out, rfl⟩⟩, HB.out.drew⟩
end Go.Proofs.YtjmbpldkggbdlaaGreatDoor

/- What Text of package damage answers of legal arguments. -/
namespace Go.Proofs.YtjmbpldkggbdlaaGreatDoor
open Go.RowKit Go.Maps Gf
set_option linter.unusedVariables false
set_option maxRecDepth 20000
/-- texts with room behind -/
def smW (vs : List Value) (r : Nat) : Array Value := (vs ++ List.replicate (r - vs.length) (Value.string ⟨#[]⟩)).toArray
theorem smW_at {vs : List Value} {r i : Nat} {v : Value} (h : vs[i]? = some v) : (smW vs r)[i]? = some v := by
  have hi := (List.getElem?_eq_some_iff.1 h).1
  simp only [smW, List.getElem?_toArray]
  rw [List.getElem?_append_left hi, h]
theorem smW_next {vs : List Value} {r : Nat} (h : vs.length < r) : (smW vs r)[vs.length]? = some (.string ⟨#[]⟩) := by
  simp only [smW, List.getElem?_toArray]
  rw [List.getElem?_append_right (Nat.le_refl _), Nat.sub_self, List.getElem?_replicate, if_pos (by omega)]
theorem smW_set {vs : List Value} {r : Nat} (v : Value) (h : vs.length < r) : (smW vs r).setIfInBounds vs.length v = smW (vs ++ [v]) r := by
  simp only [smW]
  apply Array.toList_inj.1
  simp only [Array.toList_setIfInBounds, List.length_append, List.length_singleton, List.append_assoc]
  rw [List.set_append_right _ _ (Nat.le_refl _), Nat.sub_self]
  rw [show r - vs.length = (r - (vs.length + 1)) + 1 from by omega, List.replicate_succ]
  simp
theorem run_makeStr (n : Nat) (hn : n ≤ 64) (w : World) :
    (Instr.makeSlice 68 (.int .i64 (n : Int)) (.int .i64 (n : Int))).run Tryz.prog w = .ok (.slice (some ⟨w.heap.size, 0, none⟩) n n) (w.alloc (.cells (smW [] n) 9)) := by
  have hi : (Tryz.prog.info? 9).map (fun i => (i.size, i.bytes, i.zero)) = some (1, 16, some (.string ⟨#[]⟩)) := by kernel_rfl
  cases hq : Tryz.prog.info? 9 with
  | none => simp [hq] at hi
  | some i =>
    simp only [hq, Option.map_some, Option.some.injEq, Prod.mk.injEq] at hi
    have := run_make (P := Tryz.prog) w 68 9 i _ Tryz.underlying68 hq hi.2.2 .i64 .i64 n n (by omega) (by omega) (by rw [hi.2.1]; omega) (by omega)
    rw [this, hi.1]
    have e : madeCells (Value.string ⟨#[]⟩).cells n = smW [] n := by
      apply Array.ext_getElem?
      intro i
      by_cases h : i < n <;> simp [madeCells, smW, Value.cells, h, Nat.mod_one]
    simp only [Int.toNat_natCast, Nat.mul_one, e]
/-- the text of lost halves -/
def textB (k : Nat) (ns : List Nat) : List UInt8 := if ns = [] then [110, 111, 110, 101] else Lib.join (ns.map (nameB k)) [44]
def strsV (k : Nat) (ns : List Nat) : List Value := ns.map fun h => .string (strB (nameB k h))
theorem strsV_len (k : Nat) (ns : List Nat) : (strsV k ns).length = ns.length := by simp [strsV]
theorem strB_data (l : List UInt8) : (strB l).data.toList = l := by simp [strB]
theorem names_join (k : Nat) (ns : List Nat) : ((ns.map fun h => strB (nameB k h)).map (·.data.toList)) = ns.map (nameB k) := by
  rw [List.map_map]
  apply List.map_congr_left
  intro h _
  exact strB_data _
theorem join_short {k : Nat} (hk : k < 15) : ∀ (ns : List Nat), (∀ x ∈ ns, x < 32) → Lib.lens (ns.map (nameB k)) ≤ 4 * ns.length
  | [], _ => by simp [Lib.lens]
  | x :: ns, h => by
    have := join_short hk ns (fun y hy => h y (List.mem_cons_of_mem _ hy))
    have h4 := (nameB_len k hk x (h x (by simp))).2
    simp only [Lib.lens, List.map_cons, List.sum_cons, List.length_cons] at *
    omega
theorem textB_len {k n : Nat} {ns : List Nat} (hk : k < 15) (hn : n ≤ 32) (h1 : ns.Pairwise (· < ·)) (h2 : ∀ x ∈ ns, x < n) : (Lib.join (ns.map (nameB k)) [44]).length ≤ 200 := by
  have hl := pair_len h1 h2
  have hs := join_short hk ns (fun x hx => by have := h2 x hx; omega)
  cases ns with
  | nil => simp [Lib.join_nil]
  | cons x ns =>
    rw [List.map_cons] at hs ⊢
    rw [Lib.join_length]
    simp only [List.length_cons, List.length_nil, List.length_map] at *
    omega
set_option maxHeartbeats 4000000 in
theorem text_legal (k r l cap : Nat) (a : Option Addr) (ns : List Nat) (w : World) (E : Nat → Addr) (hE : ErrsH w E) (h1 : 1 ≤ k) (h2 : 2 ≤ r) (h3 : k + r ≤ 16) (hl : l = ns.length) (hcap : l ≤ cap) (hX : RowI w a (natJ8 ns)) (hu : ns.Pairwise (· < ·)) (hr : ∀ x ∈ ns, x < 2 * (k + r)) :
    Calls Tryz.prog 16 #[.int .i64 k, .int .i64 r, .slice a l cap] w fun e w' => e = .returned (.tuple #[.string (strB (textB k ns)), .nilIface]) ∧ Below w.heap.size w w' := by
  have hlen : l ≤ 32 := by have := pair_len hu hr; omega
  have HC : Hid _ := dcheck_legal k r l cap a (natJ8 ns) w E hE h1 h2 h3 (by rw [natJ8_len]; exact hl) (by omega) hcap hX
  have HZ : Hid _ := chkE_ok h1 h2 h3 (goodH_of hu hr)
  have HT : Hid (textB k ns = if ns = [] then [110, 111, 110, 101] else Lib.join (ns.map (nameB k)) [44]) := rfl
  have HJL : Hid ((Lib.join (ns.map (nameB k)) [44]).length ≤ 200) := textB_len (by omega) (by omega) hu hr
  have HL : Hid (l = ns.length) := hl
  have HX : Hid (RowI w a (natJ8 ns)) := hX
  have HR : Hid (∀ x ∈ ns, x < 2 * (k + r)) := hr
  have hmk := run_makeStr l (by omega)
  clear hl hX hr hu hE
  go_enter Tryz.func16, Tryz.ntmps16
  go_wp2_with fail
  refine Calls.mono HC.out ?_
  rw [HZ.out]
  rintro e w1 ⟨rfl, hb1⟩
  have HB1 : Hid _ := hb1
  clear hb1
  rw [show evH E 0 = Value.nilIface from rfl]
  by_cases h0 : l = 0
  · have hns : ns = [] := List.eq_nil_of_length_eq_zero (by rw [← HL.out]; exact h0)
    have HT2 : Hid (textB k ns = [110, 111, 110, 101]) := by have := HT.out; rwa [if_pos hns] at this
    subst h0
    clear hns
    go_wp2
    go_ret2
    exact ⟨by rw [HT2.out]; rfl, HB1.out⟩
  · have hns : ¬ ns = [] := fun h => h0 (by rw [HL.out, h]; rfl)
    have HT2 : Hid (textB k ns = Lib.join (ns.map (nameB k)) [44]) := by have := HT.out; rwa [if_neg hns] at this
    clear hns HT
    have HM0 : Hid _ := heap_alloc_last w1 (.cells (smW [] l) 9)
    have HB2 : Hid _ := HB1.out.alloc HB1.out.size (.cells (smW [] l) 9)
    have HZ1 : Hid _ := HB1.out.size
    go_wp2
    have e0 : ((l : Int) == 0) = false := by
      rw [beq_eq_false_iff_ne]; omega
    rw [e0]
    clear e0
    go_loopw [29] (fun i wr => ∃ j : Nat, j ≤ l ∧ i = .int .i64 j ∧ Below w.heap.size w wr ∧ wr.heap[w1.heap.size]? = some (.cells (smW (strsV k (ns.take j)) l) 9 (0, 0))) (fun i _ => l - (intOf i).toNat)
    case atStart => exact ⟨0, by omega, rfl, HB2.out, by rw [List.take_zero]; exact HM0.out⟩
    case round =>
      obtain ⟨j, hj, rfl, hb, hm⟩ := hrel
      have HB : Hid _ := hb
      have HM : Hid _ := hm
      clear hb hm
      by_cases hlt : j < l
      · have hin : j < ns.length := by rw [← HL.out]; exact hlt
        obtain ⟨b, off, hab, hbl, hc⟩ := rowI_cell (rowI_below HX.out HB.out) (show j < (natJ8 ns).length by rw [natJ8_len]; exact hin)
        have c1 := hc j (by rw [natJ8_len]; exact hin)
        rw [show (natJ8 ns).getD j 0 = ((ns[j] : Nat) : Int) by simp [natJ8, List.getD, hin]] at c1
        have hx9 := HR.out _ (List.getElem_mem hin)
        have HTK : Hid (ns.take (j + 1) = ns.take j ++ [ns[j]]) := List.take_succ_eq_append_getElem hin
        generalize ns[j] = x at *
        have HTJ : Hid ((strsV k (ns.take j)).length = j) := by show _ = _; rw [strsV_len, List.length_take]; omega
        clear hc
        subst hab
        go_wp2_with fail
        refine Calls.mono (name_ok k r x _ h1 h2 h3 hx9) ?_
        rintro e w4 ⟨rfl, hb4⟩
        have HB4 : Hid _ := HB.out.trans (hb4.mono HB.out.size)
        have hs5 := (hb4.block _ (ltHeap HM.out)).trans HM.out
        have c7 : w4.cell? ⟨w1.heap.size, j, none⟩ = some (.string ⟨#[]⟩) := cellAt hs5 j _ (by have e := smW_next (vs := strsV k (ns.take j)) (r := l) (by rw [HTJ.out]; exact hlt); rwa [HTJ.out] at e)
        have d7 : w4.frozen? ⟨w1.heap.size, j, none⟩ = false := frozen_of_row _ _ _ _ _ hs5
        have z7 := ltHeap hs5
        have HS6 : Hid ((w4.setCell ⟨w1.heap.size, j, none⟩ (.string (strB (nameB k x)))).heap[w1.heap.size]? = some (.cells (smW (strsV k (ns.take (j + 1))) l) 9 (0, 0))) := by
          show _ = _
          rw [heap_setCell_same _ _ _ _ _ _ hs5]
          have e := smW_set (.string (strB (nameB k x))) (vs := strsV k (ns.take j)) (r := l) (by rw [HTJ.out]; exact hlt)
          rw [HTJ.out] at e
          rw [e, HTK.out]
          simp [strsV]
        have HB6 : Hid _ := HB4.out.setCell (p := ⟨w1.heap.size, j, none⟩) HZ1.out (.string (strB (nameB k x)))
        clear hs5 hb4 c1
        go_wp2
        exact ⟨⟨j + 1, by omega, by go_num, HB6.out, HS6.out⟩, by simp [intOf]; omega⟩
      · obtain rfl : j = l := by omega
        have hm := HM.out
        rw [show ns.take j = ns by rw [HL.out, List.take_length]] at hm
        have hz := ltHeap hm
        have hjn := names_join k ns
        have HCJ : Hid _ := join_F w1.heap.size 0 j (ns.map fun h => strB (nameB k h)) (strB [44]) wr (fun q x hq => by
          rw [Nat.zero_add]
          refine cellAt hm q _ (smW_at ?_)
          rw [List.getElem?_map] at hq
          rw [strsV, List.getElem?_map]
          cases hg : ns[q]? with
          | none => rw [hg] at hq; cases hq
          | some y => rw [hg] at hq; cases hq; rfl) hz (by rw [List.length_map, ← HL.out]; omega) (by rw [List.length_map, ← HL.out]; exact Nat.le_refl _) (by rw [hjn, strB_data]; have := HJL.out; omega)
        have HJ2 : Hid (strB (Lib.join ((ns.map fun h => strB (nameB k h)).map (·.data.toList)) (strB [44]).data.toList) = strB (textB k ns)) := by show _ = _; rw [hjn, strB_data, HT2.out]
        clear hm hjn
        rw [HJ2.out] at HCJ
        have HCK : Hid (Calls Tryz.prog 38 #[.slice (some ⟨w1.heap.size, 0, none⟩) j j, .string (strB [44])] wr fun e w' => e = .returned (.string (strB (textB k ns))) ∧ Below wr.heap.size wr w') := by
          have h := HCJ.out
          rw [show (ns.map fun h => strB (nameB k h)).length = j by rw [List.length_map]; exact HL.out.symm] at h
          exact h
        clear HCJ HJ2
        go_wp2_with fail
        refine Calls.mono HCK.out ?_
        rintro e w5 ⟨rfl, hb5⟩
        have HB5 : Hid _ := HB.out.trans (hb5.mono HB.out.size)
        clear hb5
        go_wp2
        go_ret2
        exact ⟨rfl, HB5.out⟩
end Go.Proofs.YtjmbpldkggbdlaaGreatDoor

/- alive of stage 8. -/
namespace Go.Proofs.YtjmbpldkggbdlaaGreatDoor
open Go.RowKit Go.Maps Gf
set_option linter.unusedVariables false
set_option maxRecDepth 20000
theorem textA : textB 2 [0, 5] = [100, 48, 97, 44, 112, 48, 98] := by decide +kernel
theorem rowI_new (w : World) (ns : List Nat) : RowI (w.alloc (.cells (vis (natJ8 ns)) 3)) (some ⟨w.heap.size, 0, none⟩) (natJ8 ns) := rowI_vis (heap_alloc_last w _)
set_option maxHeartbeats 4000000 in
theorem alive8_ok (w : World) (E : Nat → Addr) (hE : ErrsG w E) : Calls Tryz.prog 9 #[] w fun e w' => e = .returned (.bool true) ∧ Below w.heap.size w w' := by
  have HE : Hid (ErrsG w E) := hE
  have HK : Hid (∀ W, Below w.heap.size w W → Calls Tryz.prog 14 #[.int .i64 2, .int .i64 2, .slice (some ⟨W.heap.size, 0, none⟩) 2 2] (W.alloc (.cells #[.int .i64 2, .int .i64 3] 3)) fun e w' => e = .returned (.tuple #[.int .i64 1, .nilIface]) ∧ Below w.heap.size w w') := fun W hb => by
    have hb2 := hb.alloc hb.size (.cells #[.int .i64 2, .int .i64 3] 3)
    have h := kind_legal 2 2 2 2 (some ⟨W.heap.size, 0, none⟩) [2, 3] (W.alloc (.cells #[.int .i64 2, .int .i64 3] 3)) E (errsG_below HE.out hb2).1 (by decide) (by decide) (by decide) rfl (by decide) (rowI_new W [2, 3]) (by decide) (by decide)
    rw [show kindN 2 [2, 3] = 1 by decide] at h
    exact h.mono fun e w' ⟨h1, h2⟩ => ⟨h1, hb2.trans (h2.mono hb2.size)⟩
  have HT : Hid (∀ W, Below w.heap.size w W → Calls Tryz.prog 16 #[.int .i64 2, .int .i64 2, .slice (some ⟨W.heap.size, 0, none⟩) 2 2] (W.alloc (.cells #[.int .i64 0, .int .i64 5] 3)) fun e w' => e = .returned (.tuple #[.string ⟨#[100, 48, 97, 44, 112, 48, 98]⟩, .nilIface]) ∧ Below w.heap.size w w') := fun W hb => by
    have hb2 := hb.alloc hb.size (.cells #[.int .i64 0, .int .i64 5] 3)
    have h := text_legal 2 2 2 2 (some ⟨W.heap.size, 0, none⟩) [0, 5] (W.alloc (.cells #[.int .i64 0, .int .i64 5] 3)) E (errsG_below HE.out hb2).1 (by decide) (by decide) (by decide) rfl (by decide) (rowI_new W [0, 5]) (by decide) (by decide)
    rw [textA] at h
    exact h.mono fun e w' ⟨h1, h2⟩ => ⟨h1, hb2.trans (h2.mono hb2.size)⟩
  have HG : Hid (∀ W, Below w.heap.size w W → Calls Tryz.prog 15 #[.int .i64 2, .int .i64 2, .slice (some ⟨W.heap.size, 0, none⟩) 5 5] (W.alloc (.cells #[.int .i64 0, .int .i64 1, .int .i64 2, .int .i64 3, .int .i64 4] 3)) fun e w' => e = .returned (.tuple #[.bool true, .nilIface]) ∧ Below w.heap.size w w') := fun W hb => by
    have hb2 := hb.alloc hb.size (.cells #[.int .i64 0, .int .i64 1, .int .i64 2, .int .i64 3, .int .i64 4] 3)
    have h := gone_legal 2 2 5 5 (some ⟨W.heap.size, 0, none⟩) [0, 1, 2, 3, 4] (W.alloc (.cells #[.int .i64 0, .int .i64 1, .int .i64 2, .int .i64 3, .int .i64 4] 3)) E (errsG_below HE.out hb2) (by decide) (by decide) (by decide) rfl (by decide) (rowI_new W [0, 1, 2, 3, 4]) (by decide) (by decide)
    rw [gone_many (by decide) (by decide) (by decide)] at h
    exact h.mono fun e w' ⟨h1, h2⟩ => ⟨h1, hb2.trans (h2.mono hb2.size)⟩
  clear hE
  go_enter Tryz.func9, Tryz.ntmps9
  go_wp2_with fail
  refine Calls.mono (HK.out w (Below.refl _ _)) ?_
  rintro e w1 ⟨rfl, hb1⟩
  have HB1 : Hid _ := hb1
  clear hb1
  go_wp2_with fail
  refine Calls.mono (HT.out w1 HB1.out) ?_
  rintro e w2 ⟨rfl, hb2⟩
  have HB2 : Hid _ := hb2
  clear hb2
  go_wp2_with fail
  refine Calls.mono (HG.out w2 HB2.out) ?_
  rintro e w3 ⟨rfl, hb3⟩
  have HB3 : Hid _ := hb3
  clear hb3
  go_wp2
  go_ret
  exact ⟨rfl, HB3.out⟩
end Go.Proofs.YtjmbpldkggbdlaaGreatDoor

/- The errors that the statements of stage 8 lay, by number; short lists in memory. -/
namespace Go.Proofs.YtjmbpldkggbdlaaGreatDoor
open Go.RowKit Gf
set_option linter.unusedVariables false
set_option maxRecDepth 20000
def gsDam : List Nat := [0, 2, 1, 3]
def ofDam (es : List Addr) : Nat → Addr := fun n => es.getD (if n = 1 then 1 else if n = 3 then 2 else if n = 11 then 3 else 0) ⟨0, 0, none⟩
theorem errsG_of {w : World} {es : List Addr} (h : ErrsAt w gsDam es) : ErrsG w (ofDam es) := by
  have hl : es.length = 4 := h.1.symm
  match es, hl with
  | [a, b, c, d], _ => exact ⟨⟨(h.2.2 0 _ a rfl rfl).1, (h.2.2 2 _ c rfl rfl).1⟩, (h.2.2 1 _ b rfl rfl).1, (h.2.2 3 _ d rfl rfl).1⟩
theorem errsG_other {w : World} {es : List Addr} (h : ErrsAt w gsDam es) : ofDam es 0 ≠ ofDam es 3 := by
  have hl : es.length = 4 := h.1.symm
  have hn := h.2.1
  intro h9
  match es, hl with
  | [a, b, c, d], _ =>
    have e1 : a = c := h9
    subst e1
    simp at hn
theorem rowI_list {w : World} {g o : Nat} {cs : Array Value} {t : TypeId} {fr : Nat × Nat} {ns : List Int} (h : w.heap[g]? = some (.cells cs t fr)) (hn : ∀ j n, ns[j]? = some n → cs[o + j]? = some (.int .i64 n)) : RowI w (some ⟨g, o, none⟩) ns :=
  .inr ⟨g, o, rfl, fun j n hj => cellAt h (o + j) _ (hn j n hj)⟩
theorem rowI_pair {w : World} {g a b : Nat} {x y : Int} {t : TypeId} {fr : Nat × Nat} (h : w.heap[g]? = some (.cells #[.int .i64 x, .int .i64 y] t fr)) (hx : x = a) (hy : y = b) : RowI w (some ⟨g, 0, none⟩) (natJ8 [a, b]) ∧ RowI w (some ⟨g, 1, none⟩) (natJ8 [b]) := by
  subst hx hy
  refine ⟨rowI_list h fun j n hj => ?_, rowI_list h fun j n hj => ?_⟩
  · match j, hj with
    | 0, hj => cases hj; rfl
    | 1, hj => cases hj; rfl
    | j + 2, hj => cases hj
  · match j, hj with
    | 0, hj => cases hj; rfl
    | j + 1, hj => cases hj
theorem kind_two {k j : Nat} : kindN k [2 * j, 2 * j + 1] = if j < k then 1 else 2 := by
  unfold kindN
  rw [if_neg (by simp)]
  by_cases h : j < k
  · rw [if_pos h, if_pos ⟨j, h, rfl⟩]
  · rw [if_neg h, if_neg]
    rintro ⟨q, hq, e⟩
    simp at e
    omega
theorem kind_single {k x : Nat} : kindN k [x] = 2 := by
  unfold kindN
  rw [if_neg (by simp), if_neg]
  rintro ⟨q, hq, e⟩
  simp at e
theorem kind_nil {k : Nat} : kindN k [] = 0 := by unfold kindN; rw [if_pos rfl]
end Go.Proofs.YtjmbpldkggbdlaaGreatDoor

/- The document's own Good, In, Left and Kind of lost halves. -/
namespace Go.Proofs.YtjmbpldkggbdlaaGreatDoor
open Go.RowKit Go.Maps Gf
set_option linter.unusedVariables false
set_option maxRecDepth 20000
theorem goodH_step2 {n i : Nat} {xs : List Int} {x y : Int} (h : i < xs.length) (hx : xs[i] = x) (hy : xs.getD (i - 1) 0 = y) (hg : GoodH n (xs.take i)) : GoodH n (xs.take (i + 1)) ↔ (0 ≤ x ∧ x < n) ∧ (i = 0 ∨ y < x) := by
  rw [goodH_step h hg, hx]
  have hl : (xs.take i).length = i := by rw [List.length_take]; omega
  have e1 : xs.take i = [] ↔ i = 0 := by rw [← List.length_eq_zero_iff, hl]
  by_cases h0 : i = 0
  · simp [h0]
  · have e2 : (xs.take i).getD (i - 1) 0 = y := by
      rw [← hy, List.getD, List.getElem?_take_of_lt (by omega), ← List.getD]
    rw [hl, e2, e1]
theorem goodH_full {n i : Nat} {xs : List Int} (h : ¬ GoodH n (xs.take (i + 1))) : ¬ GoodH n xs := fun h2 => h (goodH_take h2 _)
noncomputable def goodB (n : Nat) (xs : List Int) : Bool := @decide (GoodH n xs) (Classical.propDecidable _)
theorem goodB_yes {n : Nat} {xs : List Int} (h : GoodH n xs) : goodB n xs = true := @decide_eq_true _ (Classical.propDecidable _) h
theorem goodB_no {n : Nat} {xs : List Int} (h : ¬ GoodH n xs) : goodB n xs = false := @decide_eq_false _ (Classical.propDecidable _) h
set_option maxHeartbeats 2000000 in
theorem rgood_F (k r l cap : Nat) (a : Option Addr) (xs : List Int) (w : World) (h3 : k + r ≤ 16) (hl : l = xs.length) (hl9 : l ≤ 4611686018427387904) (hcap : l ≤ cap) (hX : RowI w a xs) :
    Calls Tryz.prog 19 #[.int .i64 k, .int .i64 r, .slice a l cap] w fun e w' => e = .returned (.bool (goodB (2 * (k + r)) xs)) ∧ w = w' := by
  obtain ⟨d, hd⟩ : ∃ d, d = goodB (2 * (k + r)) xs := ⟨_, rfl⟩
  have HY : Hid (GoodH (2 * (k + r)) xs → d = true) := fun h => hd.trans (goodB_yes h)
  have HN0 : Hid (¬ GoodH (2 * (k + r)) xs → d = false) := fun h => hd.trans (goodB_no h)
  rw [← hd]
  clear hd
  have HL : Hid (l = xs.length) := hl
  have HX : Hid (RowI w a xs) := hX
  clear hl hX
  go_enter Tryz.func19, Tryz.ntmps19
  go_wp2
  go_loopw [11] (fun i wr => ∃ j : Nat, j ≤ l ∧ i = .int .i64 j ∧ wr = w ∧ GoodH (2 * (k + r)) (xs.take j)) (fun i _ => l - (intOf i).toNat)
  case atStart => exact ⟨0, by omega, rfl, rfl, by rw [List.take_zero]; exact goodH_nil _⟩
  case round =>
    obtain ⟨j, hj, rfl, rfl, hg⟩ := hrel
    have HG : Hid (GoodH (2 * (k + r)) (xs.take j)) := hg
    clear hg
    by_cases hlt : j < l
    · have hjx : j < xs.length := by rw [← HL.out]; exact hlt
      obtain ⟨b, off, hab, hbl, hc⟩ := rowI_cell HX.out hjx
      have c1 := hc j hjx
      have c0 := hc (j - 1) (by omega)
      rw [show xs.getD j 0 = xs[j] by simp [List.getD, hjx]] at c1
      obtain ⟨x, hx⟩ : ∃ x, xs[j] = x := ⟨_, rfl⟩
      obtain ⟨y, hy⟩ : ∃ y, xs.getD (j - 1) 0 = y := ⟨_, rfl⟩
      have HS : Hid _ := goodH_step2 (n := 2 * (k + r)) hjx hx hy HG.out
      have HF : Hid (¬ GoodH (2 * (k + r)) (xs.take (j + 1)) → ¬ GoodH (2 * (k + r)) xs) := fun h => goodH_full h
      rw [hx] at c1
      rw [hy] at c0
      clear hx hy hc hjx
      subst hab
      by_cases n1 : x < 0
      · have HB : Hid _ := HF.out (fun h => by have := (HS.out.1 h).1; omega)
        clear HS HF c0
        go_wp2
        go_ret
        exact ⟨by rw [HN0.out HB.out]; rfl, rfl⟩
      by_cases n2 : 2 * ((k : Int) + r) ≤ x
      · have HB : Hid _ := HF.out (fun h => by have := (HS.out.1 h).1; omega)
        clear HS HF c0
        go_wp2
        go_ret
        exact ⟨by rw [HN0.out HB.out]; rfl, rfl⟩
      by_cases n3 : j = 0
      · have HN : Hid _ := HS.out.2 ⟨by omega, .inl n3⟩
        clear HS HF c0
        subst n3
        rw [Nat.add_zero] at c1
        go_wp2
        exact ⟨⟨1, by omega, by go_num, by first | rfl | trivial, HN.out⟩, by simp [intOf]; omega⟩
      obtain ⟨q, rfl⟩ : ∃ q, j = q + 1 := ⟨j - 1, by omega⟩
      rw [Nat.add_sub_cancel] at c0
      by_cases n4 : x ≤ y
      · have HB : Hid _ := HF.out (fun h => by have := (HS.out.1 h).2; omega)
        clear HS HF
        go_wp2
        go_ret
        exact ⟨by rw [HN0.out HB.out]; rfl, rfl⟩
      · have HN : Hid _ := HS.out.2 ⟨by omega, .inr (by omega)⟩
        clear HS HF
        go_wp2
        exact ⟨⟨q + 1 + 1, by omega, by go_num, by first | rfl | trivial, HN.out⟩, by simp [intOf]; omega⟩
    · obtain rfl : j = l := by omega
      have HF : Hid (GoodH (2 * (k + r)) xs) := by have := HG.out; rwa [HL.out, List.take_length] at this
      go_wp2
      go_ret
      exact ⟨by rw [HY.out HF.out]; rfl, rfl⟩
set_option maxHeartbeats 1000000 in
theorem rin_F (l cap : Nat) (a : Option Addr) (ns : List Int) (x : Int) (w : World) (hl : l = ns.length) (hl9 : l ≤ 4611686018427387904) (hX : RowI w a ns) :
    Calls Tryz.prog 20 #[.slice a l cap, .int .i64 x] w fun e w' => e = .returned (.bool (decide (x ∈ ns))) ∧ w = w' := by
  have HL : Hid (l = ns.length) := hl
  have HX : Hid (RowI w a ns) := hX
  obtain ⟨d, hd⟩ : ∃ d, d = decide (x ∈ ns) := ⟨_, rfl⟩
  have HD : Hid (d = decide (x ∈ ns)) := hd
  rw [← hd]
  clear hl hX hd
  go_enter Tryz.func20, Tryz.ntmps20
  go_wp2
  go_loopw [9] (fun i wr => ∃ j : Nat, j ≤ l ∧ i = .int .i64 j ∧ wr = w ∧ (∀ q, q < j → ns[q]? ≠ some x)) (fun i _ => l - (intOf i).toNat)
  case atStart => exact ⟨0, by omega, rfl, rfl, fun q h => by omega⟩
  case round =>
    obtain ⟨j, hj, rfl, rfl, hq⟩ := hrel
    have HQ : Hid (∀ q, q < j → ns[q]? ≠ some x) := hq
    clear hq
    by_cases hlt : j < l
    · obtain ⟨b, off, rfl, hb, hc⟩ := rowI_cell HX.out (show j < ns.length by rw [← HL.out]; exact hlt)
      have c1 := hc j (by rw [← HL.out]; exact hlt)
      obtain ⟨y, hy⟩ : ∃ y, y = ns.getD j 0 := ⟨_, rfl⟩
      rw [← hy] at c1
      have HY : Hid (ns[j]? = some y) := by
        show _ = _
        rw [hy, List.getD_eq_getElem?_getD, List.getElem?_eq_getElem (by rw [← HL.out]; exact hlt)]; rfl
      clear hc hy
      by_cases he : y = x
      · have he' : (y == x) = true := by simp [he]
        have HT : Hid (d = true) := by show _ = _; rw [HD.out]; exact decide_eq_true (by rw [← he]; exact List.mem_of_getElem? HY.out)
        clear he HY HD HQ
        go_wp2
        go_ret
        exact ⟨by rw [HT.out]; rfl, rfl⟩
      · have he' : (y == x) = false := by simp [he]
        have HE : Hid (¬ y = x) := he
        clear he
        go_wp2
        refine ⟨⟨j + 1, by omega, by go_num, by first | rfl | trivial, fun q hq => ?_⟩, by simp [intOf]; omega⟩
        by_cases hqj : q < j
        · exact HQ.out q hqj
        · obtain rfl : q = j := by omega
          rw [HY.out]
          exact fun h => HE.out (Option.some.inj h)
    · obtain rfl : j = l := by omega
      have HT : Hid (d = false) := by
        show _ = _
        rw [HD.out]
        refine decide_eq_false fun h => ?_
        obtain ⟨q, hq⟩ := List.mem_iff_getElem?.1 h
        exact absurd hq (HQ.out q (by have := (List.getElem?_eq_some_iff.1 hq).1; rw [HL.out]; exact this))
      clear HD HQ
      go_wp2
      go_ret
      exact ⟨by rw [HT.out]; rfl, rfl⟩
theorem leftL_step (m : Nat) (ns : List Nat) : leftL (m + 1) ns = leftL m ns ++ (if m ∈ ns then [] else [m]) := by
  rw [leftL, List.range_succ, List.filter_append, ← leftL]
  congr 1
  by_cases h : m ∈ ns <;> simp [h]
set_option maxHeartbeats 4000000 in
theorem rleft_F (k r l cap : Nat) (a : Option Addr) (ns : List Nat) (w : World) (h3 : k + r ≤ 16) (hl : l = ns.length) (hl9 : l ≤ 4611686018427387904) (hX : RowI w a (natJ8 ns)) :
    Calls Tryz.prog 22 #[.int .i64 k, .int .i64 r, .slice a l cap] w fun e w' => ∃ v, e = .returned v ∧ ListOf w' w.heap.size v (leftL (2 * (k + r)) ns) ∧ Below w.heap.size w w' := by
  have HL : Hid (l = ns.length) := hl
  have HX : Hid (RowI w a (natJ8 ns)) := hX
  obtain ⟨n, hn⟩ : ∃ n, n = 2 * (k + r) := ⟨_, rfl⟩
  rw [← hn]
  have en : (2 : Int) * ((k : Int) + r) = n := by omega
  have hn32 : n ≤ 32 := by omega
  have HN : Hid _ := hn
  clear hl hX hn
  go_enter Tryz.func22, Tryz.ntmps22
  go_wp2
  have HO0 : Hid ((w.alloc (.cells #[] 3)).ownsRow w.heap.size 3 1 (.slice (some ⟨w.heap.size, 0, none⟩) 0 0) 0 ((natJ8 (leftL 0 ns)).map (Value.int .i64))) := ⟨rfl, .inr ⟨w.heap.size, 0, #[], rfl, Nat.le_refl _, heap_alloc_last _ _, Nat.le_refl _, by decide, rfl, rfl⟩⟩
  go_loopw [8, 7] (fun i v wr => ∃ j : Nat, j ≤ n ∧ i = .int .i64 j ∧ (∃ av cv, v = .slice av (leftL j ns).length cv) ∧ Below w.heap.size w wr ∧ wr.ownsRow w.heap.size 3 1 v (leftL j ns).length ((natJ8 (leftL j ns)).map (Value.int .i64))) (fun i _ _ => n - (intOf i).toNat)
  case atStart => exact ⟨0, by omega, rfl, ⟨_, _, rfl⟩, (Below.refl _ _).alloc (Nat.le_refl _) _, HO0.out⟩
  case round =>
    obtain ⟨j, hj, rfl, ⟨av, cv, rfl⟩, hb, ho⟩ := hrel
    have HB : Hid _ := hb
    clear hb
    by_cases hlt : j < n
    · have hs := leftL_step j ns
      have HWL : Hid _ := leftL_le j ns
      have HIN : Hid (decide ((j : Int) ∈ natJ8 ns) = decide (j ∈ ns)) := by show _ = _; simp only [natJ8_mem]
      have hlt2 : (j : Int) < 2 * ((k : Int) + r) := by omega
      by_cases q1 : j ∈ ns
      · rw [if_pos q1, List.append_nil] at hs
        have HS : Hid _ := hs
        have HO : Hid (wr.ownsRow w.heap.size 3 1 (.slice av (leftL j ns).length cv) (leftL j ns).length ((natJ8 (leftL j ns)).map (Value.int .i64))) := ho
        have HQ : Hid (decide (j ∈ ns) = true) := decide_eq_true q1
        clear hs ho q1
        go_wp2_with fail
        refine Calls.mono (rin_F l cap a (natJ8 ns) j _ (by rw [natJ8_len]; exact HL.out) hl9 (rowI_below HX.out HB.out)) ?_
        rw [HIN.out, HQ.out]
        rintro e w4 ⟨rfl, rfl⟩
        go_wp2
        exact ⟨⟨j + 1, by omega, by go_num, ⟨av, cv, by rw [HS.out]⟩, HB.out, by rw [HS.out]; exact HO.out⟩, by simp [intOf]; omega⟩
      · rw [if_neg q1] at hs
        have hb5 := HB.out.alloc HB.out.size (.cells #[.int .i64 j] 3)
        have ho5 := ho.alloc (.cells #[.int .i64 j] 3)
        obtain ⟨g2, cap2, w6, hrun, ho2, hgr, hor, hlt2⟩ := appendI (b := wr.heap.size) (c := 1) (x := (j : Int)) 22 ho5 (cellAt (heap_alloc_last wr (.cells #[.int .i64 j] 3)) 0 _ rfl) (by have := HWL.out; omega) (by have := HB.out.size; simp; omega)
        have hb6 := below_own hb5 ho5 hgr (by have := HB.out.size; simp; omega)
        have hn6 : (leftL (j + 1) ns).length = (leftL j ns).length + 1 := by rw [hs]; simp
        have hv6 : (natJ8 (leftL j ns)).map (Value.int .i64) ++ [.int .i64 (j : Int)] = (natJ8 (leftL (j + 1) ns)).map (Value.int .i64) := by rw [hs]; simp [natJ8]
        rw [hv6] at ho2
        have HRun : Hid _ := hrun
        have HO2 : Hid (w6.ownsRow w.heap.size 3 1 (.slice (some ⟨g2, 0, none⟩) ((leftL j ns).length + 1) cap2) ((leftL j ns).length + 1) ((natJ8 (leftL (j + 1) ns)).map (Value.int .i64))) := ho2
        have HB6 : Hid _ := hb6
        have HN6 : Hid _ := hn6
        have HQ : Hid (decide (j ∈ ns) = false) := decide_eq_false q1
        clear hs ho q1 hb5 ho5 hrun ho2 hgr hor hlt2 hb6 hn6 hv6
        go_wp2_with fail
        refine Calls.mono (rin_F l cap a (natJ8 ns) j _ (by rw [natJ8_len]; exact HL.out) hl9 (rowI_below HX.out HB.out)) ?_
        rw [HIN.out, HQ.out]
        rintro e w4 ⟨rfl, rfl⟩
        go_wp2_with (at_builtin; refine wpList_append_run rfl _ _ 22 rfl _ _ _ _ rfl rfl HRun.out ?_)
        exact ⟨⟨j + 1, by omega, by go_num, ⟨_, _, by rw [HN6.out]⟩, HB6.out, by rw [HN6.out]; exact HO2.out⟩, by simp [intOf]; omega⟩
    · obtain rfl : j = n := by omega
      have HV : Hid (ListOf wr w.heap.size (.slice av (leftL j ns).length cv) (leftL j ns)) := listOf_own (Nat.le_refl _) rfl ho
      have hlt2 : ¬ (j : Int) < 2 * ((k : Int) + r) := by omega
      clear ho
      go_wp2
      go_ret
      exact ⟨_, rfl, HV.out, HB.out⟩
end Go.Proofs.YtjmbpldkggbdlaaGreatDoor

/- The walk of DamageMore: at all numbers and lists. -/
namespace Go.Proofs.YtjmbpldkggbdlaaGreatDoor
open Go.RowKit Gf
set_option linter.unusedVariables false
set_option maxRecDepth 20000
/-- one more is lost -/
def wideL (n more : Nat) (ns : List Nat) : List Nat := (List.range n).filter fun h => decide (h = more ∨ h ∈ ns)
theorem mem_wideL {n more h : Nat} {ns : List Nat} : h ∈ wideL n more ns ↔ h < n ∧ (h = more ∨ h ∈ ns) := by simp [wideL]
theorem wideL_up (n more : Nat) (ns : List Nat) : (wideL n more ns).Pairwise (· < ·) := List.Pairwise.filter _ List.pairwise_lt_range
theorem wideL_succ (n more : Nat) (ns : List Nat) : wideL (n + 1) more ns = wideL n more ns ++ (if n = more ∨ n ∈ ns then [n] else []) := by
  rw [wideL, List.range_succ, List.filter_append, ← wideL]
  congr 1
  by_cases h : n = more ∨ n ∈ ns <;> simp [h]
theorem wideL_le (n more : Nat) (ns : List Nat) : (wideL n more ns).length ≤ n := by
  have := List.length_filter_le (fun h => decide (h = more ∨ h ∈ ns)) (List.range n)
  rwa [List.length_range] at this
/-- the shards touched among the first halves -/
def touchN (j : Nat) (ns : List Nat) : Nat := (touchedL (j / 2) ns).length
theorem touch_even {j q : Nat} {ns : List Nat} (h : j = 2 * q) : touchN (j + 1) ns = touchN j ns := by
  unfold touchN
  rw [show (j + 1) / 2 = j / 2 by omega]
theorem touch_odd {j q : Nat} {ns : List Nat} (h : j = 2 * q + 1) : touchN (j + 1) ns = touchN j ns + (if 2 * q ∈ ns ∨ 2 * q + 1 ∈ ns then 1 else 0) := by
  unfold touchN
  rw [show (j + 1) / 2 = q + 1 by omega, show j / 2 = q by omega, touchedL_succ]
theorem touch_le {j : Nat} {ns : List Nat} : touchN j ns ≤ j := by
  unfold touchN
  have := List.length_filter_le (fun s => decide (2 * s ∈ ns) || decide (2 * s + 1 ∈ ns)) (List.range (j / 2))
  rw [List.length_range] at this
  exact Nat.le_trans this (Nat.div_le_self _ _)
theorem touch_full {m : Nat} {ns : List Nat} : touchN (2 * m) ns = (touchedL m ns).length := by unfold touchN; rw [Nat.mul_div_cancel_left _ (by omega)]
theorem rem_in {x : Int} {n : Nat} (h : 0 < n) (h9 : n ≤ 1000) (hx0 : -9223372036854775808 ≤ x) (hx1 : x ≤ 9223372036854775807) : ∃ m : Nat, m < n ∧ (x.tmod n + n).tmod n = m := by
  have a1 := Int.tmod_lt_of_pos x (show (0 : Int) < n by omega)
  have a2 : -(n : Int) < x.tmod n := by
    have := Int.lt_tmod_of_pos x (show (0 : Int) < n by omega)
    exact this
  have b1 := Int.tmod_lt_of_pos (x.tmod n + n) (show (0 : Int) < n by omega)
  have b2 := Int.tmod_nonneg (n : Int) (show 0 ≤ x.tmod n + n by omega)
  exact ⟨((x.tmod n + n).tmod n).toNat, by omega, by omega⟩
theorem wide_in {n m x : Nat} {ns : List Nat} (hr : ∀ x ∈ ns, x < n) (h : x ∈ ns) : x ∈ wideL n m ns := mem_wideL.2 ⟨hr x h, .inr h⟩
set_option maxHeartbeats 16000000 in
theorem more_legal (k r l cap : Nat) (x : Int) (a : Option Addr) (xs : List Int) (w : World) (E : Nat → Addr) (hE : ErrsG w E) (h1 : 1 ≤ k) (h2 : 2 ≤ r) (h3 : k + r ≤ 16) (hx0 : -9223372036854775808 ≤ x) (hx1 : x ≤ 9223372036854775807)
    (hl : l = xs.length) (hl9 : l ≤ 140737488355328) (hcap : l ≤ cap) (hX : RowI w a xs) :
    Calls Tryz.prog 6 #[.agg #[.int .i64 k, .int .i64 r, .int .i64 x, .slice a l cap]] w fun e w' => e = .returned (.bool true) ∧ Below w.heap.size w w' := by
  have HE : Hid (ErrsG w E) := hE
  have HX : Hid (RowI w a xs) := hX
  have HL : Hid (l = xs.length) := hl
  have HB0 : Hid (Below w.heap.size w (w.alloc (.cells #[.int .i64 k, .int .i64 r, .int .i64 x, .slice a l cap] 48))) := (Below.refl _ _).alloc (Nat.le_refl _) _
  have c0 : Hid ((w.alloc (.cells #[.int .i64 k, .int .i64 r, .int .i64 x, .slice a l cap] 48)).heap[w.heap.size]? = some (.cells #[.int .i64 k, .int .i64 r, .int .i64 x, .slice a l cap] 48 (0, 0))) := heap_alloc_last _ _
  have k0 := cellAt c0.out 0 _ rfl
  have k1 := cellAt c0.out 1 _ rfl
  have k2 := cellAt c0.out 2 _ rfl
  have k3 := cellAt c0.out 3 _ rfl
  have lt0 := ltHeap c0.out
  clear hE hX hl
  go_enter Tryz.func6, Tryz.ntmps6
  go_wp2
  go_region
  have HB0' : Hid _ := HB0.out.drew
  clear k0 k1 k2 k3 lt0 c0
  go_wp2_with fail
  refine Calls.mono (alive8_ok _ E (errsG_below HE.out HB0'.out)) ?_
  rintro e w1 ⟨rfl, hb1⟩
  have HB1 : Hid (Below w.heap.size w w1) := HB0'.out.trans (hb1.mono HB0'.out.size)
  clear hb1
  go_wp2_with fail
  refine Calls.mono (legal_yes k r _ h1 h2 h3) ?_
  rintro e w2 ⟨rfl, rfl⟩
  go_wp2_with fail
  refine Calls.mono (rgood_F k r l cap a xs _ h3 HL.out (by omega) hcap (rowI_below HX.out HB1.out)) ?_
  by_cases hg : GoodH (2 * (k + r)) xs
  · rw [goodB_yes hg]
    rintro e w3 ⟨rfl, rfl⟩
    obtain ⟨ns, rfl, hu, hr⟩ := goodH_nats hg
    rw [natJ8_len] at HL
    have HU : Hid _ := hu
    obtain ⟨n, hn⟩ : ∃ n, n = 2 * (k + r) := ⟨_, rfl⟩
    rw [← hn] at hr
    have HR : Hid (∀ x ∈ ns, x < n) := hr
    have HN : Hid (n = 2 * (k + r)) := hn
    obtain ⟨mo, hmo, em⟩ := rem_in (x := x) (n := n) (by omega) (by omega) hx0 hx1
    have en : (2 : Int) * ((k : Int) + (r : Int)) = (n : Int) := by omega
    have a1 := Int.tmod_lt_of_pos x (show (0 : Int) < n by omega)
    have a2 := Int.lt_tmod_of_pos x (show (0 : Int) < n by omega)
    have hn32 : n ≤ 32 := by omega
    have hn0 : 1 ≤ n := by omega
    clear hg hu hr hn
    go_wp2
    clear en em a1 a2
    have HO0 : Hid ((w1.alloc (.cells #[] 3)).ownsRow w1.heap.size 3 1 (.slice (some ⟨w1.heap.size, 0, none⟩) 0 0) 0 ((natJ8 (wideL 0 mo ns)).map (Value.int .i64))) := ⟨rfl, .inr ⟨w1.heap.size, 0, #[], rfl, Nat.le_refl _, heap_alloc_last _ _, Nat.le_refl _, by decide, rfl, rfl⟩⟩
    go_loopw [10, 8, 9] (fun i v c wr => ∃ j : Nat, j ≤ n ∧ i = .int .i64 j ∧ (∃ av cv, v = .slice av (wideL j mo ns).length cv) ∧ c = .int .i64 (touchN j ns : Nat) ∧ Below w1.heap.size w1 wr ∧ wr.ownsRow w1.heap.size 3 1 v (wideL j mo ns).length ((natJ8 (wideL j mo ns)).map (Value.int .i64))) (fun i _ _ _ => n - (intOf i).toNat)
    case atStart => exact ⟨0, by omega, rfl, ⟨_, _, rfl⟩, rfl, (Below.refl _ _).alloc (Nat.le_refl _) _, HO0.out⟩
    case round =>
      obtain ⟨j, hj, rfl, ⟨av, cv, rfl⟩, rfl, hb, ho⟩ := hrel
      have HB : Hid _ := hb
      have HBW : Hid _ := HB1.out.trans (HB.out.mono HB1.out.size)
      clear hb
      by_cases hlt : j < n
      · have HWL : Hid _ := wideL_le j mo ns
        have htl := touch_le (j := j) (ns := ns)
        have HI : Hid (decide ((j : Int) ∈ natJ8 ns) = decide (j ∈ ns)) := by show _ = _; simp only [natJ8_mem]
        by_cases jm : j = mo
        · have HJM : Hid (j = mo) := jm
          clear jm
          by_cases jn : j ∈ ns
          · rw [decide_eq_true jn] at HI
            have HJN : Hid (j ∈ ns) := jn
            clear jn
            rcases Nat.mod_two_eq_zero_or_one j with h2 | h2
            · have HQ : Hid (j = 2 * (j / 2)) := by show j = _; omega
              generalize j / 2 = q at HQ
              have hs : wideL (j + 1) mo ns = wideL j mo ns ++ [j] := by rw [wideL_succ, if_pos (.inl HJM.out)]
              have hb5 := HB.out.alloc HB.out.size (.cells #[.int .i64 j] 3)
              have ho5 := ho.alloc (.cells #[.int .i64 j] 3)
              obtain ⟨g2, cap2, w6, hrun, ho2, hgr, hor, hlt9⟩ := appendI (b := wr.heap.size) (c := 1) (x := (j : Int)) 22 ho5 (cellAt (heap_alloc_last wr (.cells #[.int .i64 j] 3)) 0 _ rfl) (by have := HWL.out; omega) (by have := HB.out.size; simp; omega)
              have hb6 := below_own hb5 ho5 hgr (by have := HB.out.size; simp; omega)
              have hn6 : (wideL (j + 1) mo ns).length = (wideL j mo ns).length + 1 := by rw [hs]; simp
              have hv6 : (natJ8 (wideL j mo ns)).map (Value.int .i64) ++ [.int .i64 (j : Int)] = (natJ8 (wideL (j + 1) mo ns)).map (Value.int .i64) := by rw [hs]; simp [natJ8]
              rw [hv6] at ho2
              have HRun : Hid _ := hrun
              have HO2 : Hid (w6.ownsRow w1.heap.size 3 1 (.slice (some ⟨g2, 0, none⟩) ((wideL j mo ns).length + 1) cap2) ((wideL j mo ns).length + 1) ((natJ8 (wideL (j + 1) mo ns)).map (Value.int .i64))) := ho2
              have HB6 : Hid _ := hb6
              have HBX : Hid _ := HB1.out.trans (HB6.out.mono HB1.out.size)
              have HN6 : Hid _ := hn6
              clear hs ho hb5 ho5 hrun ho2 hgr hor hlt9 hb6 hn6 hv6
              have HTN : Hid _ := touch_even (ns := ns) HQ.out
              have hjm : ((j : Int) == (mo : Int)) = true := by rw [beq_iff_eq]; have := HJM.out; omega
              have hpar : (j : Int) % 2 = 0 := by have := HQ.out; omega
              go_wp2_with (at_builtin; refine wpList_append_run rfl _ _ 22 rfl _ _ _ _ rfl rfl HRun.out ?_)
              exact ⟨⟨j + 1, by omega, by go_num, ⟨_, _, by rw [HN6.out]⟩, by first | (rw [HTN.out]; done) | (rw [HTN.out]; go_num), HB6.out, by rw [HN6.out]; exact HO2.out⟩, by simp [intOf]; omega⟩
            · have HQ : Hid (j = 2 * (j / 2) + 1) := by show j = _; omega
              generalize j / 2 = q at HQ
              have hs : wideL (j + 1) mo ns = wideL j mo ns ++ [j] := by rw [wideL_succ, if_pos (.inl HJM.out)]
              have hb5 := HB.out.alloc HB.out.size (.cells #[.int .i64 j] 3)
              have ho5 := ho.alloc (.cells #[.int .i64 j] 3)
              obtain ⟨g2, cap2, w6, hrun, ho2, hgr, hor, hlt9⟩ := appendI (b := wr.heap.size) (c := 1) (x := (j : Int)) 22 ho5 (cellAt (heap_alloc_last wr (.cells #[.int .i64 j] 3)) 0 _ rfl) (by have := HWL.out; omega) (by have := HB.out.size; simp; omega)
              have hb6 := below_own hb5 ho5 hgr (by have := HB.out.size; simp; omega)
              have hn6 : (wideL (j + 1) mo ns).length = (wideL j mo ns).length + 1 := by rw [hs]; simp
              have hv6 : (natJ8 (wideL j mo ns)).map (Value.int .i64) ++ [.int .i64 (j : Int)] = (natJ8 (wideL (j + 1) mo ns)).map (Value.int .i64) := by rw [hs]; simp [natJ8]
              rw [hv6] at ho2
              have HRun : Hid _ := hrun
              have HO2 : Hid (w6.ownsRow w1.heap.size 3 1 (.slice (some ⟨g2, 0, none⟩) ((wideL j mo ns).length + 1) cap2) ((wideL j mo ns).length + 1) ((natJ8 (wideL (j + 1) mo ns)).map (Value.int .i64))) := ho2
              have HB6 : Hid _ := hb6
              have HBX : Hid _ := HB1.out.trans (HB6.out.mono HB1.out.size)
              have HN6 : Hid _ := hn6
              clear hs ho hb5 ho5 hrun ho2 hgr hor hlt9 hb6 hn6 hv6
              have HTN : Hid _ := touch_odd (ns := ns) HQ.out
              rw [if_pos (.inr (HQ.out ▸ HJN.out))] at HTN
              have hjm : ((j : Int) == (mo : Int)) = true := by rw [beq_iff_eq]; have := HJM.out; omega
              have hpar : (j : Int) % 2 = 1 := by have := HQ.out; omega
              go_wp2_with (first | (at_builtin; refine wpList_append_run rfl _ _ 22 rfl _ _ _ _ rfl rfl HRun.out ?_) | fail)
              refine Calls.mono (rin_F l cap a (natJ8 ns) ((j : Int)) _ (by rw [natJ8_len]; exact HL.out) (by omega) (rowI_below HX.out HBX.out)) ?_
              rw [HI.out]
              rintro e w7 ⟨rfl, rfl⟩
              go_wp2
              exact ⟨⟨j + 1, by omega, by go_num, ⟨_, _, by rw [HN6.out]⟩, by first | (rw [HTN.out]; done) | (rw [HTN.out]; go_num), HB6.out, by rw [HN6.out]; exact HO2.out⟩, by simp [intOf]; omega⟩
          · rw [decide_eq_false jn] at HI
            have HJN : Hid (¬ j ∈ ns) := jn
            clear jn
            rcases Nat.mod_two_eq_zero_or_one j with h2 | h2
            · have HQ : Hid (j = 2 * (j / 2)) := by show j = _; omega
              generalize j / 2 = q at HQ
              have hs : wideL (j + 1) mo ns = wideL j mo ns ++ [j] := by rw [wideL_succ, if_pos (.inl HJM.out)]
              have hb5 := HB.out.alloc HB.out.size (.cells #[.int .i64 j] 3)
              have ho5 := ho.alloc (.cells #[.int .i64 j] 3)
              obtain ⟨g2, cap2, w6, hrun, ho2, hgr, hor, hlt9⟩ := appendI (b := wr.heap.size) (c := 1) (x := (j : Int)) 22 ho5 (cellAt (heap_alloc_last wr (.cells #[.int .i64 j] 3)) 0 _ rfl) (by have := HWL.out; omega) (by have := HB.out.size; simp; omega)
              have hb6 := below_own hb5 ho5 hgr (by have := HB.out.size; simp; omega)
              have hn6 : (wideL (j + 1) mo ns).length = (wideL j mo ns).length + 1 := by rw [hs]; simp
              have hv6 : (natJ8 (wideL j mo ns)).map (Value.int .i64) ++ [.int .i64 (j : Int)] = (natJ8 (wideL (j + 1) mo ns)).map (Value.int .i64) := by rw [hs]; simp [natJ8]
              rw [hv6] at ho2
              have HRun : Hid _ := hrun
              have HO2 : Hid (w6.ownsRow w1.heap.size 3 1 (.slice (some ⟨g2, 0, none⟩) ((wideL j mo ns).length + 1) cap2) ((wideL j mo ns).length + 1) ((natJ8 (wideL (j + 1) mo ns)).map (Value.int .i64))) := ho2
              have HB6 : Hid _ := hb6
              have HBX : Hid _ := HB1.out.trans (HB6.out.mono HB1.out.size)
              have HN6 : Hid _ := hn6
              clear hs ho hb5 ho5 hrun ho2 hgr hor hlt9 hb6 hn6 hv6
              have HTN : Hid _ := touch_even (ns := ns) HQ.out
              have hjm : ((j : Int) == (mo : Int)) = true := by rw [beq_iff_eq]; have := HJM.out; omega
              have hpar : (j : Int) % 2 = 0 := by have := HQ.out; omega
              go_wp2_with (at_builtin; refine wpList_append_run rfl _ _ 22 rfl _ _ _ _ rfl rfl HRun.out ?_)
              exact ⟨⟨j + 1, by omega, by go_num, ⟨_, _, by rw [HN6.out]⟩, by first | (rw [HTN.out]; done) | (rw [HTN.out]; go_num), HB6.out, by rw [HN6.out]; exact HO2.out⟩, by simp [intOf]; omega⟩
            · have HQ : Hid (j = 2 * (j / 2) + 1) := by show j = _; omega
              generalize j / 2 = q at HQ
              have HI1 : Hid (decide ((j : Int) - 1 ∈ natJ8 ns) = decide (2 * q ∈ ns)) := by show _ = _; rw [show (j : Int) - 1 = ((2 * q : Nat) : Int) by have := HQ.out; omega]; simp only [natJ8_mem]
              by_cases pv : 2 * q ∈ ns
              · rw [decide_eq_true pv] at HI1
                have HPV : Hid (2 * q ∈ ns) := pv
                clear pv
                have hs : wideL (j + 1) mo ns = wideL j mo ns ++ [j] := by rw [wideL_succ, if_pos (.inl HJM.out)]
                have hb5 := HB.out.alloc HB.out.size (.cells #[.int .i64 j] 3)
                have ho5 := ho.alloc (.cells #[.int .i64 j] 3)
                obtain ⟨g2, cap2, w6, hrun, ho2, hgr, hor, hlt9⟩ := appendI (b := wr.heap.size) (c := 1) (x := (j : Int)) 22 ho5 (cellAt (heap_alloc_last wr (.cells #[.int .i64 j] 3)) 0 _ rfl) (by have := HWL.out; omega) (by have := HB.out.size; simp; omega)
                have hb6 := below_own hb5 ho5 hgr (by have := HB.out.size; simp; omega)
                have hn6 : (wideL (j + 1) mo ns).length = (wideL j mo ns).length + 1 := by rw [hs]; simp
                have hv6 : (natJ8 (wideL j mo ns)).map (Value.int .i64) ++ [.int .i64 (j : Int)] = (natJ8 (wideL (j + 1) mo ns)).map (Value.int .i64) := by rw [hs]; simp [natJ8]
                rw [hv6] at ho2
                have HRun : Hid _ := hrun
                have HO2 : Hid (w6.ownsRow w1.heap.size 3 1 (.slice (some ⟨g2, 0, none⟩) ((wideL j mo ns).length + 1) cap2) ((wideL j mo ns).length + 1) ((natJ8 (wideL (j + 1) mo ns)).map (Value.int .i64))) := ho2
                have HB6 : Hid _ := hb6
                have HBX : Hid _ := HB1.out.trans (HB6.out.mono HB1.out.size)
                have HN6 : Hid _ := hn6
                clear hs ho hb5 ho5 hrun ho2 hgr hor hlt9 hb6 hn6 hv6
                have HTN : Hid _ := touch_odd (ns := ns) HQ.out
                rw [if_pos (.inl HPV.out)] at HTN
                have hjm : ((j : Int) == (mo : Int)) = true := by rw [beq_iff_eq]; have := HJM.out; omega
                have hpar : (j : Int) % 2 = 1 := by have := HQ.out; omega
                go_wp2_with (first | (at_builtin; refine wpList_append_run rfl _ _ 22 rfl _ _ _ _ rfl rfl HRun.out ?_) | fail)
                refine Calls.mono (rin_F l cap a (natJ8 ns) ((j : Int)) _ (by rw [natJ8_len]; exact HL.out) (by omega) (rowI_below HX.out HBX.out)) ?_
                rw [HI.out]
                rintro e w7 ⟨rfl, rfl⟩
                go_wp2_with fail
                refine Calls.mono (rin_F l cap a (natJ8 ns) ((j : Int) - 1) _ (by rw [natJ8_len]; exact HL.out) (by omega) (rowI_below HX.out HBX.out)) ?_
                rw [HI1.out]
                rintro e w7 ⟨rfl, rfl⟩
                go_wp2
                exact ⟨⟨j + 1, by omega, by go_num, ⟨_, _, by rw [HN6.out]⟩, by first | (rw [HTN.out]; done) | (rw [HTN.out]; go_num), HB6.out, by rw [HN6.out]; exact HO2.out⟩, by simp [intOf]; omega⟩
              · rw [decide_eq_false pv] at HI1
                have HPV : Hid (¬ 2 * q ∈ ns) := pv
                clear pv
                have hs : wideL (j + 1) mo ns = wideL j mo ns ++ [j] := by rw [wideL_succ, if_pos (.inl HJM.out)]
                have hb5 := HB.out.alloc HB.out.size (.cells #[.int .i64 j] 3)
                have ho5 := ho.alloc (.cells #[.int .i64 j] 3)
                obtain ⟨g2, cap2, w6, hrun, ho2, hgr, hor, hlt9⟩ := appendI (b := wr.heap.size) (c := 1) (x := (j : Int)) 22 ho5 (cellAt (heap_alloc_last wr (.cells #[.int .i64 j] 3)) 0 _ rfl) (by have := HWL.out; omega) (by have := HB.out.size; simp; omega)
                have hb6 := below_own hb5 ho5 hgr (by have := HB.out.size; simp; omega)
                have hn6 : (wideL (j + 1) mo ns).length = (wideL j mo ns).length + 1 := by rw [hs]; simp
                have hv6 : (natJ8 (wideL j mo ns)).map (Value.int .i64) ++ [.int .i64 (j : Int)] = (natJ8 (wideL (j + 1) mo ns)).map (Value.int .i64) := by rw [hs]; simp [natJ8]
                rw [hv6] at ho2
                have HRun : Hid _ := hrun
                have HO2 : Hid (w6.ownsRow w1.heap.size 3 1 (.slice (some ⟨g2, 0, none⟩) ((wideL j mo ns).length + 1) cap2) ((wideL j mo ns).length + 1) ((natJ8 (wideL (j + 1) mo ns)).map (Value.int .i64))) := ho2
                have HB6 : Hid _ := hb6
                have HBX : Hid _ := HB1.out.trans (HB6.out.mono HB1.out.size)
                have HN6 : Hid _ := hn6
                clear hs ho hb5 ho5 hrun ho2 hgr hor hlt9 hb6 hn6 hv6
                have HTN : Hid _ := touch_odd (ns := ns) HQ.out
                rw [if_neg (fun h => h.elim HPV.out (fun h => HJN.out (by rw [HQ.out]; exact h)))] at HTN
                have hjm : ((j : Int) == (mo : Int)) = true := by rw [beq_iff_eq]; have := HJM.out; omega
                have hpar : (j : Int) % 2 = 1 := by have := HQ.out; omega
                go_wp2_with (first | (at_builtin; refine wpList_append_run rfl _ _ 22 rfl _ _ _ _ rfl rfl HRun.out ?_) | fail)
                refine Calls.mono (rin_F l cap a (natJ8 ns) ((j : Int)) _ (by rw [natJ8_len]; exact HL.out) (by omega) (rowI_below HX.out HBX.out)) ?_
                rw [HI.out]
                rintro e w7 ⟨rfl, rfl⟩
                go_wp2_with fail
                refine Calls.mono (rin_F l cap a (natJ8 ns) ((j : Int) - 1) _ (by rw [natJ8_len]; exact HL.out) (by omega) (rowI_below HX.out HBX.out)) ?_
                rw [HI1.out]
                rintro e w7 ⟨rfl, rfl⟩
                go_wp2
                exact ⟨⟨j + 1, by omega, by go_num, ⟨_, _, by rw [HN6.out]⟩, by first | (rw [HTN.out]; done) | (rw [HTN.out]; go_num), HB6.out, by rw [HN6.out]; exact HO2.out⟩, by simp [intOf]; omega⟩
        · have HJM : Hid (¬ j = mo) := jm
          clear jm
          by_cases jn : j ∈ ns
          · rw [decide_eq_true jn] at HI
            have HJN : Hid (j ∈ ns) := jn
            clear jn
            rcases Nat.mod_two_eq_zero_or_one j with h2 | h2
            · have HQ : Hid (j = 2 * (j / 2)) := by show j = _; omega
              generalize j / 2 = q at HQ
              have hs : wideL (j + 1) mo ns = wideL j mo ns ++ [j] := by rw [wideL_succ, if_pos (.inr HJN.out)]
              have hb5 := HB.out.alloc HB.out.size (.cells #[.int .i64 j] 3)
              have ho5 := ho.alloc (.cells #[.int .i64 j] 3)
              obtain ⟨g2, cap2, w6, hrun, ho2, hgr, hor, hlt9⟩ := appendI (b := wr.heap.size) (c := 1) (x := (j : Int)) 22 ho5 (cellAt (heap_alloc_last wr (.cells #[.int .i64 j] 3)) 0 _ rfl) (by have := HWL.out; omega) (by have := HB.out.size; simp; omega)
              have hb6 := below_own hb5 ho5 hgr (by have := HB.out.size; simp; omega)
              have hn6 : (wideL (j + 1) mo ns).length = (wideL j mo ns).length + 1 := by rw [hs]; simp
              have hv6 : (natJ8 (wideL j mo ns)).map (Value.int .i64) ++ [.int .i64 (j : Int)] = (natJ8 (wideL (j + 1) mo ns)).map (Value.int .i64) := by rw [hs]; simp [natJ8]
              rw [hv6] at ho2
              have HRun : Hid _ := hrun
              have HO2 : Hid (w6.ownsRow w1.heap.size 3 1 (.slice (some ⟨g2, 0, none⟩) ((wideL j mo ns).length + 1) cap2) ((wideL j mo ns).length + 1) ((natJ8 (wideL (j + 1) mo ns)).map (Value.int .i64))) := ho2
              have HB6 : Hid _ := hb6
              have HBX : Hid _ := HB1.out.trans (HB6.out.mono HB1.out.size)
              have HN6 : Hid _ := hn6
              clear hs ho hb5 ho5 hrun ho2 hgr hor hlt9 hb6 hn6 hv6
              have HTN : Hid _ := touch_even (ns := ns) HQ.out
              have hjm : ((j : Int) == (mo : Int)) = false := by rw [beq_eq_false_iff_ne]; have := HJM.out; omega
              have hpar : (j : Int) % 2 = 0 := by have := HQ.out; omega
              go_wp2_with fail
              refine Calls.mono (rin_F l cap a (natJ8 ns) ((j : Int)) _ (by rw [natJ8_len]; exact HL.out) (by omega) (rowI_below HX.out HBW.out)) ?_
              rw [HI.out]
              rintro e w7 ⟨rfl, rfl⟩
              go_wp2_with (at_builtin; refine wpList_append_run rfl _ _ 22 rfl _ _ _ _ rfl rfl HRun.out ?_)
              exact ⟨⟨j + 1, by omega, by go_num, ⟨_, _, by rw [HN6.out]⟩, by first | (rw [HTN.out]; done) | (rw [HTN.out]; go_num), HB6.out, by rw [HN6.out]; exact HO2.out⟩, by simp [intOf]; omega⟩
            · have HQ : Hid (j = 2 * (j / 2) + 1) := by show j = _; omega
              generalize j / 2 = q at HQ
              have hs : wideL (j + 1) mo ns = wideL j mo ns ++ [j] := by rw [wideL_succ, if_pos (.inr HJN.out)]
              have hb5 := HB.out.alloc HB.out.size (.cells #[.int .i64 j] 3)
              have ho5 := ho.alloc (.cells #[.int .i64 j] 3)
              obtain ⟨g2, cap2, w6, hrun, ho2, hgr, hor, hlt9⟩ := appendI (b := wr.heap.size) (c := 1) (x := (j : Int)) 22 ho5 (cellAt (heap_alloc_last wr (.cells #[.int .i64 j] 3)) 0 _ rfl) (by have := HWL.out; omega) (by have := HB.out.size; simp; omega)
              have hb6 := below_own hb5 ho5 hgr (by have := HB.out.size; simp; omega)
              have hn6 : (wideL (j + 1) mo ns).length = (wideL j mo ns).length + 1 := by rw [hs]; simp
              have hv6 : (natJ8 (wideL j mo ns)).map (Value.int .i64) ++ [.int .i64 (j : Int)] = (natJ8 (wideL (j + 1) mo ns)).map (Value.int .i64) := by rw [hs]; simp [natJ8]
              rw [hv6] at ho2
              have HRun : Hid _ := hrun
              have HO2 : Hid (w6.ownsRow w1.heap.size 3 1 (.slice (some ⟨g2, 0, none⟩) ((wideL j mo ns).length + 1) cap2) ((wideL j mo ns).length + 1) ((natJ8 (wideL (j + 1) mo ns)).map (Value.int .i64))) := ho2
              have HB6 : Hid _ := hb6
              have HBX : Hid _ := HB1.out.trans (HB6.out.mono HB1.out.size)
              have HN6 : Hid _ := hn6
              clear hs ho hb5 ho5 hrun ho2 hgr hor hlt9 hb6 hn6 hv6
              have HTN : Hid _ := touch_odd (ns := ns) HQ.out
              rw [if_pos (.inr (HQ.out ▸ HJN.out))] at HTN
              have hjm : ((j : Int) == (mo : Int)) = false := by rw [beq_eq_false_iff_ne]; have := HJM.out; omega
              have hpar : (j : Int) % 2 = 1 := by have := HQ.out; omega
              go_wp2_with fail
              refine Calls.mono (rin_F l cap a (natJ8 ns) ((j : Int)) _ (by rw [natJ8_len]; exact HL.out) (by omega) (rowI_below HX.out HBW.out)) ?_
              rw [HI.out]
              rintro e w7 ⟨rfl, rfl⟩
              go_wp2_with (first | (at_builtin; refine wpList_append_run rfl _ _ 22 rfl _ _ _ _ rfl rfl HRun.out ?_) | fail)
              refine Calls.mono (rin_F l cap a (natJ8 ns) ((j : Int)) _ (by rw [natJ8_len]; exact HL.out) (by omega) (rowI_below HX.out HBX.out)) ?_
              rw [HI.out]
              rintro e w7 ⟨rfl, rfl⟩
              go_wp2
              exact ⟨⟨j + 1, by omega, by go_num, ⟨_, _, by rw [HN6.out]⟩, by first | (rw [HTN.out]; done) | (rw [HTN.out]; go_num), HB6.out, by rw [HN6.out]; exact HO2.out⟩, by simp [intOf]; omega⟩
          · rw [decide_eq_false jn] at HI
            have HJN : Hid (¬ j ∈ ns) := jn
            clear jn
            rcases Nat.mod_two_eq_zero_or_one j with h2 | h2
            · have HQ : Hid (j = 2 * (j / 2)) := by show j = _; omega
              generalize j / 2 = q at HQ
              have hs : wideL (j + 1) mo ns = wideL j mo ns := by rw [wideL_succ, if_neg (fun h => h.elim HJM.out HJN.out), List.append_nil]
              have HN6 : Hid _ := hs
              have HO2 : Hid (wr.ownsRow w1.heap.size 3 1 (.slice av (wideL j mo ns).length cv) (wideL j mo ns).length ((natJ8 (wideL j mo ns)).map (Value.int .i64))) := ho
              clear hs ho
              have HTN : Hid _ := touch_even (ns := ns) HQ.out
              have hjm : ((j : Int) == (mo : Int)) = false := by rw [beq_eq_false_iff_ne]; have := HJM.out; omega
              have hpar : (j : Int) % 2 = 0 := by have := HQ.out; omega
              go_wp2_with fail
              refine Calls.mono (rin_F l cap a (natJ8 ns) ((j : Int)) _ (by rw [natJ8_len]; exact HL.out) (by omega) (rowI_below HX.out HBW.out)) ?_
              rw [HI.out]
              rintro e w7 ⟨rfl, rfl⟩
              go_wp2
              exact ⟨⟨j + 1, by omega, by go_num, ⟨av, cv, by rw [HN6.out]⟩, by first | (rw [HTN.out]; done) | (rw [HTN.out]; go_num), HB.out, by rw [HN6.out]; exact HO2.out⟩, by simp [intOf]; omega⟩
            · have HQ : Hid (j = 2 * (j / 2) + 1) := by show j = _; omega
              generalize j / 2 = q at HQ
              have HI1 : Hid (decide ((j : Int) - 1 ∈ natJ8 ns) = decide (2 * q ∈ ns)) := by show _ = _; rw [show (j : Int) - 1 = ((2 * q : Nat) : Int) by have := HQ.out; omega]; simp only [natJ8_mem]
              by_cases pv : 2 * q ∈ ns
              · rw [decide_eq_true pv] at HI1
                have HPV : Hid (2 * q ∈ ns) := pv
                clear pv
                have hs : wideL (j + 1) mo ns = wideL j mo ns := by rw [wideL_succ, if_neg (fun h => h.elim HJM.out HJN.out), List.append_nil]
                have HN6 : Hid _ := hs
                have HO2 : Hid (wr.ownsRow w1.heap.size 3 1 (.slice av (wideL j mo ns).length cv) (wideL j mo ns).length ((natJ8 (wideL j mo ns)).map (Value.int .i64))) := ho
                clear hs ho
                have HTN : Hid _ := touch_odd (ns := ns) HQ.out
                rw [if_pos (.inl HPV.out)] at HTN
                have hjm : ((j : Int) == (mo : Int)) = false := by rw [beq_eq_false_iff_ne]; have := HJM.out; omega
                have hpar : (j : Int) % 2 = 1 := by have := HQ.out; omega
                go_wp2_with fail
                refine Calls.mono (rin_F l cap a (natJ8 ns) ((j : Int)) _ (by rw [natJ8_len]; exact HL.out) (by omega) (rowI_below HX.out HBW.out)) ?_
                rw [HI.out]
                rintro e w7 ⟨rfl, rfl⟩
                go_wp2_with fail
                refine Calls.mono (rin_F l cap a (natJ8 ns) ((j : Int)) _ (by rw [natJ8_len]; exact HL.out) (by omega) (rowI_below HX.out HBW.out)) ?_
                rw [HI.out]
                rintro e w7 ⟨rfl, rfl⟩
                go_wp2_with fail
                refine Calls.mono (rin_F l cap a (natJ8 ns) ((j : Int) - 1) _ (by rw [natJ8_len]; exact HL.out) (by omega) (rowI_below HX.out HBW.out)) ?_
                rw [HI1.out]
                rintro e w7 ⟨rfl, rfl⟩
                go_wp2
                exact ⟨⟨j + 1, by omega, by go_num, ⟨av, cv, by rw [HN6.out]⟩, by first | (rw [HTN.out]; done) | (rw [HTN.out]; go_num), HB.out, by rw [HN6.out]; exact HO2.out⟩, by simp [intOf]; omega⟩
              · rw [decide_eq_false pv] at HI1
                have HPV : Hid (¬ 2 * q ∈ ns) := pv
                clear pv
                have hs : wideL (j + 1) mo ns = wideL j mo ns := by rw [wideL_succ, if_neg (fun h => h.elim HJM.out HJN.out), List.append_nil]
                have HN6 : Hid _ := hs
                have HO2 : Hid (wr.ownsRow w1.heap.size 3 1 (.slice av (wideL j mo ns).length cv) (wideL j mo ns).length ((natJ8 (wideL j mo ns)).map (Value.int .i64))) := ho
                clear hs ho
                have HTN : Hid _ := touch_odd (ns := ns) HQ.out
                rw [if_neg (fun h => h.elim HPV.out (fun h => HJN.out (by rw [HQ.out]; exact h)))] at HTN
                have hjm : ((j : Int) == (mo : Int)) = false := by rw [beq_eq_false_iff_ne]; have := HJM.out; omega
                have hpar : (j : Int) % 2 = 1 := by have := HQ.out; omega
                go_wp2_with fail
                refine Calls.mono (rin_F l cap a (natJ8 ns) ((j : Int)) _ (by rw [natJ8_len]; exact HL.out) (by omega) (rowI_below HX.out HBW.out)) ?_
                rw [HI.out]
                rintro e w7 ⟨rfl, rfl⟩
                go_wp2_with fail
                refine Calls.mono (rin_F l cap a (natJ8 ns) ((j : Int)) _ (by rw [natJ8_len]; exact HL.out) (by omega) (rowI_below HX.out HBW.out)) ?_
                rw [HI.out]
                rintro e w7 ⟨rfl, rfl⟩
                go_wp2_with fail
                refine Calls.mono (rin_F l cap a (natJ8 ns) ((j : Int) - 1) _ (by rw [natJ8_len]; exact HL.out) (by omega) (rowI_below HX.out HBW.out)) ?_
                rw [HI1.out]
                rintro e w7 ⟨rfl, rfl⟩
                go_wp2
                exact ⟨⟨j + 1, by omega, by go_num, ⟨av, cv, by rw [HN6.out]⟩, by first | (rw [HTN.out]; done) | (rw [HTN.out]; go_num), HB.out, by rw [HN6.out]; exact HO2.out⟩, by simp [intOf]; omega⟩
      · obtain rfl : j = n := by omega
        obtain ⟨a2, c2, e2, q1, q2, q3, hX2, q5⟩ := listOf_own (Nat.le_refl w1.heap.size) rfl ho
        cases e2
        have HX2 : Hid _ := hX2
        have HWU : Hid _ := wideL_up j mo ns
        have HWN : Hid (∀ x ∈ wideL j mo ns, x < 2 * (k + r)) := fun x hx => by have := (mem_wideL.1 hx).1; have := HN.out; omega
        have hr2 : ∀ x ∈ ns, x < 2 * (k + r) := fun x hx => by have := HR.out x hx; have := HN.out; omega
        have HR2 : Hid (∀ x ∈ ns, x < 2 * (k + r)) := hr2
        have HAB : Hid (goneB k (2 * (k + r)) (carN (groupN k r)) ns = true → goneB k (2 * (k + r)) (carN (groupN k r)) (wideL j mo ns) = true) := gone_mono fun x hx => wide_in HR.out hx
        have HT : Hid (touchN j ns ≤ r → goneB k (2 * (k + r)) (carN (groupN k r)) ns = false) := fun h => gone_few (by omega) (by rw [HN.out, touch_full] at h; exact h)
        have HMY : Hid (2 * r < l → goneB k (2 * (k + r)) (carN (groupN k r)) ns = true) := fun h => gone_many HU.out hr2 (by rw [← HL.out]; exact h)
        have htl := touch_le (j := j) (ns := ns)
        clear ho hX2 q2 q3 q5 hr2
        go_wp2_with fail
        refine Calls.mono (gone_legal k r l cap a ns _ E (errsG_below HE.out HBW.out) h1 h2 h3 HL.out hcap (rowI_below HX.out HBW.out) HU.out HR2.out) ?_
        rintro e w4 ⟨rfl, hb4⟩
        have HB4 : Hid _ := HBW.out.trans (hb4.mono HBW.out.size)
        have HX3 : Hid _ := rowI_below HX2.out hb4
        clear hb4
        go_wp2_with fail
        refine Calls.mono (gone_legal k r _ _ _ (wideL j mo ns) _ E (errsG_below HE.out HB4.out) h1 h2 h3 rfl q1 HX3.out HWU.out HWN.out) ?_
        rintro e w5 ⟨rfl, hb5⟩
        have HB5 : Hid _ := HB4.out.trans (hb5.mono HB4.out.size)
        clear hb5
        generalize goneB k (2 * (k + r)) (carN (groupN k r)) ns = A at *
        generalize goneB k (2 * (k + r)) (carN (groupN k r)) (wideL j mo ns) = B at *
        generalize touchN j ns = tN at *
        cases A with
        | true =>
          have hB := HAB.out rfl
          subst hB
          have ht : r < tN := Nat.lt_of_not_le fun h => by have := HT.out h; cases this
          clear HAB HT HMY
          go_wp2
          all_goals (go_ret; exact ⟨rfl, HB5.out⟩)
        | false =>
          have hm : l ≤ 2 * r := Nat.le_of_not_lt fun h => by have := HMY.out h; cases this
          clear HAB HT HMY
          go_wp2
          all_goals (go_ret; exact ⟨rfl, HB5.out⟩)
  · rw [goodB_no hg]
    rintro e w3 ⟨rfl, rfl⟩
    clear hg
    go_wp2
    go_ret
    exact ⟨rfl, HB1.out⟩
theorem more_all (k r x : Int) (l cap : Nat) (a : Option Addr) (xs : List Int) (w : World) (E : Nat → Addr) (hE : ErrsG w E) (hk0 : -9223372036854775808 ≤ k) (hk1 : k ≤ 9223372036854775807) (hr0 : -9223372036854775808 ≤ r) (hr1 : r ≤ 9223372036854775807)
    (hx0 : -9223372036854775808 ≤ x) (hx1 : x ≤ 9223372036854775807) (hl : l = xs.length) (hl9 : l ≤ 140737488355328) (hcap : l ≤ cap) (hX : RowI w a xs) :
    Calls Tryz.prog 6 #[.agg #[.int .i64 k, .int .i64 r, .int .i64 x, .slice a l cap]] w fun e w' => e = .returned (.bool true) ∧ Below w.heap.size w w' := by
  by_cases hL : LegalP k r
  · obtain ⟨a1, b1, rfl, rfl, h1, h2, h3⟩ := legal_nat hL
    exact more_legal a1 b1 l cap x a xs w E hE h1 h2 h3 hx0 hx1 hl hl9 hcap hX
  · have HE : Hid (ErrsG w E) := hE
    have HB0 : Hid (Below w.heap.size w (w.alloc (.cells #[.int .i64 k, .int .i64 r, .int .i64 x, .slice a l cap] 48))) := (Below.refl _ _).alloc (Nat.le_refl _) _
    have c0 : Hid ((w.alloc (.cells #[.int .i64 k, .int .i64 r, .int .i64 x, .slice a l cap] 48)).heap[w.heap.size]? = some (.cells #[.int .i64 k, .int .i64 r, .int .i64 x, .slice a l cap] 48 (0, 0))) := heap_alloc_last _ _
    have k0 := cellAt c0.out 0 _ rfl
    have k1 := cellAt c0.out 1 _ rfl
    have k2 := cellAt c0.out 2 _ rfl
    have k3 := cellAt c0.out 3 _ rfl
    have lt0 := ltHeap c0.out
    clear hE hl hX
    go_enter Tryz.func6, Tryz.ntmps6
    go_wp2
    go_region
    have HB0' : Hid _ := HB0.out.drew
    clear k0 k1 k2 k3 lt0 c0
    go_wp2_with fail
    refine Calls.mono (alive8_ok _ E (errsG_below HE.out HB0'.out)) ?_
    rintro e w1 ⟨rfl, hb1⟩
    have HB1 : Hid (Below w.heap.size w w1) := HB0'.out.trans (hb1.mono HB0'.out.size)
    clear hb1
    go_wp2_with fail
    refine Calls.mono (legal_no k r _ hk0 hk1 hr0 hr1 hL) ?_
    rintro e w2 ⟨rfl, rfl⟩
    go_wp2
    go_ret
    exact ⟨rfl, HB1.out⟩
end Go.Proofs.YtjmbpldkggbdlaaGreatDoor

/- The errors' variables, by the rows' condition, where tables stand ahead of them; nothing of the program is proved here. -/
namespace Go.Proofs.YtjmbpldkggbdlaaGreatDoor
open Go.RowKit Gf
set_option linter.unusedVariables false
set_option maxRecDepth 20000
theorem laidMet_drop {P : Program} {w : World} : ∀ (n : Nat) (laid : List (String × DataW Unit)), laidMet P laid w → laidMet P (laid.drop n) w
  | 0, _, h => h
  | n + 1, [], h => h
  | n + 1, _ :: r, h => laidMet_drop n r h.tail
theorem errs_of_laid_drop {W : World} {laid : List (String × DataW Unit)} {gs : List Nat} (n : Nat) (h : laidMetH Tryz.prog laid W) (hp : (laid.all fun x => x.2.handleName?.isNone) = true)
    (hn : (laid.drop n).map (fun x => Tryz.prog.globalNamed x.1) = gs.map some) (ht : ∀ g ∈ gs, (Tryz.prog.globals[g]?).map (·.type) = some 26) (hd : ∀ x ∈ laid.drop n, ∃ text, x.2 = errD text) : ∃ es, ErrsAt W gs es := by
  rw [MakeChecks.laidMetH_plain _ _ _ hp] at h
  have hp2 : ((laid.drop n).all fun x => x.2.handleName?.isNone) = true := List.all_eq_true.2 fun x hx => List.all_eq_true.1 hp x (List.mem_of_mem_drop hx)
  have h2 : laidMetH Tryz.prog (laid.drop n) W := by
    rw [MakeChecks.laidMetH_plain _ _ _ hp2]
    exact laidMet_drop n laid h
  exact errs_of_laid h2 hp2 hn ht hd
end Go.Proofs.YtjmbpldkggbdlaaGreatDoor

/- The law DamageMore holds: what is gone stays gone where more is lost, nothing is gone with r shards touched, all is with more than 2r halves lost, at all numbers and lists; no condition but what the card ties. -/
namespace Go.Proofs.YtjmbpldkggbdlaaGreatDoor.damageMore
open Go.ChangeShapes Go.WideShapes Go.ChangeAt Go.RowKit
open Go.ChangeMaps (open_string shut_string)
open Gf
set_option linter.unusedVariables false
theorem errs {W : World} (h : laidMetH Tryz.prog Rows.damageMoreRow.laid W) : ∃ es, ErrsAt W gsDam es :=
  errs_of_laid_drop 3 h (by kernel_rfl) (by kernel_rfl) (fun g hg => by
    have hall : (gsDam.all fun g => decide ((Tryz.prog.globals[g]?).map (·.type) = some 26)) = true := by kernel_rfl
    simpa using List.all_eq_true.1 hall g hg) (fun x hx => by
    simp only [Rows.damageMoreRow, List.drop, List.mem_cons, List.not_mem_nil, or_false] at hx
    rcases hx with rfl | rfl | rfl | rfl <;> exact ⟨_, rfl⟩)
set_option maxRecDepth 100000 in
theorem lifted (os : Os) (started : os.Started) (H : Type) (enc : TypeId × Value → H) :
    ReturnsInHanded {} Tryz.checked os 6 .any (fun w args => (Rows.damageMoreSpec.pre enc Tryz.prog Tryz.f6 Rows.damageMoreRow.domain false w args ∧ laidMetH Tryz.prog Rows.damageMoreRow.laid w) ∧ sizedMet enc Tryz.prog Tryz.f6 (OpenSpec.ofChange Rows.damageMoreSpec) false w args) (Rows.damageMoreSpec.post enc Tryz.prog Tryz.f6 false true false false) := by
  refine returnsInHanded_of_change_and (C := Tryz.checked) (X := fun w _ => laidMetH Tryz.prog Rows.damageMoreRow.laid w) (fun _ _ _ hh h => h.of_heap hh) own started (by kernel_rfl) Tryz.func6
    (ChangeSpec.witness_shaped (enc := enc) (C := Tryz.checked) (os := os) (X := fun w _ => laidMetH Tryz.prog Rows.damageMoreRow.laid w) false (World.laidAll Tryz.prog os Rows.damageMoreRow.laid) #[.agg #[.int .i64 0, .int .i64 0, .int .i64 0, .slice none 0 0]] 8 (World.laidAll_os _ _ _)
      (World.shaped_of_ZipB (by kernel_rfl) (by kernel_rfl)) (by kernel_rfl) (by kernel_rfl) (by kernel_rfl)
      (by rw [MakeChecks.laidMetH_plain _ _ _ (by kernel_rfl)]; exact laidMet_laidAll _ (by kernel_rfl) (by kernel_rfl))) ?_
  intro W base args ds gs before hval0 hW hcnd hsz0 hL _
  have hval : ∀ (j : Nat) t v, Tryz.f6.params[j]? = some t → args[j]? = some v → Value.okWide Tryz.prog W .any base t v := hval0
  have hsz : (DataW.weightsEach Tryz.prog (Tryz.f6.params.toList ++ Rows.damageMoreSpec.plain.varTypes Tryz.prog) (ds ++ gs)).all (· ≤ reachBytes) = true := hsz0
  have hW' := hW
  obtain ⟨p, q, hA0, hV, rfl, hfz, hnd⟩ := hW
  have hA : DataW.TrodAll enc Tryz.prog W 0 (fun _ => true) true Tryz.f6.params.toList args.toList ds p := hA0
  rw [Tryz.params6] at hA hval hsz
  obtain ⟨v0, vs0, d0, ds0, p0, q0, hargs, rfl, rfl, h0, r0⟩ := trodAll_cons hA
  obtain ⟨rfl, rfl, rfl⟩ := trodAll_nil r0
  obtain rfl : args = #[v0] := by cases args; simp_all
  obtain ⟨rfl, rfl⟩ := trodVars_none hV
  obtain ⟨es, hes⟩ := errs hL
  have k0 := h0
  have lt0 : ∀ x ∈ p0, x.block < W.heap.size := by obtain ⟨m, hm⟩ := k0; exact DataW.trod_lt m _ _ _ hm
  obtain ⟨kv, rv, nv, av, lv, cv, xv, rfl, wkv, wrv, wnv, lxv, rxv, lcv, bcv, nav, wxv⟩ := openLost (j := 0) (hval 0 48 v0 rfl rfl) h0 hsz rfl rfl
  clear hA0 hval0
  refine (more_all kv rv nv lv cv av xv W (ofDam es) (errsG_of hes) wkv.1 wkv.2 wrv.1 wrv.2 wnv.1 wnv.2 lxv (Nat.le_trans lcv (Nat.le_trans bcv (by decide))) lcv rxv).mono fun e W' ⟨he, bel⟩ => ?_
  subst he
  exact ⟨_, rfl, _, _, _, [], _, [], hW', trodAll_mk1 (shut_bool Tryz.underlying4 _), (trodAll_cons_mk (Below.trod laidOut (by kernel_rfl) (of_decide_eq_true (by kernel_rfl)) k0 bel lt0) trodAll_mk0), rfl, bel.frame _, fun h => by cases h⟩

theorem over : Rows.damageMoreRow.holds Tryz.pinned (OpenSpec.ofChange Rows.damageMoreSpec) :=
  OpenClaim.holds_of_wide 6 Tryz.f6 rfl rfl rfl rfl rfl rfl rfl ⟨rfl, rfl, rfl, rfl, rfl⟩ rfl rfl rfl rfl rfl (by kernel_rfl) Tryz.func6 (by kernel_rfl)
    (of_decide_eq_true (by kernel_rfl)) (by unfold Func.isWrapper; first | (rw [if_pos (by decide +kernel)]; kernel_rfl) | (rw [if_neg (by decide +kernel)]; exact ⟨rfl, rfl⟩))
    (fun os started H enc _ => lifted os started H enc)

theorem proved : Rows.DamageMoreCardSaid :=
  Claim7.holds_tied_plain_at .later [] [.data, .data, .data, .sentinel, .sentinel, .sentinel, .sentinel] true (true, "5058b7e4062a64372cddf6dcb62c46ebcd46048e0b46b486fa9f484617f21b80") true over (fun _ h => by cases h) (by kernel_rfl) (fun _ h => by cases h) damageMore_row_tie rfl ⟨rfl, rfl⟩ (by kernel_rfl) rfl
    (fun f fn hf hfn => by
      obtain rfl : f = 6 := Option.some.inj ((show Tryz.prog.funcNamed "tessera/tesseralaw08.DamageMore" = some 6 by kernel_rfl).symm.trans hf) |>.symm
      obtain rfl : fn = Tryz.f6 := (Option.some.inj (Tryz.func6.symm.trans hfn)).symm
      exact ⟨by kernel_rfl, fun j t ht => by
        rw [Tryz.params6] at ht
        have hm : t ∈ [48] := by simpa using Array.mem_of_getElem? ht
        have hall : ([48].all fun u => !Tryz.prog.wantsStandIn u) = true := by kernel_rfl
        exact (show Tryz.prog.wantsStandIn t = false by simpa using List.all_eq_true.1 hall t hm)⟩)
    (by kernel_rfl)
#print axioms proved
end Go.Proofs.YtjmbpldkggbdlaaGreatDoor.damageMore
