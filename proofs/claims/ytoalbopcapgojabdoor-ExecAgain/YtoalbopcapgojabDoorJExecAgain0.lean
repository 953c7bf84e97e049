/- The law ExecAgain holds: a machine run again, asked again and fed in the other order answers the same, and Do tells the same, of all programs and bytes; no condition but what the card ties. -/
import Derived.Test.YtoalbopcapgojabDoorGfDot
import Derived.ProofKit
import Derived.OpenShut
import Derived.SizedLaws
import Derived.Lib.SmallJoins
import Derived.Test.YtoalbopcapgojabDoorMatO
import Derived.Test.YtoalbopcapgojabDoorOwn
import Derived.Deep.Matrix
import Derived.Test.YtoalbopcapgojabDoorStepD
import Derived.Deep.Strs
import Derived.Test.YtoalbopcapgojabDoorJExecAgain1
import Derived.Deep.DeepCutAuto
import Derived.Laws.Cover3
import Derived.Test.YtoalbopcapgojabDoorStepF
import Derived.Test.YtoalbopcapgojabDoorGfStr
import Derived.Test.YtoalbopcapgojabDoorErrs
import Derived.Test.YtoalbopcapgojabDoorGfW
import Derived.Test.YtoalbopcapgojabDoorMatS
import Derived.Test.YtoalbopcapgojabDoorRows
import Derived.Test.YtoalbopcapgojabDoorCards
import Derived.Test.YtoalbopcapgojabDoorTie
import Derived.WalkKit
import Derived.ShutString
import Derived.ChangeOld
import Derived.Below
import Derived.Lay
import Derived.SevenTiedAt
import Derived.Stop.Joined
/- How a list of bytes that came in is read: facts for the frames of the laws; nothing of the program is proved here. -/
namespace Go.Proofs.YtoalbopcapgojabDoor
open Go.ChangeShapes Go.WideShapes Go.ChangeAt Go.RowKit Gf
set_option maxRecDepth 20000
theorem own : ownKnob Tryd.prog.godebug = none := by kernel_rfl
theorem laidOut : laidOutB Tryd.prog = true := by kernel_rfl
theorem bytes8 : Tryd.prog.bytesOf 5 = 1 := by kernel_rfl
theorem getD_get {α : Type} (l : List α) (j : Nat) (d : α) (h : j < l.length) : l.getD j d = l[j] := by simp [List.getD, h]
theorem open8_cells {H : Type} {enc : TypeId × Value → H} {W : World} {cs : List Value} {x : DataW H × List MemPlace} {fuel : Nat}
    (h : DataW.trod enc Tryd.prog W 0 (fun _ => true) true fuel 26 cs = some x) :
    ∃ a len cap xs, cs = [.slice a len cap] ∧ len = xs.length ∧ len ≤ cap ∧ Row8 W a xs ∧ (x.1 = .nil ∧ a = none ∧ cap = 0 ∨ ∃ es sp, x.1 = .slice es sp ∧ es.length + sp.length = cap) ∧ (a = none → cap = 0) := by
  rcases open_ints Tryd.underlying26 Tryd.underlying5 (by kernel_rfl) h with ⟨hcs, hx⟩ | ⟨ad, l, c, zs, hcs, _, hl, hm, hz, hx, hcell, hwz⟩
  · exact ⟨none, 0, 0, [], hcs, rfl, Nat.le_refl _, .inl rfl, .inl ⟨by rw [hx], rfl, rfl⟩, fun _ => rfl⟩
  · have hz' : zs.length = c := by simpa using hz
    refine ⟨some ad, l, c, (zs.take l).map toF, hcs, by simp; omega, hl, ?_, .inr ⟨_, _, by rw [hx], by simp [lits]; omega⟩, fun e => by cases e⟩
    by_cases h0 : l = 0
    · left; simp [h0]
    · right
      have hc := hcell 0 (by omega)
      obtain ⟨b, off, spot⟩ := ad
      have hspot : spot = none := by simpa [Addr.add] using World.cell?_spot hc
      subst hspot
      refine ⟨b, off, rfl, fun j hj => ?_⟩
      have hj' : j < l := by simp at hj; omega
      have hcj := hcell j (by omega)
      have hw := hwz (zs.getD j 0) (by
        rw [getD_get _ _ _ (by omega)]; exact List.getElem_mem _)
      have hb := bounds_u8 hw
      have e : ((at8 ((zs.take l).map toF) j).toNat : Int) = zs.getD j 0 := by
        unfold at8
        rw [getD_get _ _ _ (by simp; omega)]
        simp only [List.getElem_map, List.getElem_take]
        rw [getD_get _ _ _ (by omega)] at hb ⊢
        exact val_toF hb.1 hb.2
      rw [e, ← hcj]
      by_cases hj0 : j = 0
      · subst hj0; rfl
      · simp [Addr.add, hj0]
theorem open8 {H : Type} {enc : TypeId × Value → H} {W : World} {v : Value} {d : DataW H} {p : List MemPlace} {base : Nat}
    (hv : Value.okWide Tryd.prog W .any base 26 v) (h : DataW.Trod enc Tryd.prog W 0 (fun _ => true) true 26 v d p) :
    ∃ a len cap xs, v = .slice a len cap ∧ len = xs.length ∧ len ≤ cap ∧ Row8 W a xs ∧ (d = .nil ∧ a = none ∧ cap = 0 ∨ ∃ es sp, d = .slice es sp ∧ es.length + sp.length = cap) ∧ (a = none → cap = 0) := by
  obtain ⟨fuel, hf⟩ := h
  obtain ⟨a, len, cap, xs, hcs, h1, h2, h3, h4, h5⟩ := open8_cells hf
  obtain ⟨a', len', cap', rfl⟩ := okWide_slice Tryd.underlying26 hv
  simp [Value.cells] at hcs
  obtain ⟨rfl, rfl, rfl⟩ := hcs
  exact ⟨_, _, _, xs, rfl, h1, h2, h3, h4, h5⟩
end Go.Proofs.YtoalbopcapgojabDoor

/- How a matrix, and two numbers, come in: facts for the frames of the laws; nothing of the program is proved here. -/
namespace Go.Proofs.YtoalbopcapgojabDoor
open Go.ChangeShapes Go.WideShapes Go.ChangeAt Go.RowKit Gf Go.Joins
set_option linter.unusedVariables false
set_option maxRecDepth 20000
theorem cellsMat : Tryd.prog.cellsOf 41 = 3 := by kernel_rfl
theorem cellsInt : Tryd.prog.cellsOf 3 = 1 := by kernel_rfl
/-- a list's datum, and its room -/
def Room2 {H : Type} (d : DataW H) (cap : Nat) : Prop := d = .nil ∧ cap = 0 ∨ ∃ es sp, d = .slice es sp ∧ es.length + sp.length = cap
theorem room2_le {H : Type} {d : DataW H} {cap : Nat} (h : Room2 d cap) (hw : ∀ n ∈ DataW.weights Tryd.prog 26 d, n ≤ reachBytes) : cap ≤ 140737488351232 := by
  rcases h with ⟨_, rfl⟩ | ⟨es, sp, rfl, rfl⟩
  · omega
  · have := hw ((es.length + sp.length) * Tryd.prog.bytesOf 5) (by simp [DataW.weights, Tryd.underlying26])
    rw [bytes8] at this
    simp only [reachBytes] at this
    omega
theorem openMat {H : Type} {enc : TypeId × Value → H} {W : World} {v : Value} {d : DataW H} {p : List MemPlace} {base : Nat} {ts : List TypeId} {ds : List (DataW H)} {j : Nat}
    (hv : Value.okWide Tryd.prog W .any base 41 v) (h : DataW.Trod enc Tryd.prog W 0 (fun _ => true) true 41 v d p)
    (hsz : (DataW.weightsEach Tryd.prog ts ds).all (· ≤ reachBytes) = true) (ht : ts[j]? = some 41) (hd : ds[j]? = some d) :
    ∃ (r c : Int) (a : Option Addr) (l cap : Nat) (xs : List F), v = .agg #[.int .i64 r, .int .i64 c, .slice a l cap] ∧ l = xs.length ∧ Row8 W a xs ∧ l ≤ cap ∧ cap ≤ 140737488351232 ∧ (a = none → cap = 0) ∧
      -9223372036854775808 ≤ r ∧ r ≤ 9223372036854775807 ∧ -9223372036854775808 ≤ c ∧ c ≤ 9223372036854775807 := by
  obtain ⟨v0, v1, v2, y0, y1, y2, n, rfl, rfl, _, e0, e1, e2⟩ := open_agg3 Tryd.underlying41 (by kernel_rfl) cellsMat hv h
  obtain ⟨r, s0, _, w0⟩ := DataW.trod_int Tryd.underlying3 e0
  obtain ⟨c, s1, _, w1⟩ := DataW.trod_int Tryd.underlying3 e1
  obtain ⟨a, la, ca, xs, s2, e, ka, ra, da, na⟩ := open8_cells e2
  simp only [List.cons.injEq, and_true] at s0 s1 s2
  subst s0 s1 s2
  have hw : ∀ n ∈ DataW.weights Tryd.prog 41 (.agg [y0.1, y1.1, y2.1]), n ≤ reachBytes := fun n hn => by
    simpa using List.all_eq_true.1 hsz _ (DataW.weights_mem_each ht hd n hn)
  simp only [DataW.weights, Tryd.underlying41] at hw
  have r2 : Room2 y2.1 ca := da.imp (fun h => ⟨h.1, h.2.2⟩) id
  refine ⟨r, c, a, la, ca, xs, rfl, e, ra, ka, room2_le r2 ?_, na, (bounds_i64 w0).1, (bounds_i64 w0).2, (bounds_i64 w1).1, (bounds_i64 w1).2⟩
  exact fun n hn => hw n (by simp [DataW.weightsEach, hn])
end Go.Proofs.YtoalbopcapgojabDoor

/- How a list of lists of bytes, and a list of numbers, come in: facts for the frames of the laws; nothing of the program is proved here. -/
namespace Go.Proofs.YtoalbopcapgojabDoor
open Go.ChangeShapes Go.WideShapes Go.ChangeAt Go.RowKit Gf Go.Joins
set_option linter.unusedVariables false
set_option maxRecDepth 20000
theorem addr_off {w : World} {ad : Addr} {v : Value} (h : w.cell? (ad.add 0) = some v) : ∃ b off, ad = ⟨b, off, none⟩ := by
  obtain ⟨b, off, spot⟩ := ad
  have hspot : spot = none := by simpa [Addr.add] using World.cell?_spot h
  subst hspot
  exact ⟨b, off, rfl⟩
theorem add_off (b off j : Nat) : (⟨b, off, none⟩ : Addr).add j = ⟨b, off + j, none⟩ := by unfold Addr.add; split <;> simp_all
theorem cellsSl : Tryd.prog.cellsOf 26 = 1 := by kernel_rfl
theorem cellsU8 : Tryd.prog.cellsOf 5 = 1 := by kernel_rfl
theorem openRows {H : Type} {enc : TypeId × Value → H} {W : World} {v : Value} {d : DataW H} {p : List MemPlace} {base : Nat}
    (hv : Value.okWide Tryd.prog W .any base 29 v) (h : DataW.Trod enc Tryd.prog W 0 (fun _ => true) true 29 v d p) :
    ∃ a l cap L, v = .slice a l cap ∧ l = List.length L ∧ Rows8 W a L ∧
      ∀ b off, a = some ⟨b, off, none⟩ → ∀ j n a' cap', W.cell? ⟨b, off + j, none⟩ = some (.slice a' n cap') → j < L.length → a' = none → cap' = 0 := by
  obtain ⟨fuel, hf⟩ := h
  obtain ⟨a0, l0, c0, rfl⟩ := okWide_slice Tryd.underlying29 hv
  rcases Deep.open_int_rows Tryd.underlying29 Tryd.underlying26 Tryd.underlying5 cellsSl cellsU8 hf with ⟨hcs, hx⟩ | ⟨ad, len, cap, A, L, C, Z, hcs, _, hl, hm, hx, hr⟩
  · simp [Value.cells] at hcs
    obtain ⟨rfl, rfl, rfl⟩ := hcs
    exact ⟨none, 0, 0, [], rfl, rfl, .inl rfl, fun b off e => by cases e⟩
  · simp [Value.cells] at hcs
    obtain ⟨rfl, rfl, rfl⟩ := hcs
    refine ⟨some ad, l0, c0, (List.range l0).map fun r => ((Z r).take (L r)).map toF, rfl, by simp, ?_, ?_⟩
    · by_cases h0 : l0 = 0
      · left; simp [h0]
      · right
        obtain ⟨b, off, rfl⟩ := addr_off (hr 0 (by omega)).1
        refine ⟨b, off, rfl, fun j xs hj => ?_⟩
        have hjl : j < l0 := by have := (List.getElem?_eq_some_iff.1 hj).1; simpa using this
        rw [List.getElem?_map, List.getElem?_range hjl] at hj
        obtain rfl := Option.some.inj hj
        obtain ⟨h1, h2, h3, h4, h5, h6, h7⟩ := hr j (by omega)
        rw [add_off] at h1
        have hlen : (((Z j).take (L j)).map toF).length = L j := by rw [List.length_map, List.length_take]; omega
        refine ⟨A j, C j, by rw [hlen]; exact h1, ?_⟩
        by_cases hL0 : L j = 0
        · left; simp [hL0]
        · right
          cases hA : A j with
          | none => have := h6 hA; omega
          | some ad' =>
            obtain ⟨_, h8⟩ := h7 ad' hA
            obtain ⟨b', off', rfl⟩ := addr_off (h8 0 (by omega))
            refine ⟨b', off', rfl, fun i hi => ?_⟩
            rw [hlen] at hi
            have hc := h8 i (by omega)
            rw [add_off] at hc
            rw [hc]
            have hb := bounds_u8 (h5 ((Z j).getD i 0) (by rw [getD_get _ _ _ (by omega)]; exact List.getElem_mem _))
            have e : ((at8 (((Z j).take (L j)).map toF) i).toNat : Int) = (Z j).getD i 0 := by
              unfold at8
              rw [getD_get _ _ _ (by rw [hlen]; exact hi)]
              simp only [List.getElem_map, List.getElem_take]
              rw [getD_get _ _ _ (by omega)] at hb ⊢
              exact val_toF hb.1 hb.2
            rw [e]
    · intro b off e j n a' cap' hc hj ha
      simp only [List.length_map, List.length_range] at hj
      obtain ⟨h1, h2, h3, h4, h5, h6, h7⟩ := hr j (by omega)
      obtain rfl := Option.some.inj e
      rw [add_off, hc] at h1
      simp only [Option.some.injEq, Value.slice.injEq] at h1
      obtain ⟨e1, _, e3⟩ := h1
      rw [e3]; exact h6 (by rw [← e1]; exact ha)
theorem bytesInt : Tryd.prog.bytesOf 3 = 8 := by kernel_rfl
theorem openInts {H : Type} {enc : TypeId × Value → H} {W : World} {v : Value} {d : DataW H} {p : List MemPlace} {base : Nat} {ts : List TypeId} {ds : List (DataW H)} {j : Nat}
    (hv : Value.okWide Tryd.prog W .any base 22 v) (h : DataW.Trod enc Tryd.prog W 0 (fun _ => true) true 22 v d p)
    (hsz : (DataW.weightsEach Tryd.prog ts ds).all (· ≤ reachBytes) = true) (ht : ts[j]? = some 22) (hd : ds[j]? = some d) :
    ∃ a l cap ns, v = .slice a l cap ∧ l = List.length ns ∧ RowI W a ns ∧ l ≤ cap ∧ cap ≤ 17592186043904 ∧ (a = none → cap = 0) ∧ ∀ n ∈ ns, -9223372036854775808 ≤ n ∧ n ≤ 9223372036854775807 := by
  obtain ⟨fuel, hf⟩ := h
  obtain ⟨a0, l0, c0, rfl⟩ := okWide_slice Tryd.underlying22 hv
  rcases open_ints Tryd.underlying22 Tryd.underlying3 cellsInt hf with ⟨hcs, hx⟩ | ⟨ad, l, c, zs, hcs, _, hl, hm, hz, hx, hcell, hwz⟩
  · simp [Value.cells] at hcs
    obtain ⟨rfl, rfl, rfl⟩ := hcs
    exact ⟨none, 0, 0, [], rfl, rfl, .inl rfl, Nat.le_refl _, by omega, fun _ => rfl, fun n hn => by cases hn⟩
  · simp [Value.cells] at hcs
    obtain ⟨rfl, rfl, rfl⟩ := hcs
    have hz' : zs.length = c0 := by simpa using hz
    have hcap : c0 ≤ 17592186043904 := by
      have hw : ∀ n ∈ DataW.weights Tryd.prog 22 d, n ≤ reachBytes := fun n hn => by simpa using List.all_eq_true.1 hsz _ (DataW.weights_mem_each ht hd n hn)
      simp only [Prod.mk.injEq] at hx
      rw [hx.1] at hw
      have := hw (((lits .i64 (zs.take l0) : List (DataW H)).length + (lits .i64 (zs.drop l0) : List (DataW H)).length) * Tryd.prog.bytesOf 3) (by simp [DataW.weights, Tryd.underlying22])
      rw [bytesInt] at this
      simp only [reachBytes, lits, List.length_map, List.length_take, List.length_drop] at this
      omega
    refine ⟨some ad, l0, c0, zs.take l0, rfl, by rw [List.length_take]; omega, ?_, hl, hcap, (fun e => by cases e), fun n hn => bounds_i64 (hwz n (List.mem_of_mem_take hn))⟩
    by_cases h0 : l0 = 0
    · left; simp [h0]
    · right
      obtain ⟨b, off, rfl⟩ := addr_off (hcell 0 (by omega))
      refine ⟨b, off, rfl, fun j m hj => ?_⟩
      have hjl : j < l0 := by have := (List.getElem?_eq_some_iff.1 hj).1; rw [List.length_take] at this; omega
      have hc := hcell j (by omega)
      rw [add_off] at hc
      rw [hc]
      rw [List.getElem?_take_of_lt hjl] at hj
      rw [List.getD_eq_getElem?_getD, hj]; rfl
end Go.Proofs.YtoalbopcapgojabDoor

/- How parameters, a number and two lists of numbers come in; facts for the frames of the laws; nothing of the program is proved here. -/
namespace Go.Proofs.YtoalbopcapgojabDoor
open Go.ChangeShapes Go.WideShapes Go.ChangeAt Go.RowKit Gf Go.Joins
set_option linter.unusedVariables false
set_option maxRecDepth 20000
theorem array5 {α : Type} {cs : Array α} (h : cs.size = 5) : ∃ c0 c1 c2 c3 c4, cs = #[c0, c1, c2, c3, c4] := by
  obtain ⟨l⟩ := cs
  match l, h with
  | [c0, c1, c2, c3, c4], _ => exact ⟨c0, c1, c2, c3, c4, rfl⟩
theorem open_agg5 {H : Type} {enc : TypeId × Value → H} {P : Program} {w : World} {base : Nat} {spare : Nat → Bool} {held : Bool} {r : Reach} {b0 : Nat} {t : TypeId} {f0 f1 f2 f3 f4 : Field} {v : Value} {d : DataW H} {p : List MemPlace} (hs : P.underlying t = some (.struct #[f0, f1, f2, f3, f4])) (hone : Go.Deep.oneCellFields P #[f0, f1, f2, f3, f4] = true) (hC : P.cellsOf t = 5)
    (hv : Value.okWide P w r b0 t v) (h : DataW.Trod enc P w base spare held t v d p) :
    ∃ (v0 v1 v2 v3 v4 : Value) (y0 y1 y2 y3 y4 : DataW H × List MemPlace) (n : Nat), v = .agg #[v0, v1, v2, v3, v4] ∧ d = .agg [y0.1, y1.1, y2.1, y3.1, y4.1] ∧
      DataW.trod enc P w base spare held n f0.type [v0] = some y0 ∧ DataW.trod enc P w base spare held n f1.type [v1] = some y1 ∧ DataW.trod enc P w base spare held n f2.type [v2] = some y2 ∧ DataW.trod enc P w base spare held n f3.type [v3] = some y3 ∧ DataW.trod enc P w base spare held n f4.type [v4] = some y4 := by
  obtain ⟨cs, rfl, hsz⟩ := okWide_struct hs hv
  obtain ⟨c0, c1, c2, c3, c4, rfl⟩ := array5 (hsz.trans hC)
  obtain ⟨fuel, hf⟩ := h
  obtain ⟨xs, n, _, hx, hl, hlen, hel⟩ := DataW.trod_struct hs hf
  match xs, hlen with
  | [y0, y1, y2, y3, y4], _ =>
    obtain ⟨o0, k0⟩ := Go.Deep.hone_of hone 0 f0 rfl
    obtain ⟨o1, k1⟩ := Go.Deep.hone_of hone 1 f1 rfl
    obtain ⟨o2, k2⟩ := Go.Deep.hone_of hone 2 f2 rfl
    obtain ⟨o3, k3⟩ := Go.Deep.hone_of hone 3 f3 rfl
    obtain ⟨o4, k4⟩ := Go.Deep.hone_of hone 4 f4 rfl
    have h0 := hel 0 f0 rfl
    have h1 := hel 1 f1 rfl
    have h2 := hel 2 f2 rfl
    have h3 := hel 3 f3 rfl
    have h4 := hel 4 f4 rfl
    simp only [Prod.mk.injEq] at hx
    exact ⟨c0, c1, c2, c3, c4, y0, y1, y2, y3, y4, n, rfl, by rw [hx.1]; rfl, by simpa [Value.cells, o0, k0] using h0, by simpa [Value.cells, o1, k1] using h1, by simpa [Value.cells, o2, k2] using h2, by simpa [Value.cells, o3, k3] using h3, by simpa [Value.cells, o4, k4] using h4⟩
/-- a list of numbers, as one cell -/
theorem openInts_cell {H : Type} {enc : TypeId × Value → H} {W : World} {v : Value} {y : DataW H × List MemPlace} {n : Nat}
    (h : DataW.trod enc Tryd.prog W 0 (fun _ => true) true n 22 [v] = some y) (hw : ∀ n ∈ DataW.weights Tryd.prog 22 y.1, n ≤ reachBytes) :
    ∃ a l cap ns, v = .slice a l cap ∧ l = List.length ns ∧ RowI W a ns ∧ l ≤ cap ∧ cap ≤ 17592186043904 ∧ (a = none → cap = 0) ∧ ∀ n ∈ ns, -9223372036854775808 ≤ n ∧ n ≤ 9223372036854775807 := by
  rcases open_ints Tryd.underlying22 Tryd.underlying3 cellsInt h with ⟨hcs, hx⟩ | ⟨ad, l, c, zs, hcs, _, hl, hm, hz, hx, hcell, hwz⟩
  · simp at hcs
    subst hcs
    exact ⟨none, 0, 0, [], rfl, rfl, .inl rfl, Nat.le_refl _, by omega, fun _ => rfl, fun n hn => by cases hn⟩
  · simp at hcs
    subst hcs
    have hz' : zs.length = c := by simpa using hz
    have hcap : c ≤ 17592186043904 := by
      rw [hx] at hw
      have := hw (((lits .i64 (zs.take l) : List (DataW H)).length + (lits .i64 (zs.drop l) : List (DataW H)).length) * Tryd.prog.bytesOf 3) (by simp [DataW.weights, Tryd.underlying22])
      rw [bytesInt] at this
      simp only [reachBytes, lits, List.length_map, List.length_take, List.length_drop] at this
      omega
    refine ⟨some ad, l, c, zs.take l, rfl, by rw [List.length_take]; omega, ?_, hl, hcap, (fun e => by cases e), fun n hn => bounds_i64 (hwz n (List.mem_of_mem_take hn))⟩
    by_cases h0 : l = 0
    · left; simp [h0]
    · right
      obtain ⟨b, off, rfl⟩ := addr_off (hcell 0 (by omega))
      refine ⟨b, off, rfl, fun j m hj => ?_⟩
      have hjl : j < l := by have := (List.getElem?_eq_some_iff.1 hj).1; rw [List.length_take] at this; omega
      have hc := hcell j (by omega)
      rw [add_off] at hc
      rw [hc]
      rw [List.getElem?_take_of_lt hjl] at hj
      rw [List.getD_eq_getElem?_getD, hj]; rfl
end Go.Proofs.YtoalbopcapgojabDoor

/- How a list of lists of bytes comes in, with the bounds of its rooms: facts for the frames of the laws; nothing of the program is proved here. -/
namespace Go.Proofs.YtoalbopcapgojabDoor
open Go.ChangeShapes Go.WideShapes Go.ChangeAt Go.RowKit Gf Go.Joins
set_option linter.unusedVariables false
set_option maxRecDepth 20000
/-- a list of rows in memory, the rooms bounded -/
def RowsB (w : World) (a : Option Addr) (L : List (List F)) : Prop :=
  L = [] ∨ ∃ b off, a = some ⟨b, off, none⟩ ∧ ∀ j xs, L[j]? = some xs → ∃ a' cap', w.cell? ⟨b, off + j, none⟩ = some (.slice a' xs.length cap') ∧ Row8 w a' xs ∧ xs.length ≤ cap' ∧ cap' ≤ 140737488351232 ∧ (a' = none → cap' = 0)
theorem rowsB_rows {w : World} {a : Option Addr} {L : List (List F)} (h : RowsB w a L) : Rows8 w a L :=
  h.imp id fun ⟨b, off, e, h⟩ => ⟨b, off, e, fun j xs hj => by
    obtain ⟨a', cap', h1, h2, _⟩ := h j xs hj
    exact ⟨a', cap', h1, h2⟩⟩
theorem bytesSl : Tryd.prog.bytesOf 26 = 24 := by kernel_rfl
theorem weightsAll_in {H : Type} {P : Program} {e : TypeId} : ∀ {l : List (DataW H)} {d : DataW H}, d ∈ l → ∀ n ∈ d.weights P e, n ∈ DataW.weightsAll P e l
  | [], d, hd, _, _ => by cases hd
  | x :: l, d, hd, n, hn => by
    simp only [DataW.weightsAll, List.mem_append]
    rcases List.mem_cons.1 hd with rfl | h
    · exact .inl hn
    · exact .inr (weightsAll_in h n hn)
theorem openRowsB {H : Type} {enc : TypeId × Value → H} {W : World} {v : Value} {d : DataW H} {p : List MemPlace} {base : Nat} {ts : List TypeId} {ds : List (DataW H)} {j : Nat}
    (hv : Value.okWide Tryd.prog W .any base 29 v) (h : DataW.Trod enc Tryd.prog W 0 (fun _ => true) true 29 v d p)
    (hsz : (DataW.weightsEach Tryd.prog ts ds).all (· ≤ reachBytes) = true) (ht : ts[j]? = some 29) (hd : ds[j]? = some d) :
    ∃ a l cap L, v = .slice a l cap ∧ l = List.length L ∧ RowsB W a L ∧ l ≤ 5864062014634 := by
  obtain ⟨fuel, hf⟩ := h
  obtain ⟨a0, l0, c0, rfl⟩ := okWide_slice Tryd.underlying29 hv
  have hw : ∀ n ∈ DataW.weights Tryd.prog 29 d, n ≤ reachBytes := fun n hn => by simpa using List.all_eq_true.1 hsz _ (DataW.weights_mem_each ht hd n hn)
  rcases Deep.open_int_rows Tryd.underlying29 Tryd.underlying26 Tryd.underlying5 cellsSl cellsU8 hf with ⟨hcs, hx⟩ | ⟨ad, len, cap, A, L, C, Z, hcs, _, hl, hm, hx, hr⟩
  · simp [Value.cells] at hcs
    obtain ⟨rfl, rfl, rfl⟩ := hcs
    exact ⟨none, 0, 0, [], rfl, rfl, .inl rfl, by omega⟩
  · simp [Value.cells] at hcs
    obtain ⟨rfl, rfl, rfl⟩ := hcs
    simp only [Prod.mk.injEq] at hx
    rw [hx.1] at hw
    simp only [DataW.weights, Tryd.underlying29] at hw
    have hl9 : l0 ≤ 5864062014634 := by
      have := hw _ (List.mem_cons_self ..)
      rw [bytesSl] at this
      simp only [reachBytes, List.length_map, List.length_range] at this
      omega
    have hC : ∀ r, r < l0 → A r ≠ none → C r ≤ 140737488351232 := fun r hrl hne => by
      obtain ⟨_, _, _, h4, _⟩ := hr r (by omega)
      cases hA : A r with
      | none => exact absurd hA hne
      | some a9 =>
        have hmem : (Deep.intRow (H := H) .u8 (A r) (L r) (Z r)) ∈ (List.range l0).map fun r => Deep.intRow (H := H) .u8 (A r) (L r) (Z r) := List.mem_map.2 ⟨r, List.mem_range.2 hrl, rfl⟩
        have h9 := hw (((lits .u8 ((Z r).take (L r)) : List (DataW H)).length + (lits .u8 ((Z r).drop (L r)) : List (DataW H)).length) * Tryd.prog.bytesOf 5)
          (List.mem_cons_of_mem _ (List.mem_append_left _ (weightsAll_in hmem _ (by simp [Deep.intRow, hA, DataW.weights, Tryd.underlying26]))))
        rw [bytes8] at h9
        simp only [reachBytes, lits, List.length_map, List.length_take, List.length_drop] at h9
        omega
    refine ⟨some ad, l0, c0, (List.range l0).map fun r => ((Z r).take (L r)).map toF, rfl, by simp, ?_, hl9⟩
    by_cases h0 : l0 = 0
    · left; simp [h0]
    · right
      obtain ⟨b, off, rfl⟩ := addr_off (hr 0 (by omega)).1
      refine ⟨b, off, rfl, fun j xs hj => ?_⟩
      have hjl : j < l0 := by have := (List.getElem?_eq_some_iff.1 hj).1; simpa using this
      rw [List.getElem?_map, List.getElem?_range hjl] at hj
      obtain rfl := Option.some.inj hj
      obtain ⟨h1, h2, h3, h4, h5, h6, h7⟩ := hr j (by omega)
      rw [add_off] at h1
      have hlen : (((Z j).take (L j)).map toF).length = L j := by rw [List.length_map, List.length_take]; omega
      refine ⟨A j, C j, by rw [hlen]; exact h1, ?_, by rw [hlen]; exact h2, ?_, h6⟩
      · by_cases hL0 : L j = 0
        · left; simp [hL0]
        · right
          cases hA : A j with
          | none => have := h6 hA; omega
          | some ad' =>
            obtain ⟨_, h8⟩ := h7 ad' hA
            obtain ⟨b', off', rfl⟩ := addr_off (h8 0 (by omega))
            refine ⟨b', off', rfl, fun i hi => ?_⟩
            rw [hlen] at hi
            have hc := h8 i (by omega)
            rw [add_off] at hc
            rw [hc]
            have hb := bounds_u8 (h5 ((Z j).getD i 0) (by rw [getD_get _ _ _ (by omega)]; exact List.getElem_mem _))
            have e : ((at8 (((Z j).take (L j)).map toF) i).toNat : Int) = (Z j).getD i 0 := by
              unfold at8
              rw [getD_get _ _ _ (by rw [hlen]; exact hi)]
              simp only [List.getElem_map, List.getElem_take]
              rw [getD_get _ _ _ (by omega)] at hb ⊢
              exact val_toF hb.1 hb.2
            rw [e]
      · by_cases hA : A j = none
        · have := h6 hA; omega
        · exact hC j hjl hA
end Go.Proofs.YtoalbopcapgojabDoor

/- How a program, and a step, come in; facts for the frames of the laws; nothing of the program is proved here. -/
namespace Go.Proofs.YtoalbopcapgojabDoor
open Go.ChangeShapes Go.WideShapes Go.ChangeAt Go.RowKit Gf Go.Joins
set_option linter.unusedVariables false
set_option maxRecDepth 20000
theorem cellsSt : Tryd.prog.cellsOf 55 = 4 := by kernel_rfl
theorem bytesSt : Tryd.prog.bytesOf 55 = 32 := by kernel_rfl
theorem cellsPr : Tryd.prog.cellsOf 25 = 4 := by kernel_rfl
theorem add_add9 {b off j q : Nat} : ((⟨b, off, none⟩ : Addr).add j).add q = ⟨b, off + j + q, none⟩ := by rw [add_off, add_off]
/-- a step's numbers are in their bounds -/
def StB (s : Stp) : Prop := (-9223372036854775808 ≤ s.op ∧ s.op ≤ 9223372036854775807) ∧ (-9223372036854775808 ≤ s.dst ∧ s.dst ≤ 9223372036854775807) ∧ (-9223372036854775808 ≤ s.src ∧ s.src ≤ 9223372036854775807)
theorem openStep {H : Type} {enc : TypeId × Value → H} {W : World} {cs : List Value} {y : DataW H × List MemPlace} {n : Nat}
    (h : DataW.trod enc Tryd.prog W 0 (fun _ => true) true n 55 cs = some y) :
    ∃ s : Stp, cs = stpL s ∧ StB s := by
  obtain ⟨y0, y1, y2, y3, n', hy, hl, e0, e1, e2, e3⟩ := trod_struct4 Tryd.underlying55 h
  rw [cellsSt] at hl
  match cs, hl with
  | [v0, v1, v2, v3], _ =>
    have k0 : Tryd.prog.cellsOf 3 = 1 := cellsInt
    have k1 : Tryd.prog.cellsOf 5 = 1 := by kernel_rfl
    simp only [k0, k1, List.drop_zero, List.drop_succ_cons, List.take_succ_cons, List.take_zero] at e0 e1 e2 e3
    obtain ⟨a, s0, _, w0⟩ := DataW.trod_int Tryd.underlying3 e0
    obtain ⟨b, s1, _, w1⟩ := DataW.trod_int Tryd.underlying3 e1
    obtain ⟨c, s2, _, w2⟩ := DataW.trod_int Tryd.underlying3 e2
    obtain ⟨d, s3, _, w3⟩ := DataW.trod_int Tryd.underlying5 e3
    obtain ⟨f, rfl⟩ := exists_F (bounds_u8 w3).1 (bounds_u8 w3).2
    simp only [List.cons.injEq, and_true] at s0 s1 s2 s3
    subst s0 s1 s2 s3
    exact ⟨⟨a, b, c, f⟩, rfl, bounds_i64 w0, bounds_i64 w1, bounds_i64 w2⟩
theorem openSteps_cell {H : Type} {enc : TypeId × Value → H} {W : World} {v : Value} {y : DataW H × List MemPlace} {n : Nat}
    (h : DataW.trod enc Tryd.prog W 0 (fun _ => true) true n 23 [v] = some y) (hw : ∀ n ∈ DataW.weights Tryd.prog 23 y.1, n ≤ reachBytes) :
    ∃ a l cap ss, v = .slice a l cap ∧ l = List.length ss ∧ StpW W a ss ∧ l ≤ cap ∧ cap ≤ 4398046510976 ∧ (a = none → cap = 0) ∧ ∀ s ∈ ss, StB s := by
  rcases DataW.trod_slice Tryd.underlying23 h with ⟨hcs, hx⟩ | ⟨ad, len, cap, elems, rest, n', _, hcs, hx, _, hlc, hcm, hel, hcell, hrest, _⟩
  · simp only [List.cons.injEq, and_true] at hcs
    exact ⟨none, 0, 0, [], hcs, rfl, .inl rfl, Nat.le_refl _, by omega, fun _ => rfl, fun s h => by cases h⟩
  · simp only [List.cons.injEq, and_true] at hcs
    subst hcs
    obtain ⟨hrl, _⟩ := hrest rfl
    rw [hx] at hw
    simp only [DataW.weights, Tryd.underlying23] at hw
    have hcap : cap ≤ 4398046510976 := by
      have := hw _ (List.mem_cons_self ..)
      rw [bytesSt] at this
      simp only [reachBytes, List.length_map] at this
      omega
    have hone : ∀ i, i < len → ∃ s : Stp, W.cells? 0 (ad.add (i * 4)) 4 = some (stpL s) ∧ StB s := fun i hi => by
      have h1 := hcell i hi
      rw [cellsSt, List.getElem?_eq_getElem (by omega)] at h1
      obtain ⟨cs, h2, h3⟩ := Option.bind_eq_some_iff.1 h1
      obtain ⟨s, e, r⟩ := openStep h3
      subst e
      exact ⟨s, h2, r⟩
    have hch : ∀ i : Nat, ∃ s : Stp, i < len → W.cells? 0 (ad.add (i * 4)) 4 = some (stpL s) ∧ StB s := fun i => by
      by_cases hi : i < len
      · obtain ⟨s, q⟩ := hone i hi
        exact ⟨s, fun _ => q⟩
      · exact ⟨⟨0, 0, 0, 0⟩, fun h => absurd h hi⟩
    obtain ⟨f, hf⟩ := Classical.axiomOfChoice hch
    refine ⟨some ad, len, cap, (List.range len).map f, rfl, by simp, ?_, hlc, hcap, (fun e => by cases e), fun s hs => by obtain ⟨i, hi, rfl⟩ := List.mem_map.1 hs; exact (hf i (List.mem_range.1 hi)).2⟩
    by_cases h0 : len = 0
    · left; simp [h0]
    · right
      have hc0 := (hf 0 (by omega)).1
      have hc1 := (World.cells?_some hc0).2.2 0 (by omega)
      rw [Nat.zero_mul] at hc1
      obtain ⟨b, off, rfl⟩ : ∃ b off, ad = ⟨b, off, none⟩ := addr_off (v := .int .i64 (f 0).op) (by
        have : (ad.add 0).add 0 = ad.add 0 := by unfold Addr.add; simp
        rw [← this]; exact hc1)
      refine ⟨b, off, rfl, fun j s hj => ?_⟩
      have hjl : j < len := by have := (List.getElem?_eq_some_iff.1 hj).1; simpa using this
      rw [List.getElem?_map, List.getElem?_range hjl] at hj
      have hfj : f j = s := Option.some.inj hj
      have hc := (hf j hjl).1
      rw [hfj] at hc
      have hq := (World.cells?_some hc).2.2
      have q0 := hq 0 (by omega)
      have q1 := hq 1 (by omega)
      have q2 := hq 2 (by omega)
      have q3 := hq 3 (by omega)
      rw [add_add9] at q0 q1 q2 q3
      exact ⟨q0, q1, q2, q3⟩
theorem openProg {H : Type} {enc : TypeId × Value → H} {W : World} {v : Value} {d : DataW H} {p : List MemPlace} {base : Nat} {ts : List TypeId} {ds : List (DataW H)} {j : Nat}
    (hv : Value.okWide Tryd.prog W .any base 25 v) (h : DataW.Trod enc Tryd.prog W 0 (fun _ => true) true 25 v d p)
    (hsz : (DataW.weightsEach Tryd.prog ts ds).all (· ≤ reachBytes) = true) (ht : ts[j]? = some 25) (hd : ds[j]? = some d) :
    ∃ (ia oa sa : Option Addr) (il ic ol oc sl sc : Nat) (rg : Int) (ins outs : List Int) (ss : List Stp), v = .agg #[.slice ia il ic, .slice oa ol oc, .int .i64 rg, .slice sa sl sc] ∧
      (-9223372036854775808 ≤ rg ∧ rg ≤ 9223372036854775807) ∧ PrgW W ia oa sa il ic ol oc sl sc ins outs ss ∧ ic ≤ 17592186043904 ∧ oc ≤ 17592186043904 ∧ sc ≤ 4398046510976 := by
  obtain ⟨v0, v1, v2, v3, y0, y1, y2, y3, n', rfl, rfl, _, e0, e1, e2, e3⟩ := open_agg4 Tryd.underlying25 (by kernel_rfl) cellsPr hv h
  obtain ⟨rg, s2, _, w2⟩ := DataW.trod_int Tryd.underlying3 e2
  have hw : ∀ n ∈ DataW.weights Tryd.prog 25 (.agg [y0.1, y1.1, y2.1, y3.1]), n ≤ reachBytes := fun n hn => by
    simpa using List.all_eq_true.1 hsz _ (DataW.weights_mem_each ht hd n hn)
  simp only [DataW.weights, Tryd.underlying25] at hw
  obtain ⟨ia, il, ic, ins, s0, q1, q2, q3, q4, q5, _⟩ := openInts_cell e0 (fun n hn => hw n (by simp [DataW.weightsEach, hn]))
  obtain ⟨oa, ol, oc, outs, s1, o1, o2, o3, o4, o5, _⟩ := openInts_cell e1 (fun n hn => hw n (by simp [DataW.weightsEach, hn]))
  obtain ⟨sa, sl, sc, ss, s3, t1, t2, t3, t4, t5, _⟩ := openSteps_cell e3 (fun n hn => hw n (by simp [DataW.weightsEach, hn]))
  simp only [List.cons.injEq, and_true] at s2
  subst s0 s1 s2 s3
  exact ⟨ia, oa, sa, il, ic, ol, oc, sl, sc, rg, ins, outs, ss, rfl, bounds_i64 w2, ⟨q1, o1, t1, by omega, by omega, by omega, q3, o3, t3, q5, o5, t5, q2, o2, t2⟩, q4, o4, t4⟩
/-- a step alone -/
theorem openStp {H : Type} {enc : TypeId × Value → H} {W : World} {v : Value} {d : DataW H} {p : List MemPlace} {base : Nat}
    (hv : Value.okWide Tryd.prog W .any base 55 v) (h : DataW.Trod enc Tryd.prog W 0 (fun _ => true) true 55 v d p) :
    ∃ (zo zd zs : Int) (zf : F), v = .agg #[.int .i64 zo, .int .i64 zd, .int .i64 zs, .int .u8 (zf.toNat : Int)] ∧ StB ⟨zo, zd, zs, zf⟩ := by
  obtain ⟨v0, v1, v2, v3, y0, y1, y2, y3, n', rfl, rfl, _, e0, e1, e2, e3⟩ := open_agg4 Tryd.underlying55 (by kernel_rfl) cellsSt hv h
  obtain ⟨a, s0, _, w0⟩ := DataW.trod_int Tryd.underlying3 e0
  obtain ⟨b, s1, _, w1⟩ := DataW.trod_int Tryd.underlying3 e1
  obtain ⟨c, s2, _, w2⟩ := DataW.trod_int Tryd.underlying3 e2
  obtain ⟨d, s3, _, w3⟩ := DataW.trod_int Tryd.underlying5 e3
  obtain ⟨f, rfl⟩ := exists_F (bounds_u8 w3).1 (bounds_u8 w3).2
  simp only [List.cons.injEq, and_true] at s0 s1 s2 s3
  subst s0 s1 s2 s3
  exact ⟨a, b, c, f, rfl, bounds_i64 w0, bounds_i64 w1, bounds_i64 w2⟩
end Go.Proofs.YtoalbopcapgojabDoor

/- What New of package exec answers. -/
namespace Go.Proofs.YtoalbopcapgojabDoor
open Go.RowKit Gf
set_option linter.unusedVariables false
set_option maxRecDepth 20000
set_option linter.unusedSimpArgs false
theorem MacW.lower {N B B' : Nat} {w : World} {mb Fd : Nat} {ia oa sa : Option Addr} {il ic ol oc sl sc rg h : Nat} {ins outs : List Int} {ss : List Stp} {fd : Nat → Option (Option Addr × Nat)} {X : Int → Nat → UInt8} {ran : Bool} {ov : Value} (hm : MacW N B w mb Fd ia oa sa il ic ol oc sl sc rg h ins outs ss fd X ran ov) (hb : B' ≤ B) : MacW N B' w mb Fd ia oa sa il ic ol oc sl sc rg h ins outs ss fd X ran ov :=
  { hm with I := own_mono9E hm.I hb, O := own_mono9E hm.O hb, S := own_mono9E hm.S hb, hmb := Nat.le_trans hb hm.hmb, hFd := Nat.le_trans hb hm.hFd }
set_option maxRecDepth 100000 in
set_option maxHeartbeats 16000000 in
theorem new_ok (N : Nat) (X : Int → Nat → F) (ia oa sa : Option Addr) (il ic ol oc sl sc rg h : Nat) (ins outs : List Int) (ss : List Stp) (w : World) (s : Addr) (hP : PrgW w ia oa sa il ic ol oc sl sc ins outs ss) (hs : w.cell? ⟨5, 0, none⟩ = some (errAt s)) (hF : InF ins outs rg ss) (h1 : 1 ≤ h) (h64 : h ≤ 64) :
    Calls Tryd.prog 9 #[.agg #[.slice ia il ic, .slice oa ol oc, .int .i64 rg, .slice sa sl sc], .int .i64 h] w fun e w' => ∃ mb Fd ia' ic' oa' oc' sa' sc', e = .returned (.tuple #[.pointer (some ⟨mb, 0, none⟩), .nilIface]) ∧
      MacW N w.heap.size w' mb Fd ia' oa' sa' il ic' ol oc' sl sc' rg h ins outs ss (fun _ => none) X false (.slice none 0 0) ∧ Below w.heap.size w w' := by
  have hil32 : il ≤ 32 := by rw [hP.eil]; exact goodH_len hF.1
  have hol32 : ol ≤ 32 := by rw [hP.eol]; exact goodH_len hF.2.1
  have hrgn : rg ≤ 64 := by have := hF.2.2.1.2; omega
  have hsl9 : sl ≤ 4096 := by rw [hP.esl]; exact hF.2.2.2.1
  have HP : Hid (PrgW w ia oa sa il ic ol oc sl sc ins outs ss) := hP
  have HF : Hid (InF ins outs rg ss) := hF
  have H1 : Hid (1 ≤ h) := h1
  have H64 : Hid (h ≤ 64) := h64
  have hb0 : Below w.heap.size w (w.alloc (.cells #[.slice ia il ic, .slice oa ol oc, .int .i64 rg, .slice sa sl sc] 25)) := (Below.refl _ _).alloc (Nat.le_refl _) _
  have HB0 : Hid _ := hb0
  have HX0 : Hid ((w.alloc (.cells #[.slice ia il ic, .slice oa ol oc, .int .i64 rg, .slice sa sl sc] 25)).heap[w.heap.size]? = some (.cells #[.slice ia il ic, .slice oa ol oc, .int .i64 rg, .slice sa sl sc] 25 (0, 0))) := heap_alloc_last _ _
  have HC : Hid _ := pcheck_ok ia oa sa il ic ol oc sl sc ins outs rg ss _ s (hP.below hb0) (cell_later hb0 hs) hF
  have k0 := cellAt HX0.out 0 _ rfl
  have k1 := cellAt HX0.out 1 _ rfl
  have k2 := cellAt HX0.out 2 _ rfl
  have k3 := cellAt HX0.out 3 _ rfl
  clear hP hs hF hb0
  go_enter Tryd.func9, Tryd.ntmps9
  go_wp2_with fail
  refine Calls.mono HC.out ?_
  rintro e W ⟨rfl, hb1⟩
  have HW : Hid (Below w.heap.size w W) := HB0.out.trans (hb1.mono HB0.out.size)
  have HXW : Hid _ := heap_later HX0.out hb1
  have HKB : Hid (∀ u, Below W.heap.size W u → u.cell? ⟨w.heap.size, 0, none⟩ = some (.slice ia il ic)) := fun u hu => cellAt (heap_later HXW.out hu) 0 _ rfl
  have HKO : Hid (∀ u, Below W.heap.size W u → u.cell? ⟨w.heap.size, 1, none⟩ = some (.slice oa ol oc)) := fun u hu => cellAt (heap_later HXW.out hu) 1 _ rfl
  have HKR : Hid (∀ u, Below W.heap.size W u → u.cell? ⟨w.heap.size, 2, none⟩ = some (.int .i64 rg)) := fun u hu => cellAt (heap_later HXW.out hu) 2 _ rfl
  have HKS : Hid (∀ u, Below W.heap.size W u → u.cell? ⟨w.heap.size, 3, none⟩ = some (.slice sa sl sc)) := fun u hu => cellAt (heap_later HXW.out hu) 3 _ rfl
  have n1 : decide ((h : Int) < 1) = false := decide_eq_false (by omega)
  have n2 : decide ((64 : Int) < (h : Int)) = false := decide_eq_false (by omega)
  clear hb1 k0 k1 k2 k3 HC HB0 HX0
  go_upto_region 6 with fail
  clear n1 n2
  refine wp_region_noPanic ?_
  refine wp_region_held_drew (S := fun u => Below W.heap.size W u) (by kernel_rfl) ?_ (fun hHeld => ?_)
  · exact Below.drew (Below.refl _ W)
  obtain ⟨X0, hX0⟩ : ∃ X, X = W.drew := ⟨_, rfl⟩
  have B0 : Below W.heap.size W X0 := by rw [hX0]; exact Below.drew (Below.refl _ W)
  rw [← hX0] at hHeld ⊢
  clear hX0
  refine wpAnyH_take (i := 0) (oi := { dst := some 19, op := Op.load 25 (Operand.tmp 2), type := 25, pos := "exec.go:30", after := #[], guard := none }) (v := ?_) rfl (by kernel_rfl) (by kernel_rfl) (by kernel_rfl) (fun _ _ _ h => h) (Or.inl ⟨by rfl, ?_⟩) hHeld ?_
  rotate_left
  · intro u hSw
    have k9 := HKB.out u hSw
    have k8 := HKO.out u hSw
    have k7 := HKR.out u hSw
    have k6 := HKS.out u hSw
    go_simp
    try with_reducible rfl
  try simp only [Act.put, List.setIfInBounds_toArray, List.set_cons_zero, List.set_cons_succ]
  refine wpAnyH_take (i := 2) (oi := { dst := some 21, op := Op.move (Operand.tmp 1), type := 3, pos := "exec.go:30", after := #[], guard := none }) (v := ?_) rfl (by kernel_rfl) (by kernel_rfl) (by kernel_rfl) (fun _ _ _ h => h) (Or.inl ⟨by rfl, ?_⟩) hHeld ?_
  rotate_left
  · intro u hSw
    go_simp
    try with_reducible rfl
  try simp only [Act.put, List.setIfInBounds_toArray, List.set_cons_zero, List.set_cons_succ]
  refine wpAnyH_take (i := 3) (oi := { dst := some 22, op := Op.fieldAddr 25 (Operand.tmp 2) 0, type := 0, pos := "exec.go:30", after := #[], guard := none }) (v := ?_) rfl (by kernel_rfl) (by kernel_rfl) (by kernel_rfl) (fun _ _ _ h => h) (Or.inl ⟨by rfl, ?_⟩) hHeld ?_
  rotate_left
  · intro u hSw
    go_simp
    try with_reducible rfl
  try simp only [Act.put, List.setIfInBounds_toArray, List.set_cons_zero, List.set_cons_succ]
  refine wpAnyH_take (i := 4) (oi := { dst := some 23, op := Op.load 22 (Operand.tmp 22), type := 22, pos := "exec.go:30", after := #[{ on := 3, ground := Ground.data }], guard := none }) (v := ?_) rfl (by kernel_rfl) (by kernel_rfl) (by kernel_rfl) (fun _ _ _ h => h) (Or.inl ⟨by rfl, ?_⟩) hHeld ?_
  rotate_left
  · intro u hSw
    have k9 := HKB.out u hSw
    go_simp
    try with_reducible rfl
  try simp only [Act.put, List.setIfInBounds_toArray, List.set_cons_zero, List.set_cons_succ]
  refine wpAnyH_take (i := 5) (oi := { dst := some 24, op := Op.call { callee := Callee.builtin Builtin.len, args := #[Operand.tmp 23], argTypes := #[22] }, type := 3, pos := "exec.go:30", after := #[{ on := 4, ground := Ground.data }], guard := none }) (v := ?_) rfl (by kernel_rfl) (by kernel_rfl) (by kernel_rfl) (fun _ _ _ h => h) (Or.inl ⟨by rfl, ?_⟩) hHeld ?_
  rotate_left
  · intro u hSw
    go_simp
    try with_reducible rfl
  try simp only [Act.put, List.setIfInBounds_toArray, List.set_cons_zero, List.set_cons_succ]
  refine wpAnyH_ready (rs := [1, 6]) (by kernel_rfl) (by simp) ?_
  refine (AllReadyH.cons (o := { dst := some 20, op := Op.call { callee := Callee.value (Operand.func 22), args := #[Operand.tmp 19], argTypes := #[25] }, type := 25, pos := "exec.go:30", after := #[{ on := 0, ground := Ground.data }], guard := none }) rfl (fun K hK => ?_) (AllReadyH.cons (o := { dst := some 25, op := Op.makeSlice 29 (Operand.tmp 24) (Operand.tmp 24), type := 29, pos := "exec.go:30", after := #[{ on := 5, ground := Ground.data }, { on := 5, ground := Ground.data }], guard := none }) rfl (fun K hK => ?_) AllReadyH.nil))
  · go_simp
    refine Calls.mono (own_F ia oa sa il ic ol oc sl sc rg ins outs ss _ (HP.out.below (HW.out.trans (B0.mono HW.out.size))) (by omega) (by omega) (by omega)) ?_
    rintro e V1 ⟨ia', ic', oa', oc', sa', sc', rfl, ho1, ho2, ho3, hv1⟩
    have bV1 : Below W.heap.size W V1 := B0.trans (hv1.mono B0.size)
    have hO1 := own_mono9E ho1 (B' := W.heap.size) B0.size
    have hO2 := own_mono9E ho2 (B' := W.heap.size) B0.size
    have hO3 := own_mono9E ho3 (B' := W.heap.size) B0.size
    clear ho1 ho2 ho3
    go_wp2_with fail
    refine hK.out _ _ ?_ (fun hHeld => ?_)
    · exact bV1
    clear hK K
    try simp only [Act.put, List.setIfInBounds_toArray, List.set_cons_zero, List.set_cons_succ]
    refine wpAnyH_ready (rs := [6]) (by kernel_rfl) (by simp) ?_
    refine (AllReadyH.cons (o := { dst := some 25, op := Op.makeSlice 29 (Operand.tmp 24) (Operand.tmp 24), type := 29, pos := "exec.go:30", after := #[{ on := 5, ground := Ground.data }, { on := 5, ground := Ground.data }], guard := none }) rfl (fun K hK => ?_) AllReadyH.nil)
    have hmk := run_makeN il h (by omega) V1
    obtain ⟨V2, hV2⟩ : ∃ Z : World, Z = V1.alloc (.cells (slO il h (fun _ => none)) 26) := ⟨_, rfl⟩
    have hv2 : Below V1.heap.size V1 V2 := by rw [hV2]; exact (Below.refl _ _).alloc (Nat.le_refl _) _
    have bV2 : Below W.heap.size W V2 := bV1.trans (hv2.mono bV1.size)
    obtain ⟨Fd, hFd⟩ : ∃ Fd, Fd = V1.heap.size := ⟨_, rfl⟩
    have hfB : W.heap.size ≤ Fd := by rw [hFd]; exact bV1.size
    have hF2 : V2.heap[Fd]? = some (.cells (slO il h (fun _ => none)) 26 (0, 0)) := by rw [hV2, hFd]; exact heap_alloc_last _ _
    replace hO1 := own_below hO1 hv2
    replace hO2 := own_below hO2 hv2
    replace hO3 := own_below hO3 hv2
    have HV2 : Hid (V2 = V1.alloc (.cells (slO il h (fun _ => none)) 26)) := hV2
    have HFE : Hid (Fd = V1.heap.size) := hFd
    clear hV2 hFd
    go_simp
    rw [← HV2.out, ← HFE.out]
    refine hK.out _ _ ?_ (fun hHeld => ?_)
    · exact bV2
    clear hK K
    try simp only [Act.put, List.setIfInBounds_toArray, List.set_cons_zero, List.set_cons_succ]
    refine wpAnyH_take (i := 7) (oi := { dst := some 26, op := Op.build 58 #[(0, Operand.tmp 20), (1, Operand.tmp 21), (2, Operand.tmp 25)], type := 58, pos := "exec.go:30", after := #[{ on := 1, ground := Ground.data }, { on := 2, ground := Ground.data }, { on := 6, ground := Ground.data }], guard := none }) (v := ?_) rfl (by kernel_rfl) (by kernel_rfl) (by kernel_rfl) (fun _ _ _ h => h) (Or.inl ⟨by rfl, ?_⟩) hHeld ?_
    rotate_left
    · intro u hSw
      go_simp
      try with_reducible rfl
    try simp only [Act.put, List.setIfInBounds_toArray, List.set_cons_zero, List.set_cons_succ]
    refine wpAnyH_ready (rs := [8]) (by kernel_rfl) (by simp) ?_
    refine (AllReadyH.cons (o := { dst := some 27, op := Op.box 58 (Operand.tmp 26), type := 31, pos := "exec.go:30", after := #[{ on := 7, ground := Ground.data }], guard := none }) rfl (fun K hK => ?_) AllReadyH.nil)
    obtain ⟨Z, hZ⟩ : ∃ Z : World, Z = V2.alloc (.cells #[.slice ia' il ic', .slice oa' ol oc', .int .i64 rg, .slice sa' sl sc', .int .i64 h, .slice (some ⟨Fd, 0, none⟩) il il, .bool false, .slice none 0 0, .slice none 0 0] 58) := ⟨_, rfl⟩
    have hvz : Below V2.heap.size V2 Z := by rw [hZ]; exact (Below.refl _ _).alloc (Nat.le_refl _) _
    have bZ : Below W.heap.size W Z := bV2.trans (hvz.mono bV2.size)
    obtain ⟨mb, hmb⟩ : ∃ mb, mb = V2.heap.size := ⟨_, rfl⟩
    have hmB : W.heap.size ≤ mb := by rw [hmb]; exact bV2.size
    have hKM : Z.heap[mb]? = some (.cells #[.slice ia' il ic', .slice oa' ol oc', .int .i64 rg, .slice sa' sl sc', .int .i64 h, .slice (some ⟨Fd, 0, none⟩) il il, .bool false, .slice none 0 0, .slice none 0 0] 58 (0, 0)) := by rw [hZ, hmb]; exact heap_alloc_last _ _
    have HZE : Hid (Z = V2.alloc (.cells #[.slice ia' il ic', .slice oa' ol oc', .int .i64 rg, .slice sa' sl sc', .int .i64 h, .slice (some ⟨Fd, 0, none⟩) il il, .bool false, .slice none 0 0, .slice none 0 0] 58)) := hZ
    have HME : Hid (mb = V2.heap.size) := hmb
    clear hZ hmb
    go_simp
    rw [← HZE.out, ← HME.out]
    refine hK.out _ _ ?_ (fun hHeld => ?_)
    · exact bZ
    clear hK K
    try simp only [Act.put, List.setIfInBounds_toArray, List.set_cons_zero, List.set_cons_succ]
    refine wpAnyH_take (i := 9) (oi := { dst := some 4, op := Op.assign (Operand.tmp 27), type := 31, pos := "exec.go:30", after := #[{ on := 8, ground := Ground.data }, { on := 1, ground := Ground.chain }, { on := 0, ground := Ground.phase }, { on := 1, ground := Ground.phase }, { on := 2, ground := Ground.phase }, { on := 3, ground := Ground.phase }, { on := 4, ground := Ground.phase }, { on := 5, ground := Ground.phase }, { on := 6, ground := Ground.phase }, { on := 7, ground := Ground.phase }, { on := 8, ground := Ground.phase }], guard := none }) (v := ?_) rfl (by kernel_rfl) (by kernel_rfl) (by kernel_rfl) (fun _ _ _ h => h) (Or.inl ⟨by rfl, ?_⟩) hHeld ?_
    rotate_left
    · intro u hSw
      go_simp
      try with_reducible rfl
    try simp only [Act.put, List.setIfInBounds_toArray, List.set_cons_zero, List.set_cons_succ]
    refine wpAnyH_take (i := 10) (oi := { dst := some 5, op := Op.assign (Operand.const Value.nilIface), type := 33, pos := "exec.go:30", after := #[{ on := 9, ground := Ground.chain }, { on := 0, ground := Ground.phase }, { on := 1, ground := Ground.phase }, { on := 2, ground := Ground.phase }, { on := 3, ground := Ground.phase }, { on := 4, ground := Ground.phase }, { on := 5, ground := Ground.phase }, { on := 6, ground := Ground.phase }, { on := 7, ground := Ground.phase }, { on := 8, ground := Ground.phase }, { on := 9, ground := Ground.phase }], guard := none }) (v := ?_) rfl (by kernel_rfl) (by kernel_rfl) (by kernel_rfl) (fun _ _ _ h => h) (Or.inl ⟨by rfl, ?_⟩) hHeld ?_
    rotate_left
    · intro u hSw
      go_simp
      try with_reducible rfl
    try simp only [Act.put, List.setIfInBounds_toArray, List.set_cons_zero, List.set_cons_succ]
    refine wpAnyH_done (by kernel_rfl) ?_ _
    refine NoPanic.normal ?_
    have HMC : Hid (MacW N W.heap.size Z mb Fd ia' oa' sa' il ic' ol oc' sl sc' rg h ins outs ss (fun _ => none) X false (.slice none 0 0)) :=
      ⟨hKM, own_below hO1 hvz, own_below hO2 hvz, own_below hO3 hvz, HF.out, H1.out, H64.out, heap_later hF2 hvz, (fun i hi p hp => absurd hp (fun e => by cases e)), (fun e => by cases e), (fun e => by cases e), hmB, hfB⟩
    have HBZ : Hid (Below w.heap.size w Z) := HW.out.trans (bZ.mono HW.out.size)
    have HWS : Hid (w.heap.size ≤ W.heap.size) := HW.out.size
    go_wp2
    go_ret2
    exact ⟨mb, Fd, ia', ic', oa', oc', sa', sc', rfl, HMC.out.lower HWS.out, HBZ.out⟩
  · have hmk := run_makeN il h (by omega) X0
    obtain ⟨V1, hV1⟩ : ∃ Z : World, Z = X0.alloc (.cells (slO il h (fun _ => none)) 26) := ⟨_, rfl⟩
    have hv1 : Below X0.heap.size X0 V1 := by rw [hV1]; exact (Below.refl _ _).alloc (Nat.le_refl _) _
    have bV1 : Below W.heap.size W V1 := B0.trans (hv1.mono B0.size)
    obtain ⟨Fd, hFd⟩ : ∃ Fd, Fd = X0.heap.size := ⟨_, rfl⟩
    have hfB : W.heap.size ≤ Fd := by rw [hFd]; exact B0.size
    have hF1 : V1.heap[Fd]? = some (.cells (slO il h (fun _ => none)) 26 (0, 0)) := by rw [hV1, hFd]; exact heap_alloc_last _ _
    have HV1 : Hid (V1 = X0.alloc (.cells (slO il h (fun _ => none)) 26)) := hV1
    have HFE : Hid (Fd = X0.heap.size) := hFd
    clear hV1 hFd
    go_simp
    rw [← HV1.out, ← HFE.out]
    refine hK.out _ _ ?_ (fun hHeld => ?_)
    · exact bV1
    clear hK K
    try simp only [Act.put, List.setIfInBounds_toArray, List.set_cons_zero, List.set_cons_succ]
    refine wpAnyH_ready (rs := [1]) (by kernel_rfl) (by simp) ?_
    refine (AllReadyH.cons (o := { dst := some 20, op := Op.call { callee := Callee.value (Operand.func 22), args := #[Operand.tmp 19], argTypes := #[25] }, type := 25, pos := "exec.go:30", after := #[{ on := 0, ground := Ground.data }], guard := none }) rfl (fun K hK => ?_) AllReadyH.nil)
    go_simp
    refine Calls.mono (own_F ia oa sa il ic ol oc sl sc rg ins outs ss _ (HP.out.below (HW.out.trans (bV1.mono HW.out.size))) (by omega) (by omega) (by omega)) ?_
    rintro e V2 ⟨ia', ic', oa', oc', sa', sc', rfl, ho1, ho2, ho3, hv2⟩
    have bV2 : Below W.heap.size W V2 := bV1.trans (hv2.mono bV1.size)
    have hO1 := own_mono9E ho1 (B' := W.heap.size) bV1.size
    have hO2 := own_mono9E ho2 (B' := W.heap.size) bV1.size
    have hO3 := own_mono9E ho3 (B' := W.heap.size) bV1.size
    clear ho1 ho2 ho3
    have hF2 := heap_later hF1 hv2
    go_wp2_with fail
    refine hK.out _ _ ?_ (fun hHeld => ?_)
    · exact bV2
    clear hK K
    try simp only [Act.put, List.setIfInBounds_toArray, List.set_cons_zero, List.set_cons_succ]
    refine wpAnyH_take (i := 7) (oi := { dst := some 26, op := Op.build 58 #[(0, Operand.tmp 20), (1, Operand.tmp 21), (2, Operand.tmp 25)], type := 58, pos := "exec.go:30", after := #[{ on := 1, ground := Ground.data }, { on := 2, ground := Ground.data }, { on := 6, ground := Ground.data }], guard := none }) (v := ?_) rfl (by kernel_rfl) (by kernel_rfl) (by kernel_rfl) (fun _ _ _ h => h) (Or.inl ⟨by rfl, ?_⟩) hHeld ?_
    rotate_left
    · intro u hSw
      go_simp
      try with_reducible rfl
    try simp only [Act.put, List.setIfInBounds_toArray, List.set_cons_zero, List.set_cons_succ]
    refine wpAnyH_ready (rs := [8]) (by kernel_rfl) (by simp) ?_
    refine (AllReadyH.cons (o := { dst := some 27, op := Op.box 58 (Operand.tmp 26), type := 31, pos := "exec.go:30", after := #[{ on := 7, ground := Ground.data }], guard := none }) rfl (fun K hK => ?_) AllReadyH.nil)
    obtain ⟨Z, hZ⟩ : ∃ Z : World, Z = V2.alloc (.cells #[.slice ia' il ic', .slice oa' ol oc', .int .i64 rg, .slice sa' sl sc', .int .i64 h, .slice (some ⟨Fd, 0, none⟩) il il, .bool false, .slice none 0 0, .slice none 0 0] 58) := ⟨_, rfl⟩
    have hvz : Below V2.heap.size V2 Z := by rw [hZ]; exact (Below.refl _ _).alloc (Nat.le_refl _) _
    have bZ : Below W.heap.size W Z := bV2.trans (hvz.mono bV2.size)
    obtain ⟨mb, hmb⟩ : ∃ mb, mb = V2.heap.size := ⟨_, rfl⟩
    have hmB : W.heap.size ≤ mb := by rw [hmb]; exact bV2.size
    have hKM : Z.heap[mb]? = some (.cells #[.slice ia' il ic', .slice oa' ol oc', .int .i64 rg, .slice sa' sl sc', .int .i64 h, .slice (some ⟨Fd, 0, none⟩) il il, .bool false, .slice none 0 0, .slice none 0 0] 58 (0, 0)) := by rw [hZ, hmb]; exact heap_alloc_last _ _
    have HZE : Hid (Z = V2.alloc (.cells #[.slice ia' il ic', .slice oa' ol oc', .int .i64 rg, .slice sa' sl sc', .int .i64 h, .slice (some ⟨Fd, 0, none⟩) il il, .bool false, .slice none 0 0, .slice none 0 0] 58)) := hZ
    have HME : Hid (mb = V2.heap.size) := hmb
    clear hZ hmb
    go_simp
    rw [← HZE.out, ← HME.out]
    refine hK.out _ _ ?_ (fun hHeld => ?_)
    · exact bZ
    clear hK K
    try simp only [Act.put, List.setIfInBounds_toArray, List.set_cons_zero, List.set_cons_succ]
    refine wpAnyH_take (i := 9) (oi := { dst := some 4, op := Op.assign (Operand.tmp 27), type := 31, pos := "exec.go:30", after := #[{ on := 8, ground := Ground.data }, { on := 1, ground := Ground.chain }, { on := 0, ground := Ground.phase }, { on := 1, ground := Ground.phase }, { on := 2, ground := Ground.phase }, { on := 3, ground := Ground.phase }, { on := 4, ground := Ground.phase }, { on := 5, ground := Ground.phase }, { on := 6, ground := Ground.phase }, { on := 7, ground := Ground.phase }, { on := 8, ground := Ground.phase }], guard := none }) (v := ?_) rfl (by kernel_rfl) (by kernel_rfl) (by kernel_rfl) (fun _ _ _ h => h) (Or.inl ⟨by rfl, ?_⟩) hHeld ?_
    rotate_left
    · intro u hSw
      go_simp
      try with_reducible rfl
    try simp only [Act.put, List.setIfInBounds_toArray, List.set_cons_zero, List.set_cons_succ]
    refine wpAnyH_take (i := 10) (oi := { dst := some 5, op := Op.assign (Operand.const Value.nilIface), type := 33, pos := "exec.go:30", after := #[{ on := 9, ground := Ground.chain }, { on := 0, ground := Ground.phase }, { on := 1, ground := Ground.phase }, { on := 2, ground := Ground.phase }, { on := 3, ground := Ground.phase }, { on := 4, ground := Ground.phase }, { on := 5, ground := Ground.phase }, { on := 6, ground := Ground.phase }, { on := 7, ground := Ground.phase }, { on := 8, ground := Ground.phase }, { on := 9, ground := Ground.phase }], guard := none }) (v := ?_) rfl (by kernel_rfl) (by kernel_rfl) (by kernel_rfl) (fun _ _ _ h => h) (Or.inl ⟨by rfl, ?_⟩) hHeld ?_
    rotate_left
    · intro u hSw
      go_simp
      try with_reducible rfl
    try simp only [Act.put, List.setIfInBounds_toArray, List.set_cons_zero, List.set_cons_succ]
    refine wpAnyH_done (by kernel_rfl) ?_ _
    refine NoPanic.normal ?_
    have HMC : Hid (MacW N W.heap.size Z mb Fd ia' oa' sa' il ic' ol oc' sl sc' rg h ins outs ss (fun _ => none) X false (.slice none 0 0)) :=
      ⟨hKM, own_below hO1 hvz, own_below hO2 hvz, own_below hO3 hvz, HF.out, H1.out, H64.out, heap_later hF2 hvz, (fun i hi p hp => absurd hp (fun e => by cases e)), (fun e => by cases e), (fun e => by cases e), hmB, hfB⟩
    have HBZ : Hid (Below w.heap.size w Z) := HW.out.trans (bZ.mono HW.out.size)
    have HWS : Hid (w.heap.size ≤ W.heap.size) := HW.out.size
    go_wp2
    go_ret2
    exact ⟨mb, Fd, ia', ic', oa', oc', sa', sc', rfl, HMC.out.lower HWS.out, HBZ.out⟩
set_option maxHeartbeats 4000000 in
theorem new_bad (ia oa sa : Option Addr) (il ic ol oc sl sc : Nat) (rg h : Int) (ins outs : List Int) (ss : List Stp) (w : World) (s : Addr) (hP : PrgW w ia oa sa il ic ol oc sl sc ins outs ss) (hs : w.cell? ⟨5, 0, none⟩ = some (errAt s)) (hF : ¬ InF ins outs rg ss) :
    Calls Tryd.prog 9 #[.agg #[.slice ia il ic, .slice oa ol oc, .int .i64 rg, .slice sa sl sc], .int .i64 h] w fun e w' => e = .returned (.tuple #[.pointer none, errAt s]) ∧ Below w.heap.size w w' := by
  have hb0 : Below w.heap.size w (w.alloc (.cells #[.slice ia il ic, .slice oa ol oc, .int .i64 rg, .slice sa sl sc] 25)) := (Below.refl _ _).alloc (Nat.le_refl _) _
  have HB0 : Hid _ := hb0
  have HX0 : Hid ((w.alloc (.cells #[.slice ia il ic, .slice oa ol oc, .int .i64 rg, .slice sa sl sc] 25)).heap[w.heap.size]? = some (.cells #[.slice ia il ic, .slice oa ol oc, .int .i64 rg, .slice sa sl sc] 25 (0, 0))) := heap_alloc_last _ _
  have HC : Hid _ := pcheck_bad ia oa sa il ic ol oc sl sc ins outs rg ss _ s (hP.below hb0) (cell_later hb0 hs) hF
  have k0 := cellAt HX0.out 0 _ rfl
  have k1 := cellAt HX0.out 1 _ rfl
  have k2 := cellAt HX0.out 2 _ rfl
  have k3 := cellAt HX0.out 3 _ rfl
  clear hP hs hF hb0
  go_enter Tryd.func9, Tryd.ntmps9
  go_wp2_with fail
  refine Calls.mono HC.out ?_
  unfold errAt
  rintro e W ⟨rfl, hb1⟩
  have HW : Hid (Below w.heap.size w W) := HB0.out.trans (hb1.mono HB0.out.size)
  clear hb1 k0 k1 k2 k3 HC HB0 HX0
  go_wp2
  go_ret2
  exact ⟨rfl, HW.out⟩
set_option maxHeartbeats 4000000 in
theorem new_size (ia oa sa : Option Addr) (il ic ol oc sl sc : Nat) (rg h : Int) (ins outs : List Int) (ss : List Stp) (w : World) (s z : Addr) (hP : PrgW w ia oa sa il ic ol oc sl sc ins outs ss) (hs : w.cell? ⟨5, 0, none⟩ = some (errAt s)) (hz : w.cell? ⟨0, 0, none⟩ = some (errAt z)) (hF : InF ins outs rg ss) (hh : ¬ (1 ≤ h ∧ h ≤ 64)) :
    Calls Tryd.prog 9 #[.agg #[.slice ia il ic, .slice oa ol oc, .int .i64 rg, .slice sa sl sc], .int .i64 h] w fun e w' => e = .returned (.tuple #[.pointer none, errAt z]) ∧ Below w.heap.size w w' := by
  have hb0 : Below w.heap.size w (w.alloc (.cells #[.slice ia il ic, .slice oa ol oc, .int .i64 rg, .slice sa sl sc] 25)) := (Below.refl _ _).alloc (Nat.le_refl _) _
  have HB0 : Hid _ := hb0
  have HX0 : Hid ((w.alloc (.cells #[.slice ia il ic, .slice oa ol oc, .int .i64 rg, .slice sa sl sc] 25)).heap[w.heap.size]? = some (.cells #[.slice ia il ic, .slice oa ol oc, .int .i64 rg, .slice sa sl sc] 25 (0, 0))) := heap_alloc_last _ _
  have HC : Hid _ := pcheck_ok ia oa sa il ic ol oc sl sc ins outs rg ss _ s (hP.below hb0) (cell_later hb0 hs) hF
  have HZ : Hid (w.cell? ⟨0, 0, none⟩ = some (errAt z)) := hz
  have k0 := cellAt HX0.out 0 _ rfl
  have k1 := cellAt HX0.out 1 _ rfl
  have k2 := cellAt HX0.out 2 _ rfl
  have k3 := cellAt HX0.out 3 _ rfl
  clear hP hs hF hb0 hz
  go_enter Tryd.func9, Tryd.ntmps9
  go_wp2_with fail
  refine Calls.mono HC.out ?_
  rintro e W ⟨rfl, hb1⟩
  have HW : Hid (Below w.heap.size w W) := HB0.out.trans (hb1.mono HB0.out.size)
  have z9 := cell_later HW.out HZ.out
  clear hb1 k0 k1 k2 k3 HC HB0 HX0
  by_cases h1 : h < 1
  · have n1 : decide (h < 1) = true := decide_eq_true h1
    clear hh h1
    go_wp2
    go_region
    go_wp2
    go_ret2
    exact ⟨rfl, HW.out.drew⟩
  · have n1 : decide (h < 1) = false := decide_eq_false h1
    have n2 : decide (64 < h) = true := decide_eq_true (by omega)
    clear hh h1
    go_wp2
    go_region
    go_wp2
    go_ret2
    exact ⟨rfl, HW.out.drew⟩
end Go.Proofs.YtoalbopcapgojabDoor

/- What Feed and Out of package exec answer. -/
namespace Go.Proofs.YtoalbopcapgojabDoor
open Go.RowKit Gf
set_option linter.unusedVariables false
set_option maxRecDepth 20000
set_option linter.unusedSimpArgs false
theorem own_kind {w w' : World} {B size n r : Nat} {v : Value} {e t : TypeId} {xs : List Value} {cs : Array Value} {fr : Nat × Nat} (ho : w.ownsRow B e size v n xs) (hk : w.heap[r]? = some (.cells cs t fr)) (hne : t ≠ e) (hg : w.grownBy w' (some r)) : w'.ownsRow B e size v n xs :=
  ho.kept hg (by
    rcases ho.2 with ⟨rfl, _⟩ | ⟨g, cap, cur, rfl, _, h, _⟩
    · exact .inl rfl
    · refine .inr fun e2 => ?_
      have e3 : g = r := by simpa [Value.ownBlock] using e2
      rw [e3, hk] at h
      cases h
      exact hne rfl)
variable {N B : Nat} {w : World} {mb Fd : Nat} {ia oa sa : Option Addr} {il ic ol oc sl sc rg h : Nat} {ins outs : List Int} {ss : List Stp} {fd : Nat → Option (Option Addr × Nat)} {X : Int → Nat → F} {ran : Bool} {ov : Value}
/-- a block of another kind turned, or another machine's -/
theorem MacW.grown {w' : World} {r : Nat} {cs : Array Value} {t : TypeId} {fr : Nat × Nat} (hm : MacW N B w mb Fd ia oa sa il ic ol oc sl sc rg h ins outs ss fd X ran ov) (hg : w.grownBy w' (some r)) (hk : w.heap[r]? = some (.cells cs t fr)) (h1 : t ≠ 3) (h2 : t ≠ 55) (h3 : t ≠ 5) (hr : r ≠ mb) (hf : r ≠ Fd) (hn : r < N) :
    MacW N B w' mb Fd ia oa sa il ic ol oc sl sc rg h ins outs ss fd X ran ov := by
  have hne : NoElems w (some r) := noElems_some hk h3
  refine { hm with blk := (hg.block mb (ltHeap hm.blk) (fun e => hr (Option.some.inj e).symm)).trans hm.blk, I := own_kind hm.I hk h1 hg, O := own_kind hm.O hk h1 hg, S := own_kind hm.S hk h2 hg, fed := (hg.block Fd (ltHeap hm.fed) (fun e => hf (Option.some.inj e).symm)).trans hm.fed, row := fun i hi p hp => ⟨row8T_grown (hm.row i hi p hp).1 hg hne, (hm.row i hi p hp).2⟩, out := fun hr2 => ?_ }
  obtain ⟨Q, g, q1, q2, q3, q4⟩ := hm.out hr2
  refine ⟨Q, g, q1, q2, (hg.block Q (ltHeap q3) (fun e => by have := Option.some.inj e; omega)).trans q3, fun d hd => ?_⟩
  obtain ⟨p, p1, p2, p3⟩ := q4 d hd
  exact ⟨p, p1, row8T_grown p2 hg hne, p3⟩
/-- an input fed -/
theorem MacW.feed {p q c : Nat} {xs : List F} (hm : MacW N B w mb Fd ia oa sa il ic ol oc sl sc rg h ins outs ss fd X ran ov) (hp : p < il) (hfp : fd p = none) (h8 : Has8 w q xs c) (hx : xs.length = h) :
    MacW N B (w.setCell ⟨Fd, p, none⟩ (.slice (some ⟨q, 0, none⟩) h c)) mb Fd ia oa sa il ic ol oc sl sc rg h ins outs ss (fun i => if i = p then some (some ⟨q, 0, none⟩, c) else fd i) (fun i => if i = (p : Int) then at8 xs else X i) ran ov := by
  have hg : w.grownBy (w.setCell ⟨Fd, p, none⟩ (.slice (some ⟨q, 0, none⟩) h c)) (some Fd) := grownBy_setCell (World.grownBy.refl _ _) _
  have hne : NoElems w (some Fd) := noElems_some hm.fed (by decide)
  have hmF : mb ≠ Fd := fun e => by
    have h1 := hm.blk
    rw [e, hm.fed] at h1
    injection h1 with h1
    injection h1 with h1 h2 h3
    exact absurd h2 (by decide)
  refine { hm with blk := (heap_setCell_other _ _ _ _ hmF).trans hm.blk, I := own_kind hm.I hm.fed (by decide) hg, O := own_kind hm.O hm.fed (by decide) hg, S := own_kind hm.S hm.fed (by decide) hg, fed := ?_, row := fun i hi p9 hp9 => ?_, all := fun hr => ?_, out := fun hr => ?_ }
  · rw [heap_setCell_same _ _ _ _ _ _ hm.fed, slO_set (some ⟨q, 0, none⟩, c) hp]
  · by_cases e : i = p
    · subst e
      simp only [if_true, Option.some.injEq] at hp9
      subst hp9
      simp only [if_true]
      have e8 : rowF h (at8 xs) = xs := (rowF_eq (by rw [hx]) fun j hj => rfl).symm
      rw [e8]
      refine ⟨row8T_grown (has8_U h8) hg hne, ?_, fun e => by cases e⟩
      obtain ⟨cur, _, _, hl, _⟩ := h8
      rw [← hx]; exact hl
    · simp only [e, if_false] at hp9
      rw [if_neg (show (i : Int) ≠ (p : Int) by omega)]
      exact ⟨row8T_grown (hm.row i hi p9 hp9).1 hg hne, (hm.row i hi p9 hp9).2⟩
  · have := hm.all hr p hp
    rw [hfp] at this
    cases this
  · have := hm.all hr p hp
    rw [hfp] at this
    cases this
theorem clone8_F9 (l cap : Nat) (bp : Addr) (xs : List F) (w : World) (hl : l = xs.length) (hl9 : l ≤ 140737488355328) (hX : Row8 w (some bp) xs) :
    Calls Tryd.prog 24 #[.slice (some bp) l cap] w fun e w' => ∃ q c, e = .returned (.slice (some ⟨q, 0, none⟩) l c) ∧ Has8 w' q xs c ∧ w.heap.size ≤ q ∧ Below w.heap.size w w' := clone8_A l cap bp xs w hl hl9 hX
set_option maxRecDepth 100000 in
set_option maxHeartbeats 8000000 in
theorem feed_ok (hm : MacW N B w mb Fd ia oa sa il ic ol oc sl sc rg h ins outs ss fd X ran ov) (half : Int) (p lb cb : Nat) (ba : Option Addr) (xs : List F) (hp : ins[p]? = some half) (hfp : fd p = none) (hlb : lb = xs.length) (hlh : lb = h) (hxs : Row8 w ba xs) :
    Calls Tryd.prog 12 #[.pointer (some ⟨mb, 0, none⟩), .int .i64 half, .slice ba lb cb] w fun e w' => ∃ q c, e = .returned .nilIface ∧
      MacW N B w' mb Fd ia oa sa il ic ol oc sl sc rg h ins outs ss (fun i => if i = p then some (some ⟨q, 0, none⟩, c) else fd i) (fun i => if i = (p : Int) then at8 xs else X i) ran ov ∧ w.grownBy w' (some Fd) := by
  obtain ⟨hil, hol, hrg, hsl⟩ := hm.sizes
  have hp9 := hm.prg
  have q23 := fun (w : World) (a : Option Addr) (l c : Nat) => run_neq_slice_nil (P := Tryd.prog) w 26 5 a l c Tryd.underlying26
  have hpl : p < il := by rw [hp9.eil]; exact (List.getElem?_eq_some_iff.1 hp).1
  have hl64 : lb ≤ 64 := by have := hm.h64; omega
  obtain ⟨bp, hbp⟩ : ∃ bp, ba = some bp := by
    rcases hxs with e | ⟨b, off, e, _⟩
    · have := hm.h1
      rw [e] at hlb
      simp at hlb
      omega
    · exact ⟨_, e⟩
  subst hbp
  have HXS : Hid (Row8 w (some bp) xs) := hxs
  have HM : Hid (MacW N B w mb Fd ia oa sa il ic ol oc sl sc rg h ins outs ss fd X ran ov) := hm
  have HC : Hid _ := index_at il ic ia ins half p w hp9.eil (by omega) hp9.I hp (good_at hm.frm.1 half)
  have HLB : Hid (lb = xs.length) := hlb
  have HFP : Hid (fd p = none) := hfp
  have k0 := cellAt hm.blk 0 _ rfl
  have k4 := cellAt hm.blk 4 _ rfl
  have k5 := cellAt hm.blk 5 _ rfl
  have k6 := cellAt hm.fed p _ (slO_at hpl)
  rw [svO, hfp] at k6
  simp only at k6
  have HK5 : Hid (∀ u, w.grownBy u (some Fd) → u.cell? ⟨mb, 5, none⟩ = some (.slice (some ⟨Fd, 0, none⟩) il il)) := fun u hu => by
    have hne : mb ≠ Fd := fun e => by
      have h1 := HM.out.blk
      rw [e, HM.out.fed] at h1
      injection h1 with h1
      injection h1 with h1 h2 h3
      exact absurd h2 (by decide)
    exact cell_grown9 hu (cellAt HM.out.blk 5 _ rfl) hne
  subst hlh
  clear hm hp9 hp hfp hlb hxs
  go_enter Tryd.func12, Tryd.ntmps12
  go_wp2_with fail
  refine Calls.mono HC.out ?_
  rintro e w1 ⟨rfl, rfl⟩
  go_upto_region 8 with fail
  clear k0 k4 k5 k6
  refine wp_region_noPanic ?_
  refine wp_region_held_drew (S := fun u => w.grownBy u (some Fd)) (by kernel_rfl) ?_ (fun hHeld => ?_)
  · exact grownBy_drew (World.grownBy.refl _ _)
  refine wpAnyH_take (i := 0) (oi := { dst := some 35, op := Op.move (Operand.tmp 0), type := 31, pos := "exec.go:64", after := #[], guard := none }) (v := ?_) rfl (by kernel_rfl) (by kernel_rfl) (by kernel_rfl) (fun _ _ _ h => h) (Or.inl ⟨by rfl, ?_⟩) hHeld ?_
  rotate_left
  · intro u hSw
    go_simp
    try with_reducible rfl
  try simp only [Act.put, List.setIfInBounds_toArray, List.set_cons_zero, List.set_cons_succ]
  refine wpAnyH_take (i := 1) (oi := { dst := some 36, op := Op.nilCheck (Operand.tmp 35), type := 0, pos := "exec.go:64", after := #[{ on := 0, ground := Ground.data }], guard := none }) (v := ?_) rfl (by kernel_rfl) (by kernel_rfl) (by kernel_rfl) (fun _ _ _ h => h) (Or.inl ⟨by rfl, ?_⟩) hHeld ?_
  rotate_left
  · intro u hSw
    go_simp
    try with_reducible rfl
  try simp only [Act.put, List.setIfInBounds_toArray, List.set_cons_zero, List.set_cons_succ]
  refine wpAnyH_take (i := 2) (oi := { dst := some 37, op := Op.fieldAddr 58 (Operand.tmp 36) 2, type := 0, pos := "exec.go:64", after := #[{ on := 1, ground := Ground.data }], guard := none }) (v := ?_) rfl (by kernel_rfl) (by kernel_rfl) (by kernel_rfl) (fun _ _ _ h => h) (Or.inl ⟨by rfl, ?_⟩) hHeld ?_
  rotate_left
  · intro u hSw
    go_simp
    try with_reducible rfl
  try simp only [Act.put, List.setIfInBounds_toArray, List.set_cons_zero, List.set_cons_succ]
  refine wpAnyH_take (i := 3) (oi := { dst := some 38, op := Op.load 29 (Operand.tmp 37), type := 29, pos := "exec.go:64", after := #[{ on := 2, ground := Ground.data }], guard := none }) (v := ?_) rfl (by kernel_rfl) (by kernel_rfl) (by kernel_rfl) (fun _ _ _ h => h) (Or.inl ⟨by rfl, ?_⟩) hHeld ?_
  rotate_left
  · intro u hSw
    have k9 := HK5.out u hSw
    go_simp
    try with_reducible rfl
  try simp only [Act.put, List.setIfInBounds_toArray, List.set_cons_zero, List.set_cons_succ]
  refine wpAnyH_take (i := 4) (oi := { dst := some 39, op := Op.move (Operand.tmp 7), type := 3, pos := "exec.go:64", after := #[], guard := none }) (v := ?_) rfl (by kernel_rfl) (by kernel_rfl) (by kernel_rfl) (fun _ _ _ h => h) (Or.inl ⟨by rfl, ?_⟩) hHeld ?_
  rotate_left
  · intro u hSw
    go_simp
    try with_reducible rfl
  try simp only [Act.put, List.setIfInBounds_toArray, List.set_cons_zero, List.set_cons_succ]
  refine wpAnyH_take (i := 5) (oi := { dst := some 40, op := Op.move (Operand.tmp 2), type := 26, pos := "exec.go:64", after := #[], guard := none }) (v := ?_) rfl (by kernel_rfl) (by kernel_rfl) (by kernel_rfl) (fun _ _ _ h => h) (Or.inl ⟨by rfl, ?_⟩) hHeld ?_
  rotate_left
  · intro u hSw
    go_simp
    try with_reducible rfl
  try simp only [Act.put, List.setIfInBounds_toArray, List.set_cons_zero, List.set_cons_succ]
  refine wpAnyH_ready (rs := [6]) (by kernel_rfl) (by simp) ?_
  refine (AllReadyH.cons (o := { dst := some 41, op := Op.call { callee := Callee.value (Operand.func 24), args := #[Operand.tmp 40], argTypes := #[26] }, type := 26, pos := "exec.go:64", after := #[{ on := 5, ground := Ground.data }], guard := none }) rfl (fun K hK => ?_) AllReadyH.nil)
  go_simp
  refine Calls.mono (clone8_F9 lb cb bp xs _ HLB.out (by omega) (row8_below HXS.out (Below.drew (Below.refl _ w)))) ?_
  rintro e V ⟨q, c, rfl, h8, hq, hv⟩
  have bV : Below w.heap.size w V := (Below.drew (Below.refl _ w)).trans hv
  have gV : w.grownBy V (some Fd) := grown_below (grownBy_drew (World.grownBy.refl _ _)) hv
  go_wp2_with fail
  refine hK.out _ _ ?_ (fun hHeld => ?_)
  · exact gV
  clear hK K
  try simp only [Act.put, List.setIfInBounds_toArray, List.set_cons_zero, List.set_cons_succ]
  refine wpAnyH_take (i := 7) (oi := { dst := some 42, op := Op.indexAddr 29 (Operand.tmp 38) (Operand.tmp 39), type := 0, pos := "exec.go:64", after := #[{ on := 3, ground := Ground.data }, { on := 4, ground := Ground.data }, { on := 0, ground := Ground.phase }, { on := 1, ground := Ground.phase }, { on := 2, ground := Ground.phase }, { on := 3, ground := Ground.phase }, { on := 4, ground := Ground.phase }, { on := 5, ground := Ground.phase }, { on := 6, ground := Ground.phase }], guard := none }) (v := ?_) rfl (by kernel_rfl) (by kernel_rfl) (by kernel_rfl) (fun _ _ _ h => h) (Or.inl ⟨by rfl, ?_⟩) hHeld ?_
  rotate_left
  · intro u hSw
    go_simp
    try with_reducible rfl
  try simp only [Act.put, List.setIfInBounds_toArray, List.set_cons_zero, List.set_cons_succ]
  refine wpAnyH_ready (rs := [8]) (by kernel_rfl) (by simp) ?_
  refine (AllReadyH.cons (o := { dst := none, op := Op.store 26 (Operand.tmp 42) (Operand.tmp 41), type := 0, pos := "exec.go:64", after := #[{ on := 7, ground := Ground.data }, { on := 6, ground := Ground.data }, { on := 6, ground := Ground.chain }, { on := 0, ground := Ground.phase }, { on := 1, ground := Ground.phase }, { on := 2, ground := Ground.phase }, { on := 3, ground := Ground.phase }, { on := 4, ground := Ground.phase }, { on := 5, ground := Ground.phase }, { on := 6, ground := Ground.phase }], guard := none }) rfl (fun K hK => ?_) AllReadyH.nil)
  have hmv := HM.out.below bV
  have q0 := cellAt hmv.fed p _ (slO_at hpl)
  have q1 : V.frozen? ⟨Fd, p, none⟩ = false := frozen_of_row _ _ _ _ _ hmv.fed
  go_simp
  refine hK.out _ _ ?_ (fun hHeld => ?_)
  · exact grownBy_setCell gV _
  clear hK K
  try simp only [Act.put, List.setIfInBounds_toArray, List.set_cons_zero, List.set_cons_succ]
  refine wpAnyH_done (by kernel_rfl) ?_ _
  refine NoPanic.normal ?_
  obtain ⟨Z, hZ⟩ : ∃ Z, Z = V.setCell ⟨Fd, p, none⟩ (.slice (some ⟨q, 0, none⟩) lb c) := ⟨_, rfl⟩
  have HMZ : Hid _ := hmv.feed hpl HFP.out h8 HLB.out.symm
  have HGZ : Hid (w.grownBy Z (some Fd)) := by show World.grownBy ..; rw [hZ]; exact grownBy_setCell gV _
  rw [← hZ] at HMZ ⊢
  clear hZ q0 q1 hmv h8
  go_wp2
  go_ret
  exact ⟨q, c, rfl, HMZ.out, HGZ.out⟩
set_option maxHeartbeats 4000000 in
/-- Feed of a half that is no input -/
theorem feed_half (hm : MacW N B w mb Fd ia oa sa il ic ol oc sl sc rg h ins outs ss fd X ran ov) (half : Int) (v : Value) (s : Addr) (hs : w.cell? ⟨1, 0, none⟩ = some (errAt s)) (hp : half ∉ ins) :
    Calls Tryd.prog 12 #[.pointer (some ⟨mb, 0, none⟩), .int .i64 half, v] w fun e w' => e = .returned (errAt s) ∧ Below w.heap.size w w' := by
  obtain ⟨hil, hol, hrg, hsl⟩ := hm.sizes
  have hp9 := hm.prg
  have HC : Hid _ := index_no il ic ia ins half w hp9.eil (by omega) hp9.I hp
  have HS : Hid (w.cell? ⟨1, 0, none⟩ = some (errAt s)) := hs
  have k0 := cellAt hm.blk 0 _ rfl
  clear hm hp9 hp hs
  go_enter Tryd.func12, Tryd.ntmps12
  go_wp2_with fail
  refine Calls.mono HC.out ?_
  rintro e w1 ⟨rfl, rfl⟩
  have k9 := HS.out
  clear k0
  go_wp2
  go_ret
  exact ⟨rfl, Below.refl _ _⟩
set_option maxHeartbeats 4000000 in
/-- Feed of an input that is there -/
theorem feed_there (hm : MacW N B w mb Fd ia oa sa il ic ol oc sl sc rg h ins outs ss fd X ran ov) (half : Int) (p : Nat) (v : Value) (s : Addr) (hs : w.cell? ⟨2, 0, none⟩ = some (errAt s)) (hp : ins[p]? = some half) (hfp : (fd p).isSome = true) :
    Calls Tryd.prog 12 #[.pointer (some ⟨mb, 0, none⟩), .int .i64 half, v] w fun e w' => e = .returned (errAt s) ∧ Below w.heap.size w w' := by
  obtain ⟨hil, hol, hrg, hsl⟩ := hm.sizes
  have hp9 := hm.prg
  have q23 := fun (w : World) (a : Option Addr) (l c : Nat) => run_neq_slice_nil (P := Tryd.prog) w 26 5 a l c Tryd.underlying26
  have hpl : p < il := by rw [hp9.eil]; exact (List.getElem?_eq_some_iff.1 hp).1
  have HC : Hid _ := index_at il ic ia ins half p w hp9.eil (by omega) hp9.I hp (good_at hm.frm.1 half)
  have HS : Hid (w.cell? ⟨2, 0, none⟩ = some (errAt s)) := hs
  obtain ⟨q, hq⟩ := Option.isSome_iff_exists.1 hfp
  obtain ⟨b9, o9, hp8⟩ := row8T_some hm.h1 (hm.row p hpl q hq).1
  have k0 := cellAt hm.blk 0 _ rfl
  have k5 := cellAt hm.blk 5 _ rfl
  have k6 := cellAt hm.fed p _ (slO_at hpl)
  rw [svO, hq] at k6
  simp only at k6
  rw [hp8] at k6
  clear hm hp9 hp hs hq hp8 hfp
  go_enter Tryd.func12, Tryd.ntmps12
  go_wp2_with fail
  refine Calls.mono HC.out ?_
  rintro e w1 ⟨rfl, rfl⟩
  have k9 := HS.out
  go_wp2
  go_ret
  exact ⟨rfl, Below.refl _ _⟩
set_option maxHeartbeats 4000000 in
/-- Feed of bytes of another size -/
theorem feed_data (hm : MacW N B w mb Fd ia oa sa il ic ol oc sl sc rg h ins outs ss fd X ran ov) (half : Int) (p lb cb : Nat) (ba : Option Addr) (s : Addr) (hs : w.cell? ⟨3, 0, none⟩ = some (errAt s)) (hp : ins[p]? = some half) (hfp : fd p = none) (hl : lb ≠ h) (hl9 : lb ≤ 4611686018427387904) :
    Calls Tryd.prog 12 #[.pointer (some ⟨mb, 0, none⟩), .int .i64 half, .slice ba lb cb] w fun e w' => e = .returned (errAt s) ∧ Below w.heap.size w w' := by
  obtain ⟨hil, hol, hrg, hsl⟩ := hm.sizes
  have hp9 := hm.prg
  have q23 := fun (w : World) (a : Option Addr) (l c : Nat) => run_neq_slice_nil (P := Tryd.prog) w 26 5 a l c Tryd.underlying26
  have hpl : p < il := by rw [hp9.eil]; exact (List.getElem?_eq_some_iff.1 hp).1
  have HC : Hid _ := index_at il ic ia ins half p w hp9.eil (by omega) hp9.I hp (good_at hm.frm.1 half)
  have HS : Hid (w.cell? ⟨3, 0, none⟩ = some (errAt s)) := hs
  have k0 := cellAt hm.blk 0 _ rfl
  have k4 := cellAt hm.blk 4 _ rfl
  have k5 := cellAt hm.blk 5 _ rfl
  have k6 := cellAt hm.fed p _ (slO_at hpl)
  rw [svO, hfp] at k6
  simp only at k6
  have e4 : ((lb : Int) == (h : Int)) = false := beq_eq_false_iff_ne.2 (by omega)
  clear hm hp9 hp hs hfp hl
  go_enter Tryd.func12, Tryd.ntmps12
  go_wp2_with fail
  refine Calls.mono HC.out ?_
  rintro e w1 ⟨rfl, rfl⟩
  have k9 := HS.out
  go_wp2
  go_ret
  exact ⟨rfl, Below.refl _ _⟩
set_option maxHeartbeats 4000000 in
/-- Out of a half that is no output -/
theorem out_half (hm : MacW N B w mb Fd ia oa sa il ic ol oc sl sc rg h ins outs ss fd X ran ov) (half : Int) (s : Addr) (hs : w.cell? ⟨1, 0, none⟩ = some (errAt s)) (hp : half ∉ outs) :
    Calls Tryd.prog 15 #[.pointer (some ⟨mb, 0, none⟩), .int .i64 half] w fun e w' => e = .returned (.tuple #[.slice none 0 0, errAt s]) ∧ Below w.heap.size w w' := by
  obtain ⟨hil, hol, hrg, hsl⟩ := hm.sizes
  have hp9 := hm.prg
  have HC : Hid _ := index_no ol oc oa outs half w hp9.eol (by omega) hp9.O hp
  have HS : Hid (w.cell? ⟨1, 0, none⟩ = some (errAt s)) := hs
  have k0 := cellAt hm.blk 1 _ rfl
  clear hm hp9 hp hs
  go_enter Tryd.func15, Tryd.ntmps15
  go_wp2_with fail
  refine Calls.mono HC.out ?_
  rintro e w1 ⟨rfl, rfl⟩
  have k9 := HS.out
  clear k0
  go_wp2
  go_region
  go_wp2
  go_ret2
  exact ⟨rfl, (Below.refl _ _).drew⟩
set_option maxHeartbeats 4000000 in
/-- Out ahead of Run -/
theorem out_empty (hm : MacW N B w mb Fd ia oa sa il ic ol oc sl sc rg h ins outs ss fd X false ov) (half : Int) (p : Nat) (s : Addr) (hs : w.cell? ⟨4, 0, none⟩ = some (errAt s)) (hp : outs[p]? = some half) :
    Calls Tryd.prog 15 #[.pointer (some ⟨mb, 0, none⟩), .int .i64 half] w fun e w' => e = .returned (.tuple #[.slice none 0 0, errAt s]) ∧ Below w.heap.size w w' := by
  obtain ⟨hil, hol, hrg, hsl⟩ := hm.sizes
  have hp9 := hm.prg
  have HC : Hid _ := index_at ol oc oa outs half p w hp9.eol (by omega) hp9.O hp (good_at hm.frm.2.1 half)
  have HS : Hid (w.cell? ⟨4, 0, none⟩ = some (errAt s)) := hs
  have k0 := cellAt hm.blk 1 _ rfl
  have k6 := cellAt hm.blk 6 _ rfl
  clear hm hp9 hp hs
  go_enter Tryd.func15, Tryd.ntmps15
  go_wp2_with fail
  refine Calls.mono HC.out ?_
  rintro e w1 ⟨rfl, rfl⟩
  have k9 := HS.out
  clear k0
  go_wp2
  go_region
  go_wp2
  go_ret2
  exact ⟨rfl, (Below.refl _ _).drew⟩
set_option maxHeartbeats 4000000 in
/-- Out behind Run -/
theorem out_ok (hm : MacW N B w mb Fd ia oa sa il ic ol oc sl sc rg h ins outs ss fd X true ov) (half : Int) (p : Nat) (hp : outs[p]? = some half) :
    Calls Tryd.prog 15 #[.pointer (some ⟨mb, 0, none⟩), .int .i64 half] w fun e w' => ∃ q c, e = .returned (.tuple #[.slice (some ⟨q, 0, none⟩) h c, .nilIface]) ∧ Has8 w' q (rowF h (runO X ss noR noR (p : Int))) c ∧ w.heap.size ≤ q ∧ Below w.heap.size w w' := by
  obtain ⟨hil, hol, hrg, hsl⟩ := hm.sizes
  have hp9 := hm.prg
  have hpl : p < ol := by rw [hp9.eol]; exact (List.getElem?_eq_some_iff.1 hp).1
  have HC : Hid _ := index_at ol oc oa outs half p w hp9.eol (by omega) hp9.O hp (good_at hm.frm.2.1 half)
  have k0 := cellAt hm.blk 1 _ rfl
  have k6 := cellAt hm.blk 6 _ rfl
  have k8 := cellAt hm.blk 8 _ rfl
  obtain ⟨Q, g, rfl, hQ, hq, hrow⟩ := hm.out rfl
  obtain ⟨r, hr1, hr2, hr3⟩ := hrow p hpl
  obtain ⟨b9, o9, hp8⟩ := row8T_some hm.h1 hr2
  have k7 := cellAt hq p _ (slO_at hpl)
  rw [svO, hr1] at k7
  simp only at k7
  rw [hp8] at k7 hr2
  have HR : Hid (Row8 w (some ⟨b9, o9, none⟩) (rowF h (runO X ss noR noR (p : Int)))) := hr2.row8
  have h64 : h ≤ 64 := hm.h64
  clear hm hp9 hp hQ hq hrow hr1 hr2 hr3 hp8
  go_enter Tryd.func15, Tryd.ntmps15
  go_wp2_with fail
  refine Calls.mono HC.out ?_
  rintro e w1 ⟨rfl, rfl⟩
  clear k0
  go_wp2_with fail
  refine Calls.mono (clone8_A h _ ⟨b9, o9, none⟩ (rowF h (runO X ss noR noR (p : Int))) _ (rowF_len _ _).symm (by omega) HR.out) ?_
  rintro e w2 ⟨q, c, rfl, h8, hq, hb⟩
  have H8 : Hid _ := h8
  have HQ : Hid _ := hq
  have HB : Hid _ := hb
  clear h8 hq hb k6 k7 k8
  go_wp2
  go_ret2
  exact ⟨q, c, rfl, H8.out, HQ.out, HB.out⟩
end Go.Proofs.YtoalbopcapgojabDoor

/- What Run of package exec does. -/
namespace Go.Proofs.YtoalbopcapgojabDoor
open Go.RowKit Gf
set_option linter.unusedVariables false
set_option maxRecDepth 20000
set_option linter.unusedSimpArgs false
theorem grown_low {W Y Z : World} {r : Nat} (h : W.grownBy Y (some r)) (hb : Below W.heap.size Y Z) : W.grownBy Z (some r) :=
  ⟨hb.os.trans h.os, hb.tape.trans h.tape, hb.output.trans h.output, Nat.le_trans h.size hb.size, fun k hk hne => (hb.block k hk).trans (h.block k hk hne)⟩
/-- a machine while its registers are laid -/
structure IniX (B : Nat) (w : World) (cb M Q Fd n rg no il : Nat) (v0 v1 v2 v3 v6 : Value) (fd : Nat → Option (Option Addr × Nat)) (X : Int → Nat → F) (k : Nat) (g : Nat → Option (Option Addr × Nat)) : Prop where
  blk : w.heap[cb]? = some (.cells #[v0, v1, v2, v3, .int .i64 n, .slice (some ⟨Fd, 0, none⟩) il il, v6, .slice (some ⟨M, 0, none⟩) rg rg, .slice (some ⟨Q, 0, none⟩) no no] 58 (0, 0))
  regs : w.heap[M]? = some (.cells (slO rg n g) 26 (0, 0))
  outs : w.heap[Q]? = some (.cells (slO no n (fun _ => none)) 26 (0, 0))
  row : ∀ x, x < k → ∃ p, g x = some p ∧ Row8T w p.1 (rowF n (fun _ => 0)) ∧ n ≤ p.2 ∧ (p.1 = none → p.2 = 0)
  fed : w.heap[Fd]? = some (.cells (slO il n fd) 26 (0, 0))
  frow : ∀ i, i < il → ∃ p, fd i = some p ∧ Row8T w p.1 (rowF n (X (i : Int))) ∧ n ≤ p.2 ∧ (p.1 = none → p.2 = 0)
  hM : B ≤ M
  hQ : B ≤ Q
  hMQ : M ≠ Q
  hcM : cb ≠ M
  hcQ : cb ≠ Q
  hFM : Fd ≠ M
  hFQ : Fd ≠ Q
section
variable {B cb M Q Fd n rg no il k : Nat} {v0 v1 v2 v3 v6 : Value} {fd : Nat → Option (Option Addr × Nat)} {X : Int → Nat → F} {g : Nat → Option (Option Addr × Nat)} {w : World}
theorem IniX.below {w' : World} (h : IniX B w cb M Q Fd n rg no il v0 v1 v2 v3 v6 fd X k g) (hb : Below w.heap.size w w') : IniX B w' cb M Q Fd n rg no il v0 v1 v2 v3 v6 fd X k g :=
  { h with blk := heap_later h.blk hb, regs := heap_later h.regs hb, outs := heap_later h.outs hb, row := fun x hx => by obtain ⟨p, h1, h2, h3⟩ := h.row x hx; exact ⟨p, h1, row8T_below h2 hb, h3⟩, fed := heap_later h.fed hb, frow := fun i hi => by obtain ⟨p, h1, h2, h3⟩ := h.frow i hi; exact ⟨p, h1, row8T_below h2 hb, h3⟩ }
theorem IniX.drew (h : IniX B w cb M Q Fd n rg no il v0 v1 v2 v3 v6 fd X k g) : IniX B w.drew cb M Q Fd n rg no il v0 v1 v2 v3 v6 fd X k g :=
  { h with blk := h.blk, regs := h.regs, outs := h.outs, row := h.row, fed := h.fed, frow := h.frow }
theorem IniX.put (h : IniX B w cb M Q Fd n rg no il v0 v1 v2 v3 v6 fd X k g) (hk : k < rg) {a : Option Addr} {m : Nat} (ha : Row8T w a (rowF n (fun _ => 0))) (hm : n ≤ m) (hn : a = none → m = 0) :
    IniX B (w.setCell ⟨M, k, none⟩ (.slice a n m)) cb M Q Fd n rg no il v0 v1 v2 v3 v6 fd X (k + 1) (fun x => if x = k then some (a, m) else g x) := by
  have hg : w.grownBy (w.setCell ⟨M, k, none⟩ (.slice a n m)) (some M) := grownBy_setCell (World.grownBy.refl _ _) _
  have hne : NoElems w (some M) := noElems_some h.regs (by decide)
  refine { h with blk := ?_, regs := ?_, outs := ?_, row := fun x hx => ?_, fed := ?_, frow := fun i hi => ?_ }
  · exact (heap_setCell_other _ _ _ _ h.hcM).trans h.blk
  · rw [heap_setCell_same _ _ _ _ _ _ h.regs, slO_set (a, m) hk]
  · exact (heap_setCell_other _ _ _ _ (fun e => h.hMQ e.symm)).trans h.outs
  · by_cases e : x = k
    · exact ⟨(a, m), by simp [e], row8T_grown ha hg hne, hm, hn⟩
    · obtain ⟨p, h1, h2, h3⟩ := h.row x (by omega)
      exact ⟨p, by simp [e, h1], row8T_grown h2 hg hne, h3⟩
  · exact (heap_setCell_other _ _ _ _ h.hFM).trans h.fed
  · obtain ⟨p, h1, h2, h3⟩ := h.frow i hi
    exact ⟨p, h1, row8T_grown h2 hg hne, h3⟩
theorem IniX.done (h : IniX B w cb M Q Fd n rg no il v0 v1 v2 v3 v6 fd X rg g) : RnW B w cb M Q Fd n rg no il v0 v1 v2 v3 v6 fd X (fun x => (g x).getD (none, 0)) (fun _ => none) noR noR := by
  refine { h with blk := h.blk, regs := ⟨?_, fun x hx => ?_, fun x hx => ?_, fun x hx => ?_⟩, outs := h.outs, out := fun d hd p hp => by cases hp }
  · rw [h.regs]
    congr 2
    apply Array.ext_getElem?
    intro i
    by_cases hi : i < rg
    · obtain ⟨p, h1, _⟩ := h.row i hi
      rw [slO_at hi, slF_at hi, svO, h1]; rfl
    · rw [Array.getElem?_eq_none (by rw [slO_size]; omega), Array.getElem?_eq_none (by rw [slF_size]; omega)]
  · obtain ⟨p, h1, h2, h3⟩ := h.row x hx
    simp only [h1, Option.getD_some]; exact h2
  · obtain ⟨p, h1, h2, h3⟩ := h.row x hx
    simp only [h1, Option.getD_some]; exact h3.1
  · obtain ⟨p, h1, h2, h3⟩ := h.row x hx
    simp only [h1, Option.getD_some]; exact h3.2
end
def doM (op : Int) : Nat := if op = 1 then 35 else if op = 2 then 36 else if op = 3 then 37 else if op = 4 then 38 else 39
/-- what a step does, whichever it is -/
theorem xdoes_F (B cb M Q Fd n rg no il : Nat) (v0 v1 v2 v3 v6 : Value) (fd : Nat → Option (Option Addr × Nat)) (X : Int → Nat → F) (f : Nat → Option Addr × Nat) (g : Nat → Option (Option Addr × Nat)) (R O : Regs) (s : Stp) (m : Nat) (w : World) (hn : n ≤ 64) (hrg : rg ≤ 64) (hno : no ≤ 64) (hBw : B ≤ w.heap.size) (h : RnW B w cb M Q Fd n rg no il v0 v1 v2 v3 v6 fd X f g R O)
    (hok : OkS il no rg s) (hm : m = doM s.op) :
    Calls Tryd.prog m #[.pointer (some ⟨cb, 0, none⟩), .agg #[.int .i64 s.op, .int .i64 s.dst, .int .i64 s.src, .int .u8 (s.c.toNat : Int)]] w fun e w' => e = .returned (.tuple #[]) ∧ (∃ f' g', RnW B w' cb M Q Fd n rg no il v0 v1 v2 v3 v6 fd X f' g' (doR X s R) (doO s R O) ∧ ∀ d, (g' d).isSome = ((g d).isSome || (s.op == 5 && s.dst == (d : Int)))) ∧ Below B w w' ∧ (∀ (k : Nat) (o : Obj), k ≠ M → k ≠ Q → w.heap[k]? = some o → w'.heap[k]? = some o) := by
  obtain ⟨op, dst, src, c⟩ := s
  unfold OkS at hok
  simp only at hok hm ⊢
  rcases hok with ⟨rfl, h1, h2, h3⟩ | ⟨rfl, h1, h2, h3⟩ | ⟨rfl, h1, h2⟩ | ⟨rfl, h1, h2⟩ | ⟨rfl, h1, h2, h3⟩
  · obtain ⟨dst, rfl⟩ := Int.eq_ofNat_of_zero_le h1.1
    obtain ⟨src, rfl⟩ := Int.eq_ofNat_of_zero_le h2.1
    subst hm
    exact (xdoes_load B cb M Q Fd n rg no il v0 v1 v2 v3 v6 fd X f g R O 1 dst src c.toNat (by omega) (by omega) w hn hrg hno hBw h).mono fun e w' ⟨a, ⟨f', g', k, hg⟩, b⟩ => ⟨a, ⟨f', g', k, fun d => by rw [hg]; simp⟩, b⟩
  · obtain ⟨dst, rfl⟩ := Int.eq_ofNat_of_zero_le h1.1
    subst hm
    exact (xdoes_zero B cb M Q Fd n rg no il v0 v1 v2 v3 v6 fd X f g R O 2 dst src c.toNat (by omega) w hn hrg hno hBw h).mono fun e w' ⟨a, ⟨f', g', k, hg⟩, b⟩ => ⟨a, ⟨f', g', k, fun d => by rw [hg]; simp⟩, b⟩
  · obtain ⟨dst, rfl⟩ := Int.eq_ofNat_of_zero_le h1.1
    subst hm
    exact (xdoes_mul B cb M Q Fd n rg no il v0 v1 v2 v3 v6 fd X f g R O 3 dst src c (by omega) w hn hrg hno hBw h).mono fun e w' ⟨a, ⟨f', g', k, hg⟩, b⟩ => ⟨a, ⟨f', g', k, fun d => by rw [hg]; simp⟩, b⟩
  · obtain ⟨dst, rfl⟩ := Int.eq_ofNat_of_zero_le h1.1
    obtain ⟨src, rfl⟩ := Int.eq_ofNat_of_zero_le h2.1
    subst hm
    exact (xdoes_add B cb M Q Fd n rg no il v0 v1 v2 v3 v6 fd X f g R O 4 dst src c (by omega) (by omega) w hn hrg hno hBw h).mono fun e w' ⟨a, ⟨f', g', k, hg⟩, b⟩ => ⟨a, ⟨f', g', k, fun d => by rw [hg]; simp⟩, b⟩
  · obtain ⟨dst, rfl⟩ := Int.eq_ofNat_of_zero_le h1.1
    obtain ⟨src, rfl⟩ := Int.eq_ofNat_of_zero_le h2.1
    subst hm
    exact (xdoes_out B cb M Q Fd n rg no il v0 v1 v2 v3 v6 fd X f g R O 5 dst src c.toNat (by omega) (by omega) w hn hrg hno hBw h).mono fun e w' ⟨a, ⟨f', g', k, hg⟩, b⟩ => ⟨a, ⟨f', g', k, fun d => by
      rw [hg]
      by_cases e : d = dst
      · subst e; simp
      · simp [e, show ¬ (dst : Int) = (d : Int) by omega]⟩, b⟩
theorem opsE_at (cb : Nat) {op : Int} (h : 1 ≤ op ∧ op ≤ 5) : (opsE cb)[op.toNat]? = some (.func (.func (doM op)) #[opP cb] #[]) := by
  have : op = 1 ∨ op = 2 ∨ op = 3 ∨ op = 4 ∨ op = 5 := by omega
  rcases this with rfl | rfl | rfl | rfl | rfl <;> rfl
theorem doM_enter {op : Int} (h : 1 ≤ op ∧ op ≤ 5) : ∀ args w, (callFunc (doM op) args).run Tryd.prog w = .ok (.enter (doM op) args) w := by
  have : op = 1 ∨ op = 2 ∨ op = 3 ∨ op = 4 ∨ op = 5 := by omega
  rcases this with rfl | rfl | rfl | rfl | rfl
  · exact enters_of Tryd.func35 (by kernel_rfl) rfl
  · exact enters_of Tryd.func36 (by kernel_rfl) rfl
  · exact enters_of Tryd.func37 (by kernel_rfl) rfl
  · exact enters_of Tryd.func38 (by kernel_rfl) rfl
  · exact enters_of Tryd.func39 (by kernel_rfl) rfl
variable {N B : Nat} {w : World} {mb Fd : Nat} {ia oa sa : Option Addr} {il ic ol oc sl sc rg h : Nat} {ins outs : List Int} {ss : List Stp} {fd : Nat → Option (Option Addr × Nat)} {X : Int → Nat → F} {ran : Bool} {ov : Value}
theorem MacW.ne (hm : MacW N B w mb Fd ia oa sa il ic ol oc sl sc rg h ins outs ss fd X ran ov) : mb ≠ Fd := fun e => by
  have h1 := hm.blk
  rw [e, hm.fed] at h1
  injection h1 with h1
  injection h1 with h1 h2 h3
  exact absurd h2 (by decide)
theorem MacW.done {Z : World} {Q : Nat} {g : Nat → Option (Option Addr × Nat)} (hm : MacW N B w mb Fd ia oa sa il ic ol oc sl sc rg h ins outs ss fd X ran ov) (hall : ∀ i, i < il → (fd i).isSome = true) (hg : w.grownBy Z (some mb))
    (hk : Z.heap[mb]? = some (.cells #[.slice ia il ic, .slice oa ol oc, .int .i64 rg, .slice sa sl sc, .int .i64 h, .slice (some ⟨Fd, 0, none⟩) il il, .bool true, .slice none 0 0, .slice (some ⟨Q, 0, none⟩) ol ol] 58 (0, 0)))
    (hQ : N ≤ Q) (hq : Z.heap[Q]? = some (.cells (slO ol h g) 26 (0, 0))) (hr : ∀ d, d < ol → ∃ p, g d = some p ∧ Row8T Z p.1 (rowF h (runO X ss noR noR (d : Int))) ∧ h ≤ p.2) :
    MacW N B Z mb Fd ia oa sa il ic ol oc sl sc rg h ins outs ss fd X true (.slice (some ⟨Q, 0, none⟩) ol ol) := by
  have hne : NoElems w (some mb) := noElems_some hm.blk (by decide)
  exact { hm with blk := hk, I := own_kind hm.I hm.blk (by decide) hg, O := own_kind hm.O hm.blk (by decide) hg, S := own_kind hm.S hm.blk (by decide) hg, fed := (hg.block Fd (ltHeap hm.fed) (fun e => hm.ne (Option.some.inj e).symm)).trans hm.fed, row := fun i hi p hp => ⟨row8T_grown (hm.row i hi p hp).1 hg hne, (hm.row i hi p hp).2⟩, all := fun _ => hall, out := fun _ => ⟨Q, g, rfl, hQ, hq, hr⟩ }
set_option maxHeartbeats 4000000 in
/-- Run while inputs are missing -/
theorem run_empty (hm : MacW N B w mb Fd ia oa sa il ic ol oc sl sc rg h ins outs ss fd X ran ov) (i : Nat) (hi : i < il) (hfi : fd i = none) (s : Addr) (hs : w.cell? ⟨4, 0, none⟩ = some (errAt s)) :
    Calls Tryd.prog 13 #[.pointer (some ⟨mb, 0, none⟩)] w fun e w' => e = .returned (errAt s) ∧ Below w.heap.size w w' := by
  have hne := unfed_some (ins := ins) (fb := fun i => (fd i).isSome) hi (by simp [hfi])
  have HS : Hid (w.cell? ⟨4, 0, none⟩ = some (errAt s)) := hs
  have HM : Hid (MacW N B w mb Fd ia oa sa il ic ol oc sl sc rg h ins outs ss fd X ran ov) := hm
  have HNE : Hid (unfed ins (fun i => (fd i).isSome) il ≠ []) := hne
  have h9 : (unfed ins (fun i => (fd i).isSome) il).length ≤ 32 := by have := unfed_len ins (fun i => (fd i).isSome) il; have := hm.sizes.1; omega
  clear hm hs hne
  go_enter Tryd.func13, Tryd.ntmps13
  go_wp2_with fail
  refine Calls.mono (wants_F HM.out) ?_
  rintro e w1 ⟨v, n, rfl, hn, ho, hb⟩
  obtain ⟨a, c, rfl⟩ := own_shape ho
  have HB : Hid _ := hb
  have hn0 : decide (0 < n) = true := decide_eq_true (by
    have : 0 < (unfed ins (fun i => (fd i).isSome) il).length := List.length_pos_iff.2 HNE.out
    omega)
  have hn9 : n ≤ 32 := by omega
  have k9 := cell_later hb HS.out
  clear hn ho hb h9
  go_wp2
  go_ret
  exact ⟨rfl, HB.out⟩
set_option maxRecDepth 100000 in
set_option maxHeartbeats 16000000 in
/-- Run with all inputs there -/
theorem run_ok (hm : MacW N B w mb Fd ia oa sa il ic ol oc sl sc rg h ins outs ss fd X ran ov) (hall : ∀ i, i < il → (fd i).isSome = true) (hN : N ≤ w.heap.size) :
    Calls Tryd.prog 13 #[.pointer (some ⟨mb, 0, none⟩)] w fun e w' => e = .returned .nilIface ∧ ∃ ov', MacW N B w' mb Fd ia oa sa il ic ol oc sl sc rg h ins outs ss fd X true ov' ∧ w.grownBy w' (some mb) := by
  obtain ⟨hil, hol, hrg, hsl⟩ := hm.sizes
  have hp9 := hm.prg
  have hcsl := hp9.csl
  have h64 : h ≤ 64 := hm.h64
  have HM : Hid (MacW N B w mb Fd ia oa sa il ic ol oc sl sc rg h ins outs ss fd X ran ov) := hm
  have HALL : Hid (∀ i, i < il → (fd i).isSome = true) := hall
  have HNN : Hid (N ≤ w.heap.size) := hN
  have HNE : Hid (unfed ins (fun i => (fd i).isSome) il = []) := unfed_none hall
  have HP : Hid (PrgW w ia oa sa il ic ol oc sl sc ins outs ss) := hp9
  have HSL : Hid (sl = ss.length) := hp9.esl
  have HIL : Hid (il = ins.length) := hp9.eil
  have HOL : Hid (ol = outs.length) := hp9.eol
  clear hm hall hN hp9
  go_enter Tryd.func13, Tryd.ntmps13
  go_wp2_with fail
  refine Calls.mono (wants_F HM.out) ?_
  rintro e W ⟨v, n, rfl, hn, ho, hb⟩
  rw [HNE.out] at hn
  obtain rfl : n = 0 := hn
  obtain ⟨a, c, rfl⟩ := own_shape ho
  have HB : Hid (Below w.heap.size w W) := hb
  have HMW : Hid (MacW N B W mb Fd ia oa sa il ic ol oc sl sc rg h ins outs ss fd X ran ov) := HM.out.below hb
  have k1 := cellAt HMW.out.blk 1 _ rfl
  have mk1 := fun u : World => run_makeN ol h (by omega) u
  clear ho hb
  go_upto_region 3 with fail
  clear k1
  have hb0 : Below W.heap.size W (W.alloc (.cells (slO ol h (fun _ => none)) 26)) := (Below.refl _ _).alloc (Nat.le_refl _) _
  have hm0 := heap_later HMW.out.blk hb0
  have hq0 : (W.alloc (.cells (slO ol h (fun _ => none)) 26)).heap[W.heap.size]? = some (.cells (slO ol h (fun _ => none)) 26 (0, 0)) := heap_alloc_last _ _
  have c1 := cellAt HMW.out.blk 1 _ rfl
  have c8 := cellAt hm0 8 _ rfl
  have f8 : (W.alloc (.cells (slO ol h (fun _ => none)) 26)).frozen? ⟨mb, 8, none⟩ = false := frozen_of_row _ _ _ _ _ hm0
  have hmW := ltHeap HMW.out.blk
  obtain ⟨Y1, hY1⟩ : ∃ Y1, Y1 = (W.alloc (.cells (slO ol h (fun _ => none)) 26)).setCell ⟨mb, 8, none⟩ (.slice (some ⟨W.heap.size, 0, none⟩) ol ol) := ⟨_, rfl⟩
  have hg1 : W.grownBy Y1 (some mb) := by rw [hY1]; exact grownBy_setCell (grown_below (World.grownBy.refl _ _) hb0) _
  have hk1 : Y1.heap[mb]? = some (.cells #[.slice ia il ic, .slice oa ol oc, .int .i64 rg, .slice sa sl sc, .int .i64 h, .slice (some ⟨Fd, 0, none⟩) il il, .bool ran, .slice none 0 0, .slice (some ⟨W.heap.size, 0, none⟩) ol ol] 58 (0, 0)) := by
    rw [hY1, heap_setCell_same _ _ _ _ _ _ hm0]; rfl
  have hq1 : Y1.heap[W.heap.size]? = some (.cells (slO ol h (fun _ => none)) 26 (0, 0)) := by
    rw [hY1]; exact (heap_setCell_other _ _ _ _ (by show W.heap.size ≠ mb; omega)).trans hq0
  obtain ⟨Q, hQ⟩ : ∃ Q, Q = W.heap.size := ⟨_, rfl⟩
  have HQE : Hid (Q = W.heap.size) := hQ
  have HY1 : Hid (Y1 = (W.alloc (.cells (slO ol h (fun _ => none)) 26)).setCell ⟨mb, 8, none⟩ (.slice (some ⟨W.heap.size, 0, none⟩) ol ol)) := hY1
  have HG1 : Hid (W.grownBy Y1 (some mb)) := hg1
  rw [← hQ] at hk1 hq1
  have HK1 : Hid (Y1.heap[mb]? = some (.cells #[.slice ia il ic, .slice oa ol oc, .int .i64 rg, .slice sa sl sc, .int .i64 h, .slice (some ⟨Fd, 0, none⟩) il il, .bool ran, .slice none 0 0, .slice (some ⟨Q, 0, none⟩) ol ol] 58 (0, 0))) := hk1
  have HQ1 : Hid (Y1.heap[Q]? = some (.cells (slO ol h (fun _ => none)) 26 (0, 0))) := hq1
  have HMQ : Hid (mb < Q) := by show _ < _; omega
  clear hb0 hm0 hq0 hY1 hg1 hk1 hq1 hQ hmW
  go_upto_region 4 with fail
  rw [← HY1.out]
  clear HY1 c1 c8 f8 mk1
  have mk2 := fun u : World => run_makeN rg h (by omega) u
  have hb2 : Below Y1.heap.size Y1 (Y1.alloc (.cells (slO rg h (fun _ => none)) 26)) := (Below.refl _ _).alloc (Nat.le_refl _) _
  have hm2 := heap_later HK1.out hb2
  have c2 := cellAt HK1.out 2 _ rfl
  have c7 := cellAt hm2 7 _ rfl
  have f7 : (Y1.alloc (.cells (slO rg h (fun _ => none)) 26)).frozen? ⟨mb, 7, none⟩ = false := frozen_of_row _ _ _ _ _ hm2
  obtain ⟨M, hM⟩ : ∃ M, M = Y1.heap.size := ⟨_, rfl⟩
  obtain ⟨Y, hY⟩ : ∃ Y, Y = (Y1.alloc (.cells (slO rg h (fun _ => none)) 26)).setCell ⟨mb, 7, none⟩ (.slice (some ⟨Y1.heap.size, 0, none⟩) rg rg) := ⟨_, rfl⟩
  have hqM : Q < M := by rw [hM]; exact ltHeap HQ1.out
  have hmQ := HMQ.out
  have hk : Y.heap[mb]? = some (.cells #[.slice ia il ic, .slice oa ol oc, .int .i64 rg, .slice sa sl sc, .int .i64 h, .slice (some ⟨Fd, 0, none⟩) il il, .bool ran, .slice (some ⟨M, 0, none⟩) rg rg, .slice (some ⟨Q, 0, none⟩) ol ol] 58 (0, 0)) := by
    rw [hY, heap_setCell_same _ _ _ _ _ _ hm2, hM]; rfl
  have hg : W.grownBy Y (some mb) := by
    rw [hY]; exact grownBy_setCell (grown_below HG1.out hb2) _
  have hbW := HB.out.size
  have hW9 : Q = W.heap.size := HQE.out
  have HI0 : Hid (IniX W.heap.size Y mb M Q Fd h rg ol il (.slice ia il ic) (.slice oa ol oc) (.int .i64 rg) (.slice sa sl sc) (.bool ran) fd X 0 (fun _ => none)) := by
    have hfl := ltHeap HMW.out.fed
    refine ⟨hk, ?_, ?_, fun x hx => absurd hx (Nat.not_lt_zero _), (hg.block Fd hfl (fun e => HMW.out.ne (Option.some.inj e).symm)).trans HMW.out.fed, fun i hi => ?_, by omega, by omega, by omega, by omega, by omega, by omega, by omega⟩
    · rw [hY]; exact (heap_setCell_other _ _ _ _ (by show M ≠ mb; omega)).trans (by rw [hM]; exact heap_alloc_last _ _)
    · rw [hY]; exact (heap_setCell_other _ _ _ _ (by show Q ≠ mb; omega)).trans (heap_later HQ1.out hb2)
    · obtain ⟨p, hp⟩ := Option.isSome_iff_exists.1 (HALL.out i hi)
      obtain ⟨r1, r2⟩ := HMW.out.row i hi p hp
      exact ⟨p, hp, row8T_grown r1 hg (noElems_some HMW.out.blk (by decide)), r2⟩
  have HYE : Hid (Y = (Y1.alloc (.cells (slO rg h (fun _ => none)) 26)).setCell ⟨mb, 7, none⟩ (.slice (some ⟨Y1.heap.size, 0, none⟩) rg rg)) := hY
  have HME : Hid (M = Y1.heap.size) := hM
  have HGY : Hid (W.grownBy Y (some mb)) := hg
  have HYS : Hid (W.heap.size ≤ Y.heap.size) := hg.size
  clear hb2 hm2 hM hY hqM hmQ hk hg hbW hW9
  go_upto_region 5 with fail
  rw [← HYE.out, ← HME.out]
  clear HYE HME c2 c7 f7 mk2 HK1 HQ1 HG1
  have k7 := cellAt HI0.out.blk 7 _ rfl
  go_wp2
  clear k7
  go_loopw [36] (fun i wr => ∃ (k : Nat) (g : Nat → Option (Option Addr × Nat)), k ≤ rg ∧ i = .int .i64 k ∧ Below W.heap.size Y wr ∧ IniX W.heap.size wr mb M Q Fd h rg ol il (.slice ia il ic) (.slice oa ol oc) (.int .i64 rg) (.slice sa sl sc) (.bool ran) fd X k g) (fun i _ => rg - (intOf i).toNat)
  case atStart => exact ⟨0, _, Nat.zero_le _, rfl, Below.refl _ _, HI0.out⟩
  case round =>
    obtain ⟨k, g, hk, rfl, hbr, hir⟩ := hrel
    have HBR : Hid (Below W.heap.size Y wr) := hbr
    have HI : Hid (IniX W.heap.size wr mb M Q Fd h rg ol il (.slice ia il ic) (.slice oa ol oc) (.int .i64 rg) (.slice sa sl sc) (.bool ran) fd X k g) := hir
    clear hbr hir HI0
    by_cases hlt : k < rg
    · have HK7 : Hid (∀ u, wr.grownBy u (some M) → u.cell? ⟨mb, 7, none⟩ = some (.slice (some ⟨M, 0, none⟩) rg rg)) := fun u hu => cellAt ((hu.block mb (ltHeap HI.out.blk) (by simpa using HI.out.hcM)).trans HI.out.blk) 7 _ rfl
      go_wp2
      refine wp_region_noPanic ?_
      refine wp_region_held_drew (S := fun u => wr.grownBy u (some M)) (by kernel_rfl) ?_ (fun hHeld => ?_)
      · exact grownBy_drew (World.grownBy.refl _ _)
      refine wpAnyH_take (i := 0) (oi := { dst := some 39, op := Op.move (Operand.tmp 0), type := 31, pos := "exec.go:76", after := #[], guard := none }) (v := ?_) rfl (by kernel_rfl) (by kernel_rfl) (by kernel_rfl) (fun _ _ _ h => h) (Or.inl ⟨by rfl, ?_⟩) hHeld ?_
      rotate_left
      · intro u hSw
        go_simp
        try with_reducible rfl
      try simp only [Act.put, List.setIfInBounds_toArray, List.set_cons_zero, List.set_cons_succ]
      refine wpAnyH_take (i := 1) (oi := { dst := some 40, op := Op.nilCheck (Operand.tmp 39), type := 0, pos := "exec.go:76", after := #[{ on := 0, ground := Ground.data }], guard := none }) (v := ?_) rfl (by kernel_rfl) (by kernel_rfl) (by kernel_rfl) (fun _ _ _ h => h) (Or.inl ⟨by rfl, ?_⟩) hHeld ?_
      rotate_left
      · intro u hSw
        go_simp
        try with_reducible rfl
      try simp only [Act.put, List.setIfInBounds_toArray, List.set_cons_zero, List.set_cons_succ]
      refine wpAnyH_take (i := 2) (oi := { dst := some 41, op := Op.fieldAddr 58 (Operand.tmp 40) 4, type := 0, pos := "exec.go:76", after := #[{ on := 1, ground := Ground.data }], guard := none }) (v := ?_) rfl (by kernel_rfl) (by kernel_rfl) (by kernel_rfl) (fun _ _ _ h => h) (Or.inl ⟨by rfl, ?_⟩) hHeld ?_
      rotate_left
      · intro u hSw
        go_simp
        try with_reducible rfl
      try simp only [Act.put, List.setIfInBounds_toArray, List.set_cons_zero, List.set_cons_succ]
      refine wpAnyH_take (i := 3) (oi := { dst := some 42, op := Op.load 29 (Operand.tmp 41), type := 29, pos := "exec.go:76", after := #[{ on := 2, ground := Ground.data }], guard := none }) (v := ?_) rfl (by kernel_rfl) (by kernel_rfl) (by kernel_rfl) (fun _ _ _ h => h) (Or.inl ⟨by rfl, ?_⟩) hHeld ?_
      rotate_left
      · intro u hSw
        have k9 := HK7.out u hSw
        go_simp
        try with_reducible rfl
      try simp only [Act.put, List.setIfInBounds_toArray, List.set_cons_zero, List.set_cons_succ]
      refine wpAnyH_take (i := 4) (oi := { dst := some 43, op := Op.move (Operand.tmp 3), type := 3, pos := "exec.go:76", after := #[], guard := none }) (v := ?_) rfl (by kernel_rfl) (by kernel_rfl) (by kernel_rfl) (fun _ _ _ h => h) (Or.inl ⟨by rfl, ?_⟩) hHeld ?_
      rotate_left
      · intro u hSw
        go_simp
        try with_reducible rfl
      try simp only [Act.put, List.setIfInBounds_toArray, List.set_cons_zero, List.set_cons_succ]
      refine wpAnyH_take (i := 5) (oi := { dst := some 44, op := Op.move (Operand.tmp 0), type := 31, pos := "exec.go:76", after := #[], guard := none }) (v := ?_) rfl (by kernel_rfl) (by kernel_rfl) (by kernel_rfl) (fun _ _ _ h => h) (Or.inl ⟨by rfl, ?_⟩) hHeld ?_
      rotate_left
      · intro u hSw
        go_simp
        try with_reducible rfl
      try simp only [Act.put, List.setIfInBounds_toArray, List.set_cons_zero, List.set_cons_succ]
      refine wpAnyH_ready (rs := [6]) (by kernel_rfl) (by simp) ?_
      refine (AllReadyH.cons (o := { dst := some 45, op := Op.call { callee := Callee.value (Operand.func 25), args := #[Operand.tmp 44], argTypes := #[31] }, type := 26, pos := "exec.go:76", after := #[{ on := 5, ground := Ground.data }], guard := none }) rfl (fun K hK => ?_) AllReadyH.nil)
      go_simp
      refine Calls.mono (noughts_F mb h _ (by omega) (cellAt HI.out.drew.blk 4 _ rfl)) ?_
      rintro e w6 ⟨rfl, hw6⟩
      have hb6 : Below wr.drew.heap.size wr.drew w6 := by rw [hw6]; exact (Below.refl _ _).alloc (Nat.le_refl _) _
      have hr6 : w6.heap[wr.heap.size]? = some (.cells (vfs (zeros h)) 5 (0, 0)) := by rw [hw6]; exact heap_alloc_last _ _
      have hI6 := HI.out.drew.below hb6
      have hS6 : wr.grownBy w6 (some M) := grown_below (grownBy_drew (World.grownBy.refl _ _)) hb6
      clear hw6
      go_wp2_with fail
      refine hK.out _ _ ?_ (fun hHeld => ?_)
      · exact hS6
      clear hK K
      try simp only [Act.put, List.setIfInBounds_toArray, List.set_cons_zero, List.set_cons_succ]
      refine wpAnyH_take (i := 7) (oi := { dst := some 46, op := Op.indexAddr 29 (Operand.tmp 42) (Operand.tmp 43), type := 0, pos := "exec.go:76", after := #[{ on := 3, ground := Ground.data }, { on := 4, ground := Ground.data }, { on := 0, ground := Ground.phase }, { on := 1, ground := Ground.phase }, { on := 2, ground := Ground.phase }, { on := 3, ground := Ground.phase }, { on := 4, ground := Ground.phase }, { on := 5, ground := Ground.phase }, { on := 6, ground := Ground.phase }], guard := none }) (v := ?_) rfl (by kernel_rfl) (by kernel_rfl) (by kernel_rfl) (fun _ _ _ h => h) (Or.inl ⟨by rfl, ?_⟩) hHeld ?_
      rotate_left
      · intro u hSw
        go_simp
        try with_reducible rfl
      try simp only [Act.put, List.setIfInBounds_toArray, List.set_cons_zero, List.set_cons_succ]
      refine wpAnyH_ready (rs := [8]) (by kernel_rfl) (by simp) ?_
      refine (AllReadyH.cons (o := { dst := none, op := Op.store 26 (Operand.tmp 46) (Operand.tmp 45), type := 0, pos := "exec.go:76", after := #[{ on := 7, ground := Ground.data }, { on := 6, ground := Ground.data }, { on := 6, ground := Ground.chain }, { on := 0, ground := Ground.phase }, { on := 1, ground := Ground.phase }, { on := 2, ground := Ground.phase }, { on := 3, ground := Ground.phase }, { on := 4, ground := Ground.phase }, { on := 5, ground := Ground.phase }, { on := 6, ground := Ground.phase }], guard := none }) rfl (fun K hK => ?_) AllReadyH.nil)
      have d9 := cellAt hI6.regs k _ (slO_at hlt)
      have d8 : w6.frozen? ⟨M, k, none⟩ = false := frozen_of_row _ _ _ _ _ hI6.regs
      go_simp
      refine hK.out _ _ ?_ (fun hHeld => ?_)
      · exact grownBy_setCell hS6 _
      clear hK K
      try simp only [Act.put, List.setIfInBounds_toArray, List.set_cons_zero, List.set_cons_succ]
      refine wpAnyH_done (by kernel_rfl) ?_ _
      refine NoPanic.normal ?_
      have HP : Hid _ := hI6.put hlt (a := some ⟨wr.heap.size, 0, none⟩) (m := h) (by rw [← zeros_rowF]; exact row8T_own hr6) (Nat.le_refl _) (fun e => by cases e)
      have HPB : Hid (Below W.heap.size Y (w6.setCell ⟨M, k, none⟩ (.slice (some ⟨wr.heap.size, 0, none⟩) h h))) := ((HBR.out.drew).trans (hb6.mono (Nat.le_trans HYS.out HBR.out.size))).setCell (p := ⟨M, k, none⟩) HI.out.hM _
      clear hI6 hr6 hb6 hS6 hHeld
      go_wp2
      exact ⟨⟨k + 1, _, by omega, by go_num, HPB.out, HP.out⟩, by simp [intOf]; omega⟩
    · obtain rfl : k = rg := by omega
      have hr := HI.out.done
      have HR : Hid (RnW W.heap.size wr mb M Q Fd h k ol il (.slice ia il ic) (.slice oa ol oc) (.int .i64 k) (.slice sa sl sc) (.bool ran) fd X (fun x => (g x).getD (none, 0)) (fun _ => none) noR noR) := hr
      clear hr HI
      generalize wr = wq at *
      go_wp2_with fail
      refine Calls.mono (operations_F mb _) ?_
      rintro e w2 ⟨rfl, hb2⟩
      have HR2 : Hid (RnW W.heap.size w2 mb M Q Fd h k ol il (.slice ia il ic) (.slice oa ol oc) (.int .i64 k) (.slice sa sl sc) (.bool ran) fd X (fun x => (g x).getD (none, 0)) (fun _ => none) noR noR) := HR.out.below hb2
      have HB2 : Hid (Below W.heap.size Y w2) := HBR.out.trans (hb2.mono (Nat.le_trans HYS.out HBR.out.size))
      have HA : Hid _ := heap_alloc_last w2 (.cells opsN 63)
      have HI9 : Hid ((Tryd.prog.info? 63).map (·.size) = some (opsE mb).size) := infoE
      have H1 : Hid _ := opsE_one mb
      have HO : Hid (opsN.size = (opsE mb).size) := by show _ = _; rfl
      clear hb2 HR HBR
      have hbv0 : Below w2.heap.size w2 ((w2.alloc (.cells opsN 63)).setRow w2.heap.size (opsE mb)) := below_row ((Below.refl _ _).alloc (Nat.le_refl _) _) (Nat.le_refl _) _
      have HBV0 : Hid _ := hbv0
      have HAB0 : Hid (((w2.alloc (.cells opsN 63)).setRow w2.heap.size (opsE mb)).heap[w2.heap.size]? = some (.cells (opsE mb) 63 (0, 0))) := setRow_heap _ _ _ _ _ _ HA.out
      clear hbv0
      go_wp2_with (refine wpList_store_row rfl 63 _ _ rfl w2.heap.size (opsE mb) rfl rfl 63 opsN HA.out HI9.out HO.out H1.out ?_; generalize hV2 : World.setRow _ _ _ = V2; have hbv : Below w2.heap.size w2 V2 := (by rw [← hV2]; exact HBV0.out); have HAB : Hid (V2.heap[w2.heap.size]? = some (.cells (opsE mb) 63 (0, 0))) := (by show _ = _; rw [← hV2]; exact HAB0.out); have HRV2 : Hid (RnW W.heap.size V2 mb M Q Fd h k ol il (.slice ia il ic) (.slice oa ol oc) (.int .i64 k) (.slice sa sl sc) (.bool ran) fd X (fun x => (g x).getD (none, 0)) (fun _ => none) noR noR) := HR2.out.below hbv; have HBV2 : Hid (Below W.heap.size Y V2) := HB2.out.trans (hbv.mono (Nat.le_trans HYS.out HB2.out.size)); have k3 := cellAt HRV2.out.blk 3 _ rfl; clear hV2 hbv)
      obtain ⟨ab, hab⟩ : ∃ ab, ab = w2.heap.size := ⟨_, rfl⟩
      rw [← hab] at HAB ⊢
      have HABQ : Hid (ab ≠ M ∧ ab ≠ Q) := by have := ltHeap HR2.out.regs.blk; have := ltHeap HR2.out.outs; exact ⟨by omega, by omega⟩
      clear k3 HA HI9 H1 HO HAB0 HBV0 HR2 hab
      go_loopw [56] (fun i wr => ∃ (j : Nat) (f : Nat → Option Addr × Nat) (g : Nat → Option (Option Addr × Nat)), j ≤ sl ∧ i = .int .i64 j ∧ Below W.heap.size Y wr ∧ RnW W.heap.size wr mb M Q Fd h k ol il (.slice ia il ic) (.slice oa ol oc) (.int .i64 k) (.slice sa sl sc) (.bool ran) fd X f g (runR X (ss.take j) noR) (runO X (ss.take j) noR noR) ∧ (∀ d : Nat, (g d).isSome = decide (1 ≤ cntO (ss.take j) d)) ∧ wr.heap[ab]? = some (.cells (opsE mb) 63 (0, 0))) (fun i _ => sl - (intOf i).toNat)
      case atStart => exact ⟨0, _, _, Nat.zero_le _, rfl, HBV2.out, by rw [List.take_zero]; exact HRV2.out, fun d => by rw [List.take_zero]; rfl, HAB.out⟩
      case round =>
        obtain ⟨j, f, g2, hj, rfl, hbr, hcm, hgs, hak⟩ := hrel
        have HBR2 : Hid (Below W.heap.size Y wr) := hbr
        have HCM : Hid _ := hcm
        have HGS : Hid (∀ d : Nat, (g2 d).isSome = decide (1 ≤ cntO (ss.take j) d)) := hgs
        have HAKW : Hid (wr.heap[ab]? = some (.cells (opsE mb) 63 (0, 0))) := hak
        clear hbr hcm hgs hak HAB HRV2 HBV2
        by_cases hlj : j < sl
        · have hjs : j < ss.length := by rw [← HSL.out]; exact hlj
          have hsw : StpW wr sa ss := by
            have s2 := own_kind HMW.out.S HMW.out.blk (by decide) (grown_low HGY.out HBR2.out)
            exact (stpW_own HSL.out s2).elim fun a h => h.elim fun c h => by
              obtain ⟨e, _, _, h9⟩ := h
              cases e
              exact h9
          obtain ⟨b, off, hsa, hc⟩ := stpW_get hsw hjs
          obtain ⟨c0, c1, c2, c3⟩ := hc j hjs
          obtain ⟨⟨op, dst, src, c⟩, hs⟩ : ∃ s, ss[j] = s := ⟨_, rfl⟩
          rw [hs] at c0 c1 c2 c3
          simp only at c0 c1 c2 c3
          have hget : ss[j]? = some ⟨op, dst, src, c⟩ := by rw [List.getElem?_eq_getElem hjs, hs]
          have HTK : Hid (ss.take (j + 1) = ss.take j ++ [⟨op, dst, src, c⟩]) := by show _ = _; rw [List.take_add_one, hget]; rfl
          have hok : OkS il ol k ⟨op, dst, src, c⟩ := by rw [HIL.out, HOL.out]; exact HMW.out.frm.2.2.2.2.1 _ (List.mem_of_getElem? hget)
          have HOK : Hid (OkS il ol k ⟨op, dst, src, c⟩) := hok
          have hop : 1 ≤ op ∧ op ≤ 5 := by unfold OkS at hok; simp only at hok; omega
          obtain ⟨oq, hoq⟩ := Int.eq_ofNat_of_zero_le (show 0 ≤ op by omega)
          obtain ⟨m9, hm9⟩ : ∃ m9, m9 = doM op := ⟨_, rfl⟩
          have hfe := opsE_at mb hop
          have hem := doM_enter hop
          rw [← hm9] at hfe hem
          have HMM : Hid (m9 = doM op) := hm9
          have HOQ : Hid (op = (oq : Int)) := hoq
          rw [hoq] at hfe c0
          have hoq5 : (oq : Int) < 6 := by omega
          subst hsa
          clear hc hs hget hjs hok hop hm9 hoq hsw
          obtain ⟨V, hV⟩ : ∃ V, V = wr.alloc (.cells #[.int .i64 oq, .int .i64 dst, .int .i64 src, .int .u8 (c.toNat : Int)] 55) := ⟨_, rfl⟩
          have hba : Below wr.heap.size wr V := by rw [hV]; exact (Below.refl _ _).alloc (Nat.le_refl _) _
          have hsb : V.heap[wr.heap.size]? = some (.cells #[.int .i64 oq, .int .i64 dst, .int .i64 src, .int .u8 (c.toNat : Int)] 55 (0, 0)) := by rw [hV]; exact heap_alloc_last _ _
          have HSB : Hid _ := hsb
          have HRV : Hid _ := HCM.out.below hba
          have HBV : Hid (Below W.heap.size Y V) := HBR2.out.trans (hba.mono (Nat.le_trans HYS.out HBR2.out.size))
          have HVS : Hid (W.heap.size ≤ V.heap.size) := Nat.le_trans HYS.out HBV.out.size
          have HAV : Hid (V.heap[ab]? = some (.cells (opsE mb) 63 (0, 0))) := heap_later HAKW.out hba
          have HSQ : Hid (wr.heap.size ≠ M ∧ wr.heap.size ≠ Q) := by have := ltHeap HCM.out.regs.blk; have := ltHeap HCM.out.outs; exact ⟨by omega, by omega⟩
          have HVE : Hid (V = wr.alloc (.cells #[.int .i64 oq, .int .i64 dst, .int .i64 src, .int .u8 (c.toNat : Int)] 55)) := hV
          have P0 : Hid (∀ u : World, (∀ (k : Nat) (o : Obj), k ≠ M → k ≠ Q → V.heap[k]? = some o → u.heap[k]? = some o) → u.cell? ⟨wr.heap.size, 0, none⟩ = some (.int .i64 oq)) := fun u hu => cellAt (hu _ _ HSQ.out.1 HSQ.out.2 HSB.out) 0 _ rfl
          have P1 : Hid (∀ u : World, (∀ (k : Nat) (o : Obj), k ≠ M → k ≠ Q → V.heap[k]? = some o → u.heap[k]? = some o) → u.cell? ⟨wr.heap.size, 1, none⟩ = some (.int .i64 dst)) := fun u hu => cellAt (hu _ _ HSQ.out.1 HSQ.out.2 HSB.out) 1 _ rfl
          have P2 : Hid (∀ u : World, (∀ (k : Nat) (o : Obj), k ≠ M → k ≠ Q → V.heap[k]? = some o → u.heap[k]? = some o) → u.cell? ⟨wr.heap.size, 2, none⟩ = some (.int .i64 src)) := fun u hu => cellAt (hu _ _ HSQ.out.1 HSQ.out.2 HSB.out) 2 _ rfl
          have P3 : Hid (∀ u : World, (∀ (k : Nat) (o : Obj), k ≠ M → k ≠ Q → V.heap[k]? = some o → u.heap[k]? = some o) → u.cell? ⟨wr.heap.size, 3, none⟩ = some (.int .u8 (c.toNat : Int))) := fun u hu => cellAt (hu _ _ HSQ.out.1 HSQ.out.2 HSB.out) 3 _ rfl
          have HFE : Hid ((opsE mb)[oq]? = some (.func (.func m9) #[opP mb] #[])) := hfe
          have PF : Hid (∀ u : World, (∀ (k : Nat) (o : Obj), k ≠ M → k ≠ Q → V.heap[k]? = some o → u.heap[k]? = some o) → u.cell? ⟨ab, oq, none⟩ = some (.func (.func m9) #[.pointer (some ⟨mb, 0, none⟩)] #[])) := fun u hu => cellAt (hu _ _ HABQ.out.1 HABQ.out.2 HAV.out) oq _ HFE.out
          clear hba hsb hV hfe
          go_upto_region 14 with fail
          rw [← HVE.out]
          clear c0 c1 c2 c3 HVE
          refine wp_region_noPanic ?_
          refine wp_region_held_drew (S := fun u => ∀ (k : Nat) (o : Obj), k ≠ M → k ≠ Q → V.heap[k]? = some o → u.heap[k]? = some o) (by kernel_rfl) ?_ (fun hHeld => ?_)
          · exact fun k o _ _ h => h
          refine wpAnyH_take (i := 0) (oi := { dst := some 60, op := Op.fieldAddr 55 (Operand.tmp 6) 0, type := 0, pos := "exec.go:80", after := #[], guard := none }) (v := ?_) rfl (by kernel_rfl) (by kernel_rfl) (by kernel_rfl) (fun _ _ _ h => h) (Or.inl ⟨by rfl, ?_⟩) hHeld ?_
          rotate_left
          · intro u hSw
            go_simp
            try with_reducible rfl
          try simp only [Act.put, List.setIfInBounds_toArray, List.set_cons_zero, List.set_cons_succ]
          refine wpAnyH_take (i := 1) (oi := { dst := some 61, op := Op.load 3 (Operand.tmp 60), type := 3, pos := "exec.go:80", after := #[{ on := 0, ground := Ground.data }], guard := none }) (v := ?_) rfl (by kernel_rfl) (by kernel_rfl) (by kernel_rfl) (fun _ _ _ h => h) (Or.inl ⟨by rfl, ?_⟩) hHeld ?_
          rotate_left
          · intro u hSw
            have k9 := P0.out u hSw
            go_simp
            try with_reducible rfl
          try simp only [Act.put, List.setIfInBounds_toArray, List.set_cons_zero, List.set_cons_succ]
          refine wpAnyH_take (i := 2) (oi := { dst := some 62, op := Op.indexAddr 63 (Operand.tmp 4) (Operand.tmp 61), type := 0, pos := "exec.go:80", after := #[{ on := 1, ground := Ground.data }], guard := none }) (v := ?_) rfl (by kernel_rfl) (by kernel_rfl) (by kernel_rfl) (fun _ _ _ h => h) (Or.inl ⟨by rfl, ?_⟩) hHeld ?_
          rotate_left
          · intro u hSw
            go_simp
            try with_reducible rfl
          try simp only [Act.put, List.setIfInBounds_toArray, List.set_cons_zero, List.set_cons_succ]
          refine wpAnyH_take (i := 3) (oi := { dst := some 63, op := Op.load 62 (Operand.tmp 62), type := 62, pos := "exec.go:80", after := #[{ on := 2, ground := Ground.data }], guard := none }) (v := ?_) rfl (by kernel_rfl) (by kernel_rfl) (by kernel_rfl) (fun _ _ _ h => h) (Or.inl ⟨by rfl, ?_⟩) hHeld ?_
          rotate_left
          · intro u hSw
            have k9 := PF.out u hSw
            go_simp
            try with_reducible rfl
          try simp only [Act.put, List.setIfInBounds_toArray, List.set_cons_zero, List.set_cons_succ]
          refine wpAnyH_take (i := 4) (oi := { dst := some 64, op := Op.load 55 (Operand.tmp 6), type := 55, pos := "exec.go:80", after := #[], guard := none }) (v := ?_) rfl (by kernel_rfl) (by kernel_rfl) (by kernel_rfl) (fun _ _ _ h => h) (Or.inl ⟨by rfl, ?_⟩) hHeld ?_
          rotate_left
          · intro u hSw
            have k9 := P0.out u hSw
            have k8 := P1.out u hSw
            have k7 := P2.out u hSw
            have k6 := P3.out u hSw
            go_simp
            try with_reducible rfl
          try simp only [Act.put, List.setIfInBounds_toArray, List.set_cons_zero, List.set_cons_succ]
          refine wpAnyH_ready (rs := [5]) (by kernel_rfl) (by simp) ?_
          refine (AllReadyH.cons (o := { dst := some 65, op := Op.call { callee := Callee.value (Operand.tmp 63), args := #[Operand.tmp 64], argTypes := #[55] }, type := 0, pos := "exec.go:80", after := #[{ on := 3, ground := Ground.data }, { on := 4, ground := Ground.data }], guard := none }) rfl (fun K hK => ?_) AllReadyH.nil)
          go_simp
          refine Calls.mono (xdoes_F W.heap.size mb M Q Fd h k ol il _ _ _ _ _ fd X f g2 _ _ ⟨(oq : Int), dst, src, c⟩ m9 _ (by omega) (by omega) (by omega) HVS.out HRV.out.drew (by rw [← HOQ.out]; exact HOK.out) (by rw [HMM.out, HOQ.out])) ?_
          rintro e w4 ⟨rfl, ⟨f4, g4, hc4, hg4⟩, hb4, hk4⟩
          have hb4' : Below W.heap.size V w4 := (Below.drew (Below.refl _ V)).trans hb4
          go_wp2_with fail
          refine hK.out _ _ ?_ (fun hHeld => ?_)
          · exact hk4
          clear hK K
          try simp only [Act.put, List.setIfInBounds_toArray, List.set_cons_zero, List.set_cons_succ]
          refine wpAnyH_done (by kernel_rfl) ?_ _
          refine NoPanic.normal ?_
          have HB4 : Hid (Below W.heap.size Y w4) := HBV.out.trans hb4'
          have HA4 : Hid (w4.heap[ab]? = some (.cells (opsE mb) 63 (0, 0))) := hk4 _ _ HABQ.out.1 HABQ.out.2 HAV.out
          have HC4 : Hid (RnW W.heap.size w4 mb M Q Fd h k ol il (.slice ia il ic) (.slice oa ol oc) (.int .i64 k) (.slice (some ⟨b, off, none⟩) sl sc) (.bool ran) fd X f4 g4 (runR X (ss.take (j + 1)) noR) (runO X (ss.take (j + 1)) noR noR)) := by
            show RnW ..
            rw [HTK.out, runR_app, runO_app, HOQ.out]; exact hc4
          have HG4 : Hid (∀ d : Nat, (g4 d).isSome = decide (1 ≤ cntO (ss.take (j + 1)) d)) := fun d => by
            rw [hg4, HGS.out, HTK.out, ← HOQ.out]
            by_cases e1 : op = 5
            · by_cases e2 : dst = (d : Int)
              · rw [cnt_out e1 e2]; simp [e1, e2]
              · rw [cnt_other e2]; simp [e2]
            · rw [cnt_not e1]; simp [e1]
          clear hc4 hg4 hb4 hb4' hk4 hHeld
          go_wp2
          exact ⟨⟨j + 1, f4, g4, by omega, by go_num, HB4.out, HC4.out, HG4.out, HA4.out⟩, by simp [intOf]; omega⟩
        · obtain rfl : sl = j := by omega
          have hfull : ss.take sl = ss := by rw [HSL.out, List.take_length]
          have hgs := HGS.out
          have hcm := HCM.out
          rw [hfull] at hgs hcm
          have HR : Hid (RnW W.heap.size wr mb M Q Fd h k ol il (.slice ia il ic) (.slice oa ol oc) (.int .i64 k) (.slice sa sl sc) (.bool ran) fd X f g2 (runR X ss noR) (runO X ss noR noR)) := hcm
          have hgr := grown_low HGY.out HBR2.out
          have k7 := cellAt hcm.blk 7 _ rfl
          have f7 : wr.frozen? ⟨mb, 7, none⟩ = false := frozen_of_row _ _ _ _ _ hcm.blk
          obtain ⟨Z1, hZ1⟩ : ∃ Z1, Z1 = wr.setCell ⟨mb, 7, none⟩ (.slice none 0 0) := ⟨_, rfl⟩
          have hb1 : Z1.heap[mb]? = some (.cells #[.slice ia il ic, .slice oa ol oc, .int .i64 k, .slice sa sl sc, .int .i64 h, .slice (some ⟨Fd, 0, none⟩) il il, .bool ran, .slice none 0 0, .slice (some ⟨Q, 0, none⟩) ol ol] 58 (0, 0)) := by rw [hZ1, heap_setCell_same _ _ _ _ _ _ hcm.blk]; rfl
          have k6 := cellAt hb1 6 _ rfl
          have f6 : Z1.frozen? ⟨mb, 6, none⟩ = false := frozen_of_row _ _ _ _ _ hb1
          obtain ⟨Z, hZ⟩ : ∃ Z, Z = Z1.setCell ⟨mb, 6, none⟩ (.bool true) := ⟨_, rfl⟩
          have hbZ : Z.heap[mb]? = some (.cells #[.slice ia il ic, .slice oa ol oc, .int .i64 k, .slice sa sl sc, .int .i64 h, .slice (some ⟨Fd, 0, none⟩) il il, .bool true, .slice none 0 0, .slice (some ⟨Q, 0, none⟩) ol ol] 58 (0, 0)) := by rw [hZ, heap_setCell_same _ _ _ _ _ _ hb1]; rfl
          have hgZ0 : wr.grownBy Z (some mb) := by rw [hZ, hZ1]; exact grownBy_setCell (grownBy_setCell (World.grownBy.refl _ _) _) _
          have hgZ : W.grownBy Z (some mb) := by rw [hZ, hZ1]; exact grownBy_setCell (grownBy_setCell hgr _) _
          have hqQ : mb ≠ Q := hcm.hcQ
          have hqZ : Z.heap[Q]? = some (.cells (slO ol h g2) 26 (0, 0)) := (hgZ0.block Q (ltHeap hcm.outs) (fun e => hqQ (Option.some.inj e).symm)).trans hcm.outs
          have HFIN : Hid (MacW N B Z mb Fd ia oa sa il ic ol oc sl sc k h ins outs ss fd X true (.slice (some ⟨Q, 0, none⟩) ol ol)) := HMW.out.done HALL.out hgZ hbZ (by have := HQE.out; have := HNN.out; have := HB.out.size; omega) hqZ (fun d hd => by
            have h9 : (g2 d).isSome = true := by rw [hgs]; exact decide_eq_true (by have := HMW.out.frm.2.2.2.2.2 d (by rw [← HOL.out]; exact hd); omega)
            obtain ⟨p, hp⟩ := Option.isSome_iff_exists.1 h9
            obtain ⟨q1, q2, q3⟩ := hcm.out d hd p hp
            exact ⟨p, hp, row8T_grown q1 hgZ0 (noElems_some hcm.blk (by decide)), q2⟩)
          have HGF : Hid (w.grownBy Z (some mb)) := ⟨hgZ.os.trans HB.out.os, hgZ.tape.trans HB.out.tape, hgZ.output.trans HB.out.output, Nat.le_trans HB.out.size hgZ.size, fun k9 hk9 hne => (hgZ.block k9 (Nat.lt_of_lt_of_le hk9 HB.out.size) hne).trans (HB.out.block k9 hk9)⟩
          have HZ1 : Hid (Z1 = wr.setCell ⟨mb, 7, none⟩ (.slice none 0 0)) := hZ1
          have HZ : Hid (Z = Z1.setCell ⟨mb, 6, none⟩ (.bool true)) := hZ
          clear hfull hgs hcm hgr hZ1 hb1 hZ hbZ hgZ0 hgZ hqQ hqZ
          go_upto_region 17 with fail
          rw [← HZ1.out]
          clear k7 f7 HZ1
          go_upto_region 18 with fail
          rw [← HZ.out]
          clear k6 f6 HZ
          go_wp2
          go_ret
          exact ⟨rfl, _, HFIN.out, HGF.out⟩
end Go.Proofs.YtoalbopcapgojabDoor

/- What feedAll, allOuts and Do of package exec answer. -/
namespace Go.Proofs.YtoalbopcapgojabDoor
open Go.RowKit Gf
set_option linter.unusedVariables false
set_option maxRecDepth 20000
set_option linter.unusedSimpArgs false
theorem below_grownF {B r : Nat} {w0 w Z : World} (h : Below B w0 w) (hg : w.grownBy Z (some r)) (hr : B ≤ r) (hB : B ≤ w.heap.size) : Below B w0 Z :=
  h.trans ⟨hg.os, hg.tape, hg.output, hg.size, fun k hk => hg.block k (by omega) (fun e => by have := Option.some.inj e; omega)⟩
theorem grown_same {w Y Z : World} {r : Nat} (h : w.grownBy Y (some r)) (hg : Y.grownBy Z (some r)) : w.grownBy Z (some r) :=
  ⟨hg.os.trans h.os, hg.tape.trans h.tape, hg.output.trans h.output, Nat.le_trans h.size hg.size, fun k hk hne => (hg.block k (Nat.lt_of_lt_of_le hk h.size) hne).trans (h.block k hk hne)⟩
theorem grown_below' {w Y Z : World} {r : Nat} (h : w.grownBy Y (some r)) (hb : Below Y.heap.size Y Z) : w.grownBy Z (some r) := grown_below h hb
variable {N B : Nat} {w : World} {mb Fd : Nat} {ia oa sa : Option Addr} {il ic ol oc sl sc rg h : Nat} {ins outs : List Int} {ss : List Stp} {fd : Nat → Option (Option Addr × Nat)} {X : Int → Nat → F} {ran : Bool} {ov : Value}
theorem MacW.congrX {X' : Int → Nat → F} (hm : MacW N B w mb Fd ia oa sa il ic ol oc sl sc rg h ins outs ss fd X false ov) (e : ∀ i : Nat, i < il → X (i : Int) = X' (i : Int)) : MacW N B w mb Fd ia oa sa il ic ol oc sl sc rg h ins outs ss fd X' false ov :=
  { hm with row := fun i hi p hp => by rw [← e i hi]; exact hm.row i hi p hp, out := fun e => by cases e }
theorem inX_eq {L : List (List F)} {i : Nat} {xs : List F} (h : L[i]? = some xs) : inX L (i : Int) = at8 xs := funext fun j => inX_at h j
/-- each of a list of lists, in memory -/
theorem rows8_cell {xa : Option Addr} {L : List (List F)} {k : Nat} {xs : List F} (hX : Rows8 w xa L) (hk : L[k]? = some xs) : ∃ b off a c, xa = some ⟨b, off, none⟩ ∧ w.cell? ⟨b, off + k, none⟩ = some (.slice a xs.length c) ∧ Row8 w a xs := by
  rcases hX with rfl | ⟨b, off, rfl, h⟩
  · cases hk
  · obtain ⟨a, c, h1, h2⟩ := h k xs hk
    exact ⟨b, off, a, c, rfl, h1, h2⟩
set_option maxRecDepth 100000 in
set_option maxHeartbeats 8000000 in
theorem feedAll_F (w0 : World) (xa : Option Addr) (n nc : Nat) (L : List (List F)) (s : Addr) (hm : MacW N B w mb Fd ia oa sa il ic ol oc sl sc rg h ins outs ss (fun _ => none) X false ov) (hn : n = L.length) (hni : n = il) (hLB : ∀ xs ∈ L, xs.length ≤ 4611686018427387904) (hX : Rows8 w0 xa L) (h0 : Below w0.heap.size w0 w) (hF0 : w0.heap.size ≤ Fd) (hs : w0.cell? ⟨3, 0, none⟩ = some (errAt s)) :
    Calls Tryd.prog 28 #[.pointer (some ⟨mb, 0, none⟩), .slice xa n nc] w fun e w' => ((∀ xs ∈ L, xs.length = h) ∧ e = .returned .nilIface ∧ (∃ fd', MacW N B w' mb Fd ia oa sa il ic ol oc sl sc rg h ins outs ss fd' (inX L) false ov ∧ ∀ i, i < il → (fd' i).isSome = true) ∨ (¬ ∀ xs ∈ L, xs.length = h) ∧ e = .returned (errAt s)) ∧ w.grownBy w' (some Fd) := by
  obtain ⟨hil, hol, hrg, hsl⟩ := hm.sizes
  have HM : Hid (MacW N B w mb Fd ia oa sa il ic ol oc sl sc rg h ins outs ss (fun _ => none) X false ov) := hm
  have HX : Hid (Rows8 w0 xa L) := hX
  have H0 : Hid (Below w0.heap.size w0 w) := h0
  have HF0 : Hid (w0.heap.size ≤ Fd) := hF0
  have HS : Hid (w0.cell? ⟨3, 0, none⟩ = some (errAt s)) := hs
  have HN : Hid (n = L.length) := hn
  have HLB : Hid (∀ xs ∈ L, xs.length ≤ 4611686018427387904) := hLB
  have HIL : Hid (il = ins.length) := hm.prg.eil
  have k0 := cellAt hm.blk 0 _ rfl
  subst hni
  clear hm hX h0 hF0 hs hn hLB
  unfold errAt
  go_enter Tryd.func28, Tryd.ntmps28
  go_wp2
  clear k0
  go_loopw [20] (fun i wr => ∃ (k : Nat) (fd : Nat → Option (Option Addr × Nat)) (X' : Int → Nat → F), k ≤ n ∧ i = .int .i64 k ∧ MacW N B wr mb Fd ia oa sa n ic ol oc sl sc rg h ins outs ss fd X' false ov ∧ (∀ i : Nat, (fd i).isSome = decide (i < k)) ∧ (∀ i : Nat, i < k → X' (i : Int) = inX L (i : Int)) ∧ (∀ i xs, i < k → L[i]? = some xs → xs.length = h) ∧ w.grownBy wr (some Fd)) (fun i _ => n - (intOf i).toNat)
  case atStart => exact ⟨0, _, X, Nat.zero_le _, rfl, HM.out, fun i => by simp, fun i hi => absurd hi (Nat.not_lt_zero _), fun i xs hi => absurd hi (Nat.not_lt_zero _), World.grownBy.refl _ _⟩
  case round =>
    obtain ⟨k, fd, X', hk, rfl, hmr, hfd, hX', hlen, hg⟩ := hrel
    have HMR : Hid (MacW N B wr mb Fd ia oa sa n ic ol oc sl sc rg h ins outs ss fd X' false ov) := hmr
    have HFD : Hid (∀ i : Nat, (fd i).isSome = decide (i < k)) := hfd
    have HXE : Hid (∀ i : Nat, i < k → X' (i : Int) = inX L (i : Int)) := hX'
    have HLE : Hid (∀ i xs, i < k → L[i]? = some xs → xs.length = h) := hlen
    have HG : Hid (w.grownBy wr (some Fd)) := hg
    have HB0 : Hid (Below w0.heap.size w0 wr) := below_grownF H0.out hg HF0.out H0.out.size
    clear hmr hfd hX' hlen hg
    by_cases hlt : k < n
    · have hkl : k < L.length := by rw [← HN.out]; exact hlt
      obtain ⟨xs, hxs⟩ : ∃ xs, L[k]? = some xs := ⟨_, List.getElem?_eq_getElem hkl⟩
      have HXS : Hid (L[k]? = some xs) := hxs
      have hxb := HLB.out xs (List.mem_of_getElem? hxs)
      obtain ⟨b, off, a, c, rfl, hc1, hr1⟩ := rows8_cell (rows8_below HX.out HB0.out) hxs
      have HR1 : Hid (Row8 wr a xs) := hr1
      have hki : k < ins.length := by rw [← HIL.out]; exact hlt
      obtain ⟨b2, off2, rfl, hb2, hc2⟩ := rowI_cell HMR.out.prg.I hki
      have c2 := hc2 k hki
      obtain ⟨x, hx⟩ : ∃ x, x = ins.getD k 0 := ⟨_, rfl⟩
      rw [← hx] at c2
      have HIX : Hid (ins[k]? = some x) := by show _ = _; rw [hx, List.getD_eq_getElem?_getD, List.getElem?_eq_getElem hki]; rfl
      have hfk : fd k = none := by
        have := HFD.out k
        simp at this
        exact this
      have HFK : Hid (fd k = none) := hfk
      have k0 := cellAt HMR.out.blk 0 _ rfl
      clear hxs hr1 hb2 hc2 hx hfk hki hkl
      by_cases he : xs.length = h
      · have HE : Hid (xs.length = h) := he
        clear he
        go_wp2_with fail
        refine Calls.mono (feed_ok HMR.out x k xs.length _ _ xs HIX.out HFK.out rfl HE.out HR1.out) ?_
        rintro e w6 ⟨q, c9, rfl, hm6, hg6⟩
        have HM6 : Hid _ := hm6
        have HG6 : Hid (w.grownBy w6 (some Fd)) := grown_same HG.out hg6
        clear hm6 hg6 k0 c2 hc1
        go_wp2
        refine ⟨⟨k + 1, _, _, by omega, by go_num, HM6.out, fun i => ?_, fun i hi => ?_, fun i ys hi hy => ?_, HG6.out⟩, by simp [intOf]; omega⟩
        · by_cases e : i = k
          · subst e; simp
          · simp only [e, if_false]
            rw [HFD.out]
            by_cases e2 : i < k
            · rw [decide_eq_true e2, decide_eq_true (by omega)]
            · rw [decide_eq_false e2, decide_eq_false (by omega)]
        · by_cases e : i = k
          · subst e; simp only [if_true]; exact (inX_eq HXS.out).symm
          · rw [if_neg (show (i : Int) ≠ (k : Int) by omega)]; exact HXE.out i (by omega)
        · by_cases e : i = k
          · subst e
            rw [HXS.out] at hy
            rw [← Option.some.inj hy]; exact HE.out
          · exact HLE.out i ys (by omega) hy
      · have HE : Hid (¬ xs.length = h) := he
        have ks := cell_later HB0.out HS.out
        clear he
        go_wp2_with fail
        refine Calls.mono (feed_data HMR.out x k xs.length _ _ s ks HIX.out HFK.out HE.out (by omega)) ?_
        unfold errAt
        rintro e w6 ⟨rfl, hb6⟩
        have HG6 : Hid (w.grownBy w6 (some Fd)) := grown_below HG.out hb6
        clear hb6 k0 c2 hc1
        go_wp2
        go_ret
        exact ⟨.inr ⟨fun hh => HE.out (hh xs (List.mem_of_getElem? HXS.out)), rfl⟩, HG6.out⟩
    · obtain rfl : n = k := by omega
      go_wp2
      go_ret
      refine ⟨.inl ⟨fun xs hx => ?_, rfl, fd, HMR.out.congrX HXE.out, fun i hi => by rw [HFD.out]; exact decide_eq_true hi⟩, HG.out⟩
      obtain ⟨i, hi, e⟩ := List.getElem_of_mem hx
      exact HLE.out i xs (by rw [HN.out]; exact hi) (by rw [List.getElem?_eq_getElem hi, e])
/-- the outputs of Do in memory -/
structure OutL (w : World) (G ol h : Nat) (qs cs : Nat → Nat) (X : Int → Nat → F) (ss : List Stp) (k : Nat) : Prop where
  blk : w.heap[G]? = some (.cells (slO ol h (fun d => if d < k then some (some ⟨qs d, 0, none⟩, cs d) else none)) 26 (0, 0))
  row : ∀ d, d < k → Has8 w (qs d) (rowF h (runO X ss noR noR (d : Int))) (cs d)
  up : ∀ d, d < k → G < qs d
  rise : ∀ d e, d < e → e < k → qs d < qs e
theorem OutL.cell {G d : Nat} {qs cs : Nat → Nat} (ho : OutL w G ol h qs cs X ss ol) (hd : d < ol) : w.cell? ⟨G, d, none⟩ = some (.slice (some ⟨qs d, 0, none⟩) h (cs d)) := by
  have := cellAt ho.blk d _ (slO_at hd)
  rw [svO, if_pos hd] at this
  exact this
theorem OutL.below {G k : Nat} {qs cs : Nat → Nat} {w' : World} (ho : OutL w G ol h qs cs X ss k) (hb : Below w.heap.size w w') : OutL w' G ol h qs cs X ss k :=
  { ho with blk := heap_later ho.blk hb, row := fun d hd => has8_below (ho.row d hd) hb }
theorem OutL.next {G k q c : Nat} {qs cs : Nat → Nat} {w' : World} (ho : OutL w G ol h qs cs X ss k) (hk : k < ol) (hb : Below w.heap.size w w') (h8 : Has8 w' q (rowF h (runO X ss noR noR (k : Int))) c) (hq : w.heap.size ≤ q) :
    OutL (w'.setCell ⟨G, k, none⟩ (.slice (some ⟨q, 0, none⟩) h c)) G ol h (fun d => if d = k then q else qs d) (fun d => if d = k then c else cs d) X ss (k + 1) := by
  have hG := ltHeap ho.blk
  refine ⟨?_, fun d hd => ?_, fun d hd => ?_, fun d e hde he => ?_⟩
  · rw [heap_setCell_same _ _ _ _ _ _ (heap_later ho.blk hb), slO_set (some ⟨q, 0, none⟩, c) hk]
    congr 3
    funext d
    by_cases e : d = k
    · subst e; simp
    · by_cases e2 : d < k
      · simp [e, e2, show d < k + 1 by omega]
      · simp [e, e2, show ¬ d < k + 1 by omega]
  · by_cases e : d = k
    · subst e; simp only [if_true]; exact has8_set_otherE h8 (by show q ≠ G; omega)
    · simp only [e, if_false]
      exact has8_set_otherE (has8_below (ho.row d (by omega)) hb) (by have := ho.up d (by omega); show qs d ≠ G; omega)
  · by_cases e : d = k
    · simp only [e, if_true]; omega
    · simp only [e, if_false]; exact ho.up d (by omega)
  · have hdk : d ≠ k := by omega
    simp only [hdk, if_false]
    by_cases e2 : e = k
    · simp only [e2, if_true]
      obtain ⟨cur, h1, _⟩ := ho.row d (by omega)
      have := ltHeap h1
      omega
    · simp only [e2, if_false]; exact ho.rise d e hde (by omega)
set_option maxRecDepth 100000 in
set_option maxHeartbeats 8000000 in
theorem allOuts_F (hm : MacW N B w mb Fd ia oa sa il ic ol oc sl sc rg h ins outs ss fd X true ov) :
    Calls Tryd.prog 29 #[.pointer (some ⟨mb, 0, none⟩)] w fun e w' => ∃ G qs cs, e = .returned (.tuple #[.slice (some ⟨G, 0, none⟩) ol ol, .nilIface]) ∧ OutL w' G ol h qs cs X ss ol ∧ w.heap.size ≤ G ∧ Below w.heap.size w w' := by
  obtain ⟨hil, hol, hrg, hsl⟩ := hm.sizes
  have HM : Hid (MacW N B w mb Fd ia oa sa il ic ol oc sl sc rg h ins outs ss fd X true ov) := hm
  have HOL : Hid (ol = outs.length) := hm.prg.eol
  have hcol := hm.prg.col
  have mk1 := fun u : World => run_makeN ol h (by omega) u
  have hb0 : Below w.heap.size w (w.alloc (.cells (slO ol h (fun _ => none)) 26)) := (Below.refl _ _).alloc (Nat.le_refl _) _
  have k1 := cellAt hm.blk 1 _ rfl
  have k2 := cellAt (heap_later hm.blk hb0) 1 _ rfl
  have HB0 : Hid _ := hb0
  have HL0 : Hid (OutL (w.alloc (.cells (slO ol h (fun _ => none)) 26)) w.heap.size ol h (fun _ => 0) (fun _ => 0) X ss 0) := ⟨by simp only [Nat.not_lt_zero, if_false]; exact heap_alloc_last _ _, fun d hd => absurd hd (Nat.not_lt_zero _), fun d hd => absurd hd (Nat.not_lt_zero _), fun d e _ he => absurd he (Nat.not_lt_zero _)⟩
  clear hm hb0
  go_enter Tryd.func29, Tryd.ntmps29
  go_wp2
  clear k1 k2 mk1
  go_loopw [22] (fun i wr => ∃ (k : Nat) (qs cs : Nat → Nat), k ≤ ol ∧ i = .int .i64 k ∧ OutL wr w.heap.size ol h qs cs X ss k ∧ Below w.heap.size w wr) (fun i _ => ol - (intOf i).toNat)
  case atStart => exact ⟨0, _, _, Nat.zero_le _, rfl, HL0.out, HB0.out⟩
  case round =>
    obtain ⟨k, qs, cs, hk, rfl, ho, hb⟩ := hrel
    have HO : Hid (OutL wr w.heap.size ol h qs cs X ss k) := ho
    have HB : Hid (Below w.heap.size w wr) := hb
    clear ho hb HB0 HL0
    by_cases hlt : k < ol
    · have HMR : Hid _ := HM.out.below HB.out
      have hki : k < outs.length := by rw [← HOL.out]; exact hlt
      obtain ⟨b2, off2, rfl, hb2, hc2⟩ := rowI_cell HMR.out.prg.O hki
      have c2 := hc2 k hki
      obtain ⟨x, hx⟩ : ∃ x, x = outs.getD k 0 := ⟨_, rfl⟩
      rw [← hx] at c2
      have HIX : Hid (outs[k]? = some x) := by show _ = _; rw [hx, List.getD_eq_getElem?_getD, List.getElem?_eq_getElem hki]; rfl
      clear hb2 hc2 hx hki
      go_wp2_with fail
      refine Calls.mono (out_ok HMR.out x k HIX.out) ?_
      rintro e w6 ⟨q, c9, rfl, h8, hq, hb6⟩
      have d6 := cellAt (heap_later HO.out.blk hb6) k _ (slO_at hlt)
      rw [svO, if_neg (Nat.lt_irrefl k)] at d6
      simp only at d6
      have f6 : w6.frozen? ⟨w.heap.size, k, none⟩ = false := frozen_of_row _ _ _ _ _ (heap_later HO.out.blk hb6)
      have HNX : Hid _ := HO.out.next hlt hb6 h8 hq
      have HBN : Hid (Below w.heap.size w (w6.setCell ⟨w.heap.size, k, none⟩ (.slice (some ⟨q, 0, none⟩) h c9))) := (HB.out.trans (hb6.mono HB.out.size)).setCell (p := ⟨w.heap.size, k, none⟩) (Nat.le_refl _) _
      clear h8 hq hb6 c2
      go_wp2
      exact ⟨⟨k + 1, _, _, by omega, by go_num, HNX.out, HBN.out⟩, by simp [intOf]; omega⟩
    · obtain rfl : ol = k := by omega
      go_wp2
      go_ret2
      exact ⟨w.heap.size, qs, cs, rfl, HO.out, Nat.le_refl _, HB.out⟩
end Go.Proofs.YtoalbopcapgojabDoor

/- What Do of package exec answers. -/
namespace Go.Proofs.YtoalbopcapgojabDoor
open Go.RowKit Gf
set_option linter.unusedVariables false
set_option maxRecDepth 20000
set_option linter.unusedSimpArgs false
set_option maxRecDepth 100000 in
set_option maxHeartbeats 8000000 in
theorem do_F (ia oa sa xa : Option Addr) (il ic ol oc sl sc rg h n nc : Nat) (ins outs : List Int) (ss : List Stp) (L : List (List F)) (w : World) (s d : Addr) (hP : PrgW w ia oa sa il ic ol oc sl sc ins outs ss) (hs : w.cell? ⟨5, 0, none⟩ = some (errAt s)) (hd : w.cell? ⟨3, 0, none⟩ = some (errAt d)) (hF : InF ins outs rg ss) (h1 : 1 ≤ h) (h64 : h ≤ 64)
    (hn : n = L.length) (hni : n = il) (hLB : ∀ xs ∈ L, xs.length ≤ 4611686018427387904) (hX : Rows8 w xa L) :
    Calls Tryd.prog 17 #[.agg #[.slice ia il ic, .slice oa ol oc, .int .i64 rg, .slice sa sl sc], .int .i64 h, .slice xa n nc] w fun e w' => ((∀ xs ∈ L, xs.length = h) ∧ (∃ G qs cs, e = .returned (.tuple #[.slice (some ⟨G, 0, none⟩) ol ol, .nilIface]) ∧ OutL w' G ol h qs cs (inX L) ss ol ∧ w.heap.size ≤ G) ∨ (¬ ∀ xs ∈ L, xs.length = h) ∧ e = .returned (.tuple #[.slice none 0 0, errAt d])) ∧ Below w.heap.size w w' := by
  have hb0 : Below w.heap.size w (w.alloc (.cells #[.slice ia il ic, .slice oa ol oc, .int .i64 rg, .slice sa sl sc] 25)) := (Below.refl _ _).alloc (Nat.le_refl _) _
  have hx0 : (w.alloc (.cells #[.slice ia il ic, .slice oa ol oc, .int .i64 rg, .slice sa sl sc] 25)).heap[w.heap.size]? = some (.cells #[.slice ia il ic, .slice oa ol oc, .int .i64 rg, .slice sa sl sc] 25 (0, 0)) := heap_alloc_last _ _
  have HB0 : Hid _ := hb0
  have HNW : Hid _ := new_ok 0 (inX L) ia oa sa il ic ol oc sl sc rg h ins outs ss _ s (hP.below hb0) (cell_later hb0 hs) hF h1 h64
  have HX : Hid (Rows8 w xa L) := hX
  have HD : Hid (w.cell? ⟨3, 0, none⟩ = some (errAt d)) := hd
  have HN : Hid (n = L.length) := hn
  have HNI : Hid (n = il) := hni
  have HLB : Hid (∀ xs ∈ L, xs.length ≤ 4611686018427387904) := hLB
  have HZ0 : Hid (w.heap.size ≤ (w.alloc (.cells #[.slice ia il ic, .slice oa ol oc, .int .i64 rg, .slice sa sl sc] 25)).heap.size) := by show _ ≤ _; simp
  have k0 := cellAt hx0 0 _ rfl
  have k1 := cellAt hx0 1 _ rfl
  have k2 := cellAt hx0 2 _ rfl
  have k3 := cellAt hx0 3 _ rfl
  clear hP hs hd hF hn hni hLB hX hb0 hx0
  go_enter Tryd.func17, Tryd.ntmps17
  go_wp2_with fail
  refine Calls.mono HNW.out ?_
  rintro e w1 ⟨mb, Fd, ia', ic', oa', oc', sa', sc', rfl, hm, hb1⟩
  have HM : Hid _ := hm
  have HB1 : Hid (Below w.heap.size w w1) := HB0.out.trans (hb1.mono HB0.out.size)
  have HFB : Hid (w.heap.size ≤ Fd) := Nat.le_trans HZ0.out hm.hFd
  have HMB : Hid (w.heap.size ≤ mb) := Nat.le_trans HZ0.out hm.hmb
  clear hm hb1 k0 k1 k2 k3 HNW
  go_wp2_with fail
  refine Calls.mono (feedAll_F w xa n nc L d HM.out HN.out HNI.out HLB.out HX.out HB1.out HFB.out HD.out) ?_
  rintro e w2 ⟨hres, hg2⟩
  have HB2 : Hid (Below w.heap.size w w2) := below_grownF HB1.out hg2 HFB.out HB1.out.size
  clear hg2
  rcases hres with ⟨hall, rfl, fd', hm2, hfd⟩ | ⟨hbad, rfl⟩
  · have HALL : Hid (∀ xs ∈ L, xs.length = h) := hall
    have HM2 : Hid _ := hm2
    have HFD : Hid _ := hfd
    clear hall hm2 hfd
    go_wp2_with fail
    refine Calls.mono (run_ok HM2.out HFD.out (Nat.zero_le _)) ?_
    rintro e w3 ⟨rfl, ov', hm3, hg3⟩
    have HM3 : Hid _ := hm3
    have HB3 : Hid (Below w.heap.size w w3) := below_grownF HB2.out hg3 HMB.out HB2.out.size
    clear hm3 hg3
    go_wp2_with fail
    refine Calls.mono (allOuts_F HM3.out) ?_
    rintro e w4 ⟨G, qs, cs, rfl, ho, hG, hb4⟩
    have HO : Hid _ := ho
    have HG : Hid (w.heap.size ≤ G) := Nat.le_trans HB3.out.size hG
    have HB4 : Hid (Below w.heap.size w w4) := HB3.out.trans (hb4.mono HB3.out.size)
    clear ho hG hb4
    go_wp2
    go_ret2
    exact ⟨.inl ⟨HALL.out, G, qs, cs, rfl, HO.out, HG.out⟩, HB4.out⟩
  · have HBAD : Hid (¬ ∀ xs ∈ L, xs.length = h) := hbad
    clear hbad
    unfold errAt
    go_wp2
    go_ret2
    exact ⟨.inr ⟨HBAD.out, rfl⟩, HB2.out⟩
set_option maxHeartbeats 4000000 in
theorem do_bad (ia oa sa xa : Option Addr) (il ic ol oc sl sc n nc : Nat) (rg h : Int) (ins outs : List Int) (ss : List Stp) (w : World) (s : Addr) (hP : PrgW w ia oa sa il ic ol oc sl sc ins outs ss) (hs : w.cell? ⟨5, 0, none⟩ = some (errAt s)) (hF : ¬ InF ins outs rg ss) :
    Calls Tryd.prog 17 #[.agg #[.slice ia il ic, .slice oa ol oc, .int .i64 rg, .slice sa sl sc], .int .i64 h, .slice xa n nc] w fun e w' => e = .returned (.tuple #[.slice none 0 0, errAt s]) ∧ Below w.heap.size w w' := by
  have hb0 : Below w.heap.size w (w.alloc (.cells #[.slice ia il ic, .slice oa ol oc, .int .i64 rg, .slice sa sl sc] 25)) := (Below.refl _ _).alloc (Nat.le_refl _) _
  have hx0 : (w.alloc (.cells #[.slice ia il ic, .slice oa ol oc, .int .i64 rg, .slice sa sl sc] 25)).heap[w.heap.size]? = some (.cells #[.slice ia il ic, .slice oa ol oc, .int .i64 rg, .slice sa sl sc] 25 (0, 0)) := heap_alloc_last _ _
  have HB0 : Hid _ := hb0
  have HNW : Hid _ := new_bad ia oa sa il ic ol oc sl sc rg h ins outs ss _ s (hP.below hb0) (cell_later hb0 hs) hF
  have k0 := cellAt hx0 0 _ rfl
  have k1 := cellAt hx0 1 _ rfl
  have k2 := cellAt hx0 2 _ rfl
  have k3 := cellAt hx0 3 _ rfl
  clear hP hs hF hb0 hx0
  go_enter Tryd.func17, Tryd.ntmps17
  go_wp2_with fail
  refine Calls.mono HNW.out ?_
  unfold errAt
  rintro e w1 ⟨rfl, hb1⟩
  have HB1 : Hid (Below w.heap.size w w1) := HB0.out.trans (hb1.mono HB0.out.size)
  clear hb1 k0 k1 k2 k3 HNW
  go_wp2
  go_ret2
  exact ⟨rfl, HB1.out⟩
set_option maxHeartbeats 4000000 in
theorem do_size (ia oa sa xa : Option Addr) (il ic ol oc sl sc n nc : Nat) (rg h : Int) (ins outs : List Int) (ss : List Stp) (w : World) (s z : Addr) (hP : PrgW w ia oa sa il ic ol oc sl sc ins outs ss) (hs : w.cell? ⟨5, 0, none⟩ = some (errAt s)) (hz : w.cell? ⟨0, 0, none⟩ = some (errAt z)) (hF : InF ins outs rg ss) (hh : ¬ (1 ≤ h ∧ h ≤ 64)) :
    Calls Tryd.prog 17 #[.agg #[.slice ia il ic, .slice oa ol oc, .int .i64 rg, .slice sa sl sc], .int .i64 h, .slice xa n nc] w fun e w' => e = .returned (.tuple #[.slice none 0 0, errAt z]) ∧ Below w.heap.size w w' := by
  have hb0 : Below w.heap.size w (w.alloc (.cells #[.slice ia il ic, .slice oa ol oc, .int .i64 rg, .slice sa sl sc] 25)) := (Below.refl _ _).alloc (Nat.le_refl _) _
  have hx0 : (w.alloc (.cells #[.slice ia il ic, .slice oa ol oc, .int .i64 rg, .slice sa sl sc] 25)).heap[w.heap.size]? = some (.cells #[.slice ia il ic, .slice oa ol oc, .int .i64 rg, .slice sa sl sc] 25 (0, 0)) := heap_alloc_last _ _
  have HB0 : Hid _ := hb0
  have HNW : Hid _ := new_size ia oa sa il ic ol oc sl sc rg h ins outs ss _ s z (hP.below hb0) (cell_later hb0 hs) (cell_later hb0 hz) hF hh
  have k0 := cellAt hx0 0 _ rfl
  have k1 := cellAt hx0 1 _ rfl
  have k2 := cellAt hx0 2 _ rfl
  have k3 := cellAt hx0 3 _ rfl
  clear hP hs hz hF hh hb0 hx0
  go_enter Tryd.func17, Tryd.ntmps17
  go_wp2_with fail
  refine Calls.mono HNW.out ?_
  unfold errAt
  rintro e w1 ⟨rfl, hb1⟩
  have HB1 : Hid (Below w.heap.size w w1) := HB0.out.trans (hb1.mono HB0.out.size)
  clear hb1 k0 k1 k2 k3 HNW
  go_wp2
  go_ret2
  exact ⟨rfl, HB1.out⟩
set_option maxHeartbeats 4000000 in
/-- another number of inputs than the program has -/
theorem do_count (ia oa sa xa : Option Addr) (il ic ol oc sl sc rg h n nc : Nat) (ins outs : List Int) (ss : List Stp) (w : World) (s d : Addr) (hP : PrgW w ia oa sa il ic ol oc sl sc ins outs ss) (hs : w.cell? ⟨5, 0, none⟩ = some (errAt s)) (hd : w.cell? ⟨3, 0, none⟩ = some (errAt d)) (hF : InF ins outs rg ss) (h1 : 1 ≤ h) (h64 : h ≤ 64)
    (hni : n ≠ il) :
    Calls Tryd.prog 17 #[.agg #[.slice ia il ic, .slice oa ol oc, .int .i64 rg, .slice sa sl sc], .int .i64 h, .slice xa n nc] w fun e w' => e = .returned (.tuple #[.slice none 0 0, errAt d]) ∧ Below w.heap.size w w' := by
  have hb0 : Below w.heap.size w (w.alloc (.cells #[.slice ia il ic, .slice oa ol oc, .int .i64 rg, .slice sa sl sc] 25)) := (Below.refl _ _).alloc (Nat.le_refl _) _
  have hx0 : (w.alloc (.cells #[.slice ia il ic, .slice oa ol oc, .int .i64 rg, .slice sa sl sc] 25)).heap[w.heap.size]? = some (.cells #[.slice ia il ic, .slice oa ol oc, .int .i64 rg, .slice sa sl sc] 25 (0, 0)) := heap_alloc_last _ _
  have HB0 : Hid _ := hb0
  have HNW : Hid _ := new_ok 0 (fun _ _ => 0) ia oa sa il ic ol oc sl sc rg h ins outs ss _ s (hP.below hb0) (cell_later hb0 hs) hF h1 h64
  have HD : Hid (w.cell? ⟨3, 0, none⟩ = some (errAt d)) := hd
  have k0 := cellAt hx0 0 _ rfl
  have k1 := cellAt hx0 1 _ rfl
  have k2 := cellAt hx0 2 _ rfl
  have k3 := cellAt hx0 3 _ rfl
  have e4 : ((n : Int) == (il : Int)) = false := beq_eq_false_iff_ne.2 (by omega)
  clear hP hs hd hF hb0 hx0 hni
  go_enter Tryd.func17, Tryd.ntmps17
  go_wp2_with fail
  refine Calls.mono HNW.out ?_
  rintro e w1 ⟨mb, Fd, ia', ic', oa', oc', sa', sc', rfl, hm, hb1⟩
  have HB1 : Hid (Below w.heap.size w w1) := HB0.out.trans (hb1.mono HB0.out.size)
  have q0 := cellAt hm.blk 0 _ rfl
  have hcount : Calls Tryd.prog 28 #[.pointer (some ⟨mb, 0, none⟩), .slice xa n nc] w1 fun e w' => e = .returned (errAt d) ∧ w1 = w' := by
    have q9 := cell_later HB1.out HD.out
    unfold errAt at q9 ⊢
    clear hm hb1 k0 k1 k2 k3 HNW
    go_enter Tryd.func28, Tryd.ntmps28
    go_wp2
    go_ret
    exact ⟨rfl, rfl⟩
  have HC : Hid _ := hcount
  clear hm hb1 k0 k1 k2 k3 HNW hcount
  go_wp2_with fail
  refine Calls.mono HC.out ?_
  unfold errAt
  rintro e w2 ⟨rfl, rfl⟩
  go_wp2
  go_ret2
  exact ⟨rfl, HB1.out⟩
end Go.Proofs.YtoalbopcapgojabDoor

/- The chapter's example of package exec: alive of stage 10 returns true. -/
namespace Go.Proofs.YtoalbopcapgojabDoor
open Go.RowKit Gf
set_option linter.unusedVariables false
set_option maxRecDepth 20000
set_option linter.unusedSimpArgs false
theorem rowI_list10 {w : World} {g o : Nat} {cs : Array Value} {t : TypeId} {fr : Nat × Nat} {ns : List Int} (h : w.heap[g]? = some (.cells cs t fr)) (hn : ∀ j n, ns[j]? = some n → cs[o + j]? = some (.int .i64 n)) : RowI w (some ⟨g, o, none⟩) ns :=
  .inr ⟨g, o, rfl, fun j n hj => cellAt h (o + j) _ (hn j n hj)⟩
def smallE : List Stp := [⟨1, 0, 0, 0⟩, ⟨1, 1, 1, 0⟩, ⟨3, 0, 0, 3⟩, ⟨4, 0, 1, 7⟩, ⟨5, 0, 0, 0⟩]
theorem smallE_in : InF [2, 5] [0] 2 smallE := by
  refine ⟨?_, ?_, by omega, by decide, ?_, ?_⟩
  · exact goodH_of (n := 32) (ns := [2, 5]) (by decide) (by decide)
  · exact goodH_of (n := 32) (ns := [0]) (by decide) (by decide)
  · intro s hs
    simp only [smallE, List.mem_cons, List.not_mem_nil, or_false] at hs
    rcases hs with rfl | rfl | rfl | rfl | rfl <;> simp [OkS]
  · intro d hd
    obtain rfl : d = 0 := by simp only [List.length_cons, List.length_nil] at hd; omega
    rfl
theorem small10_F (w : World) : Calls Tryd.prog 19 #[] w fun e w' => ∃ ia oa sa, e = .returned (.agg #[.slice ia 2 2, .slice oa 1 1, .int .i64 2, .slice sa 5 5]) ∧ PrgW w' ia oa sa 2 2 1 1 5 5 [2, 5] [0] smallE ∧ Below w.heap.size w w' := by
  go_enter Tryd.func19, Tryd.ntmps19
  go_wp2
  have hA := holds_new (holds_new (holds_new (holds_new (holds_nil w) #[.slice (some ⟨w.heap.size + 1, 0, none⟩) 2 2, .slice (some ⟨w.heap.size + 1 + 1, 0, none⟩) 1 1, .int .i64 2, .slice (some ⟨w.heap.size + 1 + 1 + 1, 0, none⟩) 5 5] 25) #[.int .i64 2, .int .i64 5] 3) #[.int .i64 0] 3) #[.int .i64 1, .int .i64 0, .int .i64 0, .int .u8 0, .int .i64 1, .int .i64 1, .int .i64 1, .int .u8 0, .int .i64 3, .int .i64 0, .int .i64 0, .int .u8 3, .int .i64 4, .int .i64 0, .int .i64 1, .int .u8 7, .int .i64 5, .int .i64 0, .int .i64 0, .int .u8 0] 55
  have hB := ((((Below.refl _ w).alloc (Nat.le_refl _) (.cells #[.slice (some ⟨w.heap.size + 1, 0, none⟩) 2 2, .slice (some ⟨w.heap.size + 1 + 1, 0, none⟩) 1 1, .int .i64 2, .slice (some ⟨w.heap.size + 1 + 1 + 1, 0, none⟩) 5 5] 25)).alloc (by simp) (.cells #[.int .i64 2, .int .i64 5] 3)).alloc (by simp; omega) (.cells #[.int .i64 0] 3)).alloc (by simp; omega) (.cells #[.int .i64 1, .int .i64 0, .int .i64 0, .int .u8 0, .int .i64 1, .int .i64 1, .int .i64 1, .int .u8 0, .int .i64 3, .int .i64 0, .int .i64 0, .int .u8 3, .int .i64 4, .int .i64 0, .int .i64 1, .int .u8 7, .int .i64 5, .int .i64 0, .int .i64 0, .int .u8 0] 55)
  simp only [World.size_alloc] at hA
  generalize ((((w.alloc (.cells #[.slice (some ⟨w.heap.size + 1, 0, none⟩) 2 2, .slice (some ⟨w.heap.size + 1 + 1, 0, none⟩) 1 1, .int .i64 2, .slice (some ⟨w.heap.size + 1 + 1 + 1, 0, none⟩) 5 5] 25)).alloc (.cells #[.int .i64 2, .int .i64 5] 3)).alloc (.cells #[.int .i64 0] 3)).alloc (.cells #[.int .i64 1, .int .i64 0, .int .i64 0, .int .u8 0, .int .i64 1, .int .i64 1, .int .i64 1, .int .u8 0, .int .i64 3, .int .i64 0, .int .i64 0, .int .u8 3, .int .i64 4, .int .i64 0, .int .i64 1, .int .u8 7, .int .i64 5, .int .i64 0, .int .i64 0, .int .u8 0] 55)) = W at *
  have hk := holds_at hA 3 rfl
  have r0 := cellAt hk 0 _ rfl
  have r1 := cellAt hk 1 _ rfl
  have r2 := cellAt hk 2 _ rfl
  have r3 := cellAt hk 3 _ rfl
  have z := ltHeap hk
  refine bodyPost_ret (v := .agg #[.slice (some ⟨w.heap.size + 1, 0, none⟩) 2 2, .slice (some ⟨w.heap.size + 1 + 1, 0, none⟩) 1 1, .int .i64 2, .slice (some ⟨w.heap.size + 1 + 1 + 1, 0, none⟩) 5 5]) (by simp [results, Tryd.results19, go_sem, r0, r1, r2, r3, z]) rfl ⟨_, _, _, rfl, ⟨rfl, rfl, rfl, by decide, by decide, by decide, Nat.le_refl _, Nat.le_refl _, Nat.le_refl _, fun e => (by cases e), fun e => (by cases e), fun e => (by cases e), ?_, ?_, ?_⟩, hB⟩
  · exact rowI_list10 (holds_at hA 2 rfl) fun j n hj => by
      match j, hj with
      | 0, hj => cases hj; rfl
      | 1, hj => cases hj; rfl
      | j + 2, hj => cases hj
  · exact rowI_list10 (holds_at hA 1 rfl) fun j n hj => by
      match j, hj with
      | 0, hj => cases hj; rfl
      | j + 1, hj => cases hj
  · exact stpW_cells (o := 0) (holds_at hA 0 rfl) fun j hj => by rw [Nat.zero_add, ← List.getElem?_toArray]; rfl
theorem smallE_run : rowF 2 (runO (inX [[1, 0], [1, 2]]) smallE noR noR ((0 : Nat) : Int)) = [4, 14] := by decide +kernel
/-- the errors that exec knows -/
structure ErrsX (w : World) (E : Nat → Addr) : Prop where
  half : w.cell? ⟨1, 0, none⟩ = some (errAt (E 3))
  data : w.cell? ⟨3, 0, none⟩ = some (errAt (E 4))
  prog : w.cell? ⟨5, 0, none⟩ = some (errAt (E 6))
  there : w.cell? ⟨2, 0, none⟩ = some (errAt (E 7))
  empty : w.cell? ⟨4, 0, none⟩ = some (errAt (E 8))
  num : w.cell? ⟨0, 0, none⟩ = some (errAt (E 11))
theorem ErrsX.below {w w' : World} {E : Nat → Addr} (h : ErrsX w E) (hb : Below w.heap.size w w') : ErrsX w' E :=
  ⟨cell_later hb h.half, cell_later hb h.data, cell_later hb h.prog, cell_later hb h.there, cell_later hb h.empty, cell_later hb h.num⟩
set_option maxRecDepth 100000 in
set_option maxHeartbeats 8000000 in
theorem alive10_ok (w : World) (E : Nat → Addr) (hE : ErrsX w E) : Calls Tryd.prog 6 #[] w fun e w' => e = .returned (.bool true) ∧ Below w.heap.size w w' := by
  have HE : Hid (ErrsX w E) := hE
  clear hE
  go_enter Tryd.func6, Tryd.ntmps6
  go_wp2_with fail
  refine Calls.mono (small10_F _) ?_
  rintro e w1 ⟨ia, oa, sa, rfl, hP, hb1⟩
  have HP : Hid _ := hP
  have HB1 : Hid (Below w.heap.size w w1) := hb1
  clear hP hb1
  have hA := holds_new (holds_new (holds_new (holds_nil w1) #[.int .u8 1, .int .u8 0] 5) #[.int .u8 1, .int .u8 2] 5) #[.slice (some ⟨w1.heap.size, 0, none⟩) 2 2, .slice (some ⟨w1.heap.size + 1, 0, none⟩) 2 2] 26
  simp only [World.size_alloc] at hA
  obtain ⟨W, hW⟩ : ∃ W, W = ((w1.alloc (.cells #[.int .u8 1, .int .u8 0] 5)).alloc (.cells #[.int .u8 1, .int .u8 2] 5)).alloc (.cells #[.slice (some ⟨w1.heap.size, 0, none⟩) 2 2, .slice (some ⟨w1.heap.size + 1, 0, none⟩) 2 2] 26) := ⟨_, rfl⟩
  rw [← hW] at hA
  have hbW : Below w1.heap.size w1 W := by rw [hW]; exact (((Below.refl _ w1).alloc (Nat.le_refl _) _).alloc (by simp) _).alloc (by simp; omega) _
  have HWE : Hid (W = ((w1.alloc (.cells #[.int .u8 1, .int .u8 0] 5)).alloc (.cells #[.int .u8 1, .int .u8 2] 5)).alloc (.cells #[.slice (some ⟨w1.heap.size, 0, none⟩) 2 2, .slice (some ⟨w1.heap.size + 1, 0, none⟩) 2 2] 26)) := hW
  have HBW : Hid (Below w.heap.size w W) := HB1.out.trans (hbW.mono HB1.out.size)
  have HL : Hid (Rows8 W (some ⟨w1.heap.size + 1 + 1, 0, none⟩) [[1, 0], [1, 2]]) := by
    refine .inr ⟨_, 0, rfl, fun j xs hj => ?_⟩
    match j, hj with
    | 0, hj =>
      cases hj
      exact ⟨some ⟨w1.heap.size, 0, none⟩, 2, cellAt (holds_at hA 0 rfl) 0 _ rfl, holds_row (xs := [1, 0]) hA 2 rfl⟩
    | 1, hj =>
      cases hj
      exact ⟨some ⟨w1.heap.size + 1, 0, none⟩, 2, cellAt (holds_at hA 0 rfl) 1 _ rfl, holds_row (xs := [1, 2]) hA 1 rfl⟩
    | j + 2, hj => cases hj
  have HP2 : Hid _ := HP.out.below hbW
  have HEW : Hid _ := HE.out.below HBW.out
  clear hW hA hbW HP
  go_wp2_with fail
  rw [← HWE.out]
  refine Calls.mono (do_F ia oa sa (some ⟨w1.heap.size + 1 + 1, 0, none⟩) 2 2 1 1 5 5 2 2 2 2 [2, 5] [0] smallE [[1, 0], [1, 2]] W (E 6) (E 4) HP2.out HEW.out.prog HEW.out.data smallE_in (by decide) (by decide) rfl rfl (fun xs h => by rcases List.mem_cons.1 h with rfl | h <;> simp_all) HL.out) ?_
  rintro e w2 ⟨hres, hb2⟩
  have HB2 : Hid (Below w.heap.size w w2) := HBW.out.trans (hb2.mono HBW.out.size)
  rcases hres with ⟨_, G, qs, cs, rfl, ho, hG⟩ | ⟨hbad, _⟩
  rotate_left
  · exact absurd (by decide) hbad
  have HO : Hid (OutL w2 G 1 2 qs cs (inX [[1, 0], [1, 2]]) smallE 1) := ho
  clear ho hG hb2 HWE HL HP2 HEW
  go_wp2_with fail
  refine Calls.mono (small10_F _) ?_
  rintro e w3 ⟨ia3, oa3, sa3, rfl, hP3, hb3⟩
  have HP3 : Hid _ := hP3
  have HO3 : Hid _ := HO.out.below hb3
  have HB3 : Hid (Below w.heap.size w w3) := HB2.out.trans (hb3.mono HB2.out.size)
  clear hP3 hb3 HO
  go_wp2_with fail
  refine Calls.mono (new_ok 0 (fun _ _ => 0) ia3 oa3 sa3 2 2 1 1 5 5 2 2 [2, 5] [0] smallE w3 (E 6) HP3.out (HE.out.below HB3.out).prog smallE_in (by decide) (by decide)) ?_
  rintro e V ⟨mb, Fd, ia', ic', oa', oc', sa', sc', rfl, hm, hb4⟩
  have HM : Hid _ := hm
  have HBV : Hid (Below w.heap.size w V) := HB3.out.trans (hb4.mono HB3.out.size)
  have hov := HO3.out.below hb4
  have hr0 := hov.row 0 (by decide)
  rw [smallE_run] at hr0
  have HR0 : Hid (Has8 V (qs 0) [4, 14] (cs 0)) := hr0
  have HK0 : Hid (∀ u, Below V.heap.size V u → u.cell? ⟨G, 0, none⟩ = some (.slice (some ⟨qs 0, 0, none⟩) 2 (cs 0))) := fun u hu => cellAt (heap_later hov.blk hu) 0 _ rfl
  have HCV : Hid (∀ u, Below V.heap.size V u → (convert 26 9 (.slice (some ⟨qs 0, 0, none⟩) 2 (cs 0))).run Tryd.prog u = .ok (.string { data := #[4, 14] }) u) := fun u hu => by
    have h9 := conv8 (la := 2) (ca := cs 0) (xs := [4, 14]) rfl (has8_U (has8_below HR0.out hu)).row8
    rwa [show str8 [4, 14] = { data := #[4, 14] } by decide +kernel] at h9
  have hcs : 2 ≤ cs 0 := by obtain ⟨cur, _, _, hl, _⟩ := hr0; exact hl
  clear hm hb4 hov hr0 HP3 HO3
  go_upto_region 3 with fail
  refine wp_region_noPanic ?_
  refine wp_region_held_drew (S := fun u => Below V.heap.size V u) (by kernel_rfl) ?_ (fun hHeld => ?_)
  · exact Below.drew (Below.refl _ V)
  obtain ⟨X0, hX0⟩ : ∃ X, X = V.drew := ⟨_, rfl⟩
  have B0 : Below V.heap.size V X0 := by rw [hX0]; exact Below.drew (Below.refl _ V)
  rw [← hX0] at hHeld ⊢
  clear hX0
  refine wpAnyH_take (i := 0) (oi := { dst := some 18, op := Op.move (Operand.tmp 2), type := 33, pos := "law.go:34", after := #[], guard := none }) (v := ?_) rfl (by kernel_rfl) (by kernel_rfl) (by kernel_rfl) (fun _ _ _ h => h) (Or.inl ⟨by rfl, ?_⟩) hHeld ?_
  rotate_left
  · intro u hSw
    go_simp
    try with_reducible rfl
  try simp only [Act.put, List.setIfInBounds_toArray, List.set_cons_zero, List.set_cons_succ]
  refine wpAnyH_take (i := 1) (oi := { dst := some 19, op := Op.binOp BinOp.eql 33 (Operand.tmp 18) (Operand.const Value.nilIface) 33, type := 4, pos := "law.go:34", after := #[{ on := 0, ground := Ground.data }], guard := none }) (v := ?_) rfl (by kernel_rfl) (by kernel_rfl) (by kernel_rfl) (fun _ _ _ h => h) (Or.inl ⟨by rfl, ?_⟩) hHeld ?_
  rotate_left
  · intro u hSw
    go_simp
    try with_reducible rfl
  try simp only [Act.put, List.setIfInBounds_toArray, List.set_cons_zero, List.set_cons_succ]
  refine wpAnyH_take (i := 2) (oi := { dst := some 20, op := Op.move (Operand.tmp 19), type := 4, pos := "law.go:34", after := #[{ on := 1, ground := Ground.data }], guard := none }) (v := ?_) rfl (by kernel_rfl) (by kernel_rfl) (by kernel_rfl) (fun _ _ _ h => h) (Or.inl ⟨by rfl, ?_⟩) hHeld ?_
  rotate_left
  · intro u hSw
    go_simp
    try with_reducible rfl
  try simp only [Act.put, List.setIfInBounds_toArray, List.set_cons_zero, List.set_cons_succ]
  refine wpAnyH_take (i := 3) (oi := { dst := some 21, op := Op.move (Operand.tmp 1), type := 29, pos := "law.go:34", after := #[{ on := 2, ground := Ground.guard }], guard := some (2, true) }) (v := ?_) rfl (by kernel_rfl) (by kernel_rfl) (by kernel_rfl) (fun _ _ _ h => h) (Or.inl ⟨by rfl, ?_⟩) hHeld ?_
  rotate_left
  · intro u hSw
    go_simp
    try with_reducible rfl
  try simp only [Act.put, List.setIfInBounds_toArray, List.set_cons_zero, List.set_cons_succ]
  refine wpAnyH_take (i := 4) (oi := { dst := some 22, op := Op.call { callee := Callee.builtin Builtin.len, args := #[Operand.tmp 21], argTypes := #[29] }, type := 3, pos := "law.go:34", after := #[{ on := 3, ground := Ground.data }, { on := 2, ground := Ground.guard }], guard := some (2, true) }) (v := ?_) rfl (by kernel_rfl) (by kernel_rfl) (by kernel_rfl) (fun _ _ _ h => h) (Or.inl ⟨by rfl, ?_⟩) hHeld ?_
  rotate_left
  · intro u hSw
    go_simp
    try with_reducible rfl
  try simp only [Act.put, List.setIfInBounds_toArray, List.set_cons_zero, List.set_cons_succ]
  refine wpAnyH_take (i := 5) (oi := { dst := some 23, op := Op.binOp BinOp.eql 3 (Operand.tmp 22) (Operand.const (Value.int IntKind.i64 1)) 3, type := 4, pos := "law.go:34", after := #[{ on := 4, ground := Ground.data }, { on := 2, ground := Ground.guard }], guard := some (2, true) }) (v := ?_) rfl (by kernel_rfl) (by kernel_rfl) (by kernel_rfl) (fun _ _ _ h => h) (Or.inl ⟨by rfl, ?_⟩) hHeld ?_
  rotate_left
  · intro u hSw
    go_simp
    try with_reducible rfl
  try simp only [Act.put, List.setIfInBounds_toArray, List.set_cons_zero, List.set_cons_succ]
  refine wpAnyH_take (i := 6) (oi := { dst := some 24, op := Op.pick (Operand.tmp 20) (Operand.tmp 23) (Operand.const (Value.bool false)), type := 4, pos := "law.go:34", after := #[{ on := 2, ground := Ground.data }, { on := 5, ground := Ground.data }], guard := none }) (v := ?_) rfl (by kernel_rfl) (by kernel_rfl) (by kernel_rfl) (fun _ _ _ h => h) (Or.inl ⟨by rfl, ?_⟩) hHeld ?_
  rotate_left
  · intro u hSw
    go_simp
    try with_reducible rfl
  try simp only [Act.put, List.setIfInBounds_toArray, List.set_cons_zero, List.set_cons_succ]
  refine wpAnyH_take (i := 7) (oi := { dst := some 25, op := Op.move (Operand.tmp 24), type := 4, pos := "law.go:34", after := #[{ on := 6, ground := Ground.data }, { on := 2, ground := Ground.chain }], guard := none }) (v := ?_) rfl (by kernel_rfl) (by kernel_rfl) (by kernel_rfl) (fun _ _ _ h => h) (Or.inl ⟨by rfl, ?_⟩) hHeld ?_
  rotate_left
  · intro u hSw
    go_simp
    try with_reducible rfl
  try simp only [Act.put, List.setIfInBounds_toArray, List.set_cons_zero, List.set_cons_succ]
  refine wpAnyH_take (i := 8) (oi := { dst := some 26, op := Op.move (Operand.tmp 1), type := 29, pos := "law.go:34", after := #[{ on := 7, ground := Ground.guard }], guard := some (7, true) }) (v := ?_) rfl (by kernel_rfl) (by kernel_rfl) (by kernel_rfl) (fun _ _ _ h => h) (Or.inl ⟨by rfl, ?_⟩) hHeld ?_
  rotate_left
  · intro u hSw
    go_simp
    try with_reducible rfl
  try simp only [Act.put, List.setIfInBounds_toArray, List.set_cons_zero, List.set_cons_succ]
  refine wpAnyH_take (i := 9) (oi := { dst := some 27, op := Op.indexAddr 29 (Operand.tmp 26) (Operand.const (Value.int IntKind.i64 0)), type := 0, pos := "law.go:34", after := #[{ on := 8, ground := Ground.data }, { on := 7, ground := Ground.guard }], guard := some (7, true) }) (v := ?_) rfl (by kernel_rfl) (by kernel_rfl) (by kernel_rfl) (fun _ _ _ h => h) (Or.inl ⟨by rfl, ?_⟩) hHeld ?_
  rotate_left
  · intro u hSw
    go_simp
    try with_reducible rfl
  try simp only [Act.put, List.setIfInBounds_toArray, List.set_cons_zero, List.set_cons_succ]
  refine wpAnyH_take (i := 10) (oi := { dst := some 28, op := Op.load 26 (Operand.tmp 27), type := 26, pos := "law.go:34", after := #[{ on := 9, ground := Ground.data }, { on := 7, ground := Ground.guard }], guard := some (7, true) }) (v := ?_) rfl (by kernel_rfl) (by kernel_rfl) (by kernel_rfl) (fun _ _ _ h => h) (Or.inl ⟨by rfl, ?_⟩) hHeld ?_
  rotate_left
  · intro u hSw
    have k9 := HK0.out u hSw
    go_simp
    try with_reducible rfl
  try simp only [Act.put, List.setIfInBounds_toArray, List.set_cons_zero, List.set_cons_succ]
  refine wpAnyH_take (i := 11) (oi := { dst := some 29, op := Op.convert 26 9 (Operand.tmp 28), type := 9, pos := "law.go:34", after := #[{ on := 10, ground := Ground.data }, { on := 7, ground := Ground.guard }], guard := some (7, true) }) (v := ?_) rfl (by kernel_rfl) (by kernel_rfl) (by kernel_rfl) (fun _ _ _ h => h) (Or.inl ⟨by rfl, ?_⟩) hHeld ?_
  rotate_left
  · intro u hSw
    have k9 := HCV.out u hSw
    go_simp
    try with_reducible rfl
  try simp only [Act.put, List.setIfInBounds_toArray, List.set_cons_zero, List.set_cons_succ]
  refine wpAnyH_ready (rs := [12]) (by kernel_rfl) (by simp) ?_
  refine (AllReadyH.cons (o := { dst := some 30, op := Op.buildSlice 26 2 #[(0, Operand.const (Value.int IntKind.u8 4)), (1, Operand.const (Value.int IntKind.u8 14))], type := 26, pos := "law.go:34", after := #[{ on := 7, ground := Ground.guard }], guard := some (7, true) }) rfl (fun K hK => ?_) AllReadyH.nil)
  obtain ⟨V1, hV1⟩ : ∃ V1, V1 = X0.alloc (.cells #[.int .u8 4, .int .u8 14] 5) := ⟨_, rfl⟩
  have hv1 : Below X0.heap.size X0 V1 := by rw [hV1]; exact (Below.refl _ _).alloc (Nat.le_refl _) _
  have B1 : Below V.heap.size V V1 := B0.trans (hv1.mono B0.size)
  have hl1 : V1.heap[X0.heap.size]? = some (.cells (vfs [4, 14]) 5 (0, 0)) := by rw [hV1]; exact heap_alloc_last _ _
  have hcv := conv8 (la := 2) (ca := 2) (xs := [4, 14]) rfl (row8_own hl1)
  rw [show str8 [4, 14] = { data := #[4, 14] } by decide +kernel] at hcv
  have HV1 : Hid (V1 = X0.alloc (.cells #[.int .u8 4, .int .u8 14] 5)) := hV1
  clear hV1 hl1 hv1
  go_simp
  rw [← HV1.out]
  refine hK.out _ _ ?_ (fun hHeld => ?_)
  · exact B1
  clear hK K
  try simp only [Act.put, List.setIfInBounds_toArray, List.set_cons_zero, List.set_cons_succ]
  refine wpAnyH_ready (rs := [13]) (by kernel_rfl) (by simp) ?_
  refine (AllReadyH.cons (o := { dst := some 31, op := Op.convert 26 9 (Operand.tmp 30), type := 9, pos := "law.go:34", after := #[{ on := 12, ground := Ground.data }, { on := 7, ground := Ground.guard }], guard := some (7, true) }) rfl (fun K hK => ?_) AllReadyH.nil)
  go_simp
  refine hK.out _ _ ?_ (fun hHeld => ?_)
  · exact B1
  clear hK K
  try simp only [Act.put, List.setIfInBounds_toArray, List.set_cons_zero, List.set_cons_succ]
  refine wpAnyH_take (i := 14) (oi := { dst := some 32, op := Op.binOp BinOp.eql 9 (Operand.tmp 29) (Operand.tmp 31) 9, type := 4, pos := "law.go:34", after := #[{ on := 11, ground := Ground.data }, { on := 13, ground := Ground.data }, { on := 7, ground := Ground.guard }], guard := some (7, true) }) (v := ?_) rfl (by kernel_rfl) (by kernel_rfl) (by kernel_rfl) (fun _ _ _ h => h) (Or.inl ⟨by rfl, ?_⟩) hHeld ?_
  rotate_left
  · intro u hSw
    have k9 : ((ByteArray.mk #[4, 14]).toList == (ByteArray.mk #[4, 14]).toList) = true := by decide +kernel
    go_simp
    try with_reducible rfl
  try simp only [Act.put, List.setIfInBounds_toArray, List.set_cons_zero, List.set_cons_succ]
  refine wpAnyH_take (i := 15) (oi := { dst := some 33, op := Op.pick (Operand.tmp 25) (Operand.tmp 32) (Operand.const (Value.bool false)), type := 4, pos := "law.go:34", after := #[{ on := 7, ground := Ground.data }, { on := 14, ground := Ground.data }], guard := none }) (v := ?_) rfl (by kernel_rfl) (by kernel_rfl) (by kernel_rfl) (fun _ _ _ h => h) (Or.inl ⟨by rfl, ?_⟩) hHeld ?_
  rotate_left
  · intro u hSw
    go_simp
    try with_reducible rfl
  try simp only [Act.put, List.setIfInBounds_toArray, List.set_cons_zero, List.set_cons_succ]
  refine wpAnyH_take (i := 16) (oi := { dst := some 34, op := Op.move (Operand.tmp 33), type := 4, pos := "law.go:34", after := #[{ on := 15, ground := Ground.data }, { on := 7, ground := Ground.chain }], guard := none }) (v := ?_) rfl (by kernel_rfl) (by kernel_rfl) (by kernel_rfl) (fun _ _ _ h => h) (Or.inl ⟨by rfl, ?_⟩) hHeld ?_
  rotate_left
  · intro u hSw
    go_simp
    try with_reducible rfl
  try simp only [Act.put, List.setIfInBounds_toArray, List.set_cons_zero, List.set_cons_succ]
  refine wpAnyH_take (i := 17) (oi := { dst := some 35, op := Op.move (Operand.tmp 4), type := 33, pos := "law.go:34", after := #[{ on := 16, ground := Ground.guard }], guard := some (16, true) }) (v := ?_) rfl (by kernel_rfl) (by kernel_rfl) (by kernel_rfl) (fun _ _ _ h => h) (Or.inl ⟨by rfl, ?_⟩) hHeld ?_
  rotate_left
  · intro u hSw
    go_simp
    try with_reducible rfl
  try simp only [Act.put, List.setIfInBounds_toArray, List.set_cons_zero, List.set_cons_succ]
  refine wpAnyH_take (i := 18) (oi := { dst := some 36, op := Op.binOp BinOp.eql 33 (Operand.tmp 35) (Operand.const Value.nilIface) 33, type := 4, pos := "law.go:34", after := #[{ on := 17, ground := Ground.data }, { on := 16, ground := Ground.guard }], guard := some (16, true) }) (v := ?_) rfl (by kernel_rfl) (by kernel_rfl) (by kernel_rfl) (fun _ _ _ h => h) (Or.inl ⟨by rfl, ?_⟩) hHeld ?_
  rotate_left
  · intro u hSw
    go_simp
    try with_reducible rfl
  try simp only [Act.put, List.setIfInBounds_toArray, List.set_cons_zero, List.set_cons_succ]
  refine wpAnyH_take (i := 19) (oi := { dst := some 37, op := Op.pick (Operand.tmp 34) (Operand.tmp 36) (Operand.const (Value.bool false)), type := 4, pos := "law.go:34", after := #[{ on := 16, ground := Ground.data }, { on := 18, ground := Ground.data }], guard := none }) (v := ?_) rfl (by kernel_rfl) (by kernel_rfl) (by kernel_rfl) (fun _ _ _ h => h) (Or.inl ⟨by rfl, ?_⟩) hHeld ?_
  rotate_left
  · intro u hSw
    go_simp
    try with_reducible rfl
  try simp only [Act.put, List.setIfInBounds_toArray, List.set_cons_zero, List.set_cons_succ]
  refine wpAnyH_take (i := 20) (oi := { dst := some 38, op := Op.move (Operand.tmp 37), type := 4, pos := "law.go:34", after := #[{ on := 19, ground := Ground.data }, { on := 16, ground := Ground.chain }], guard := none }) (v := ?_) rfl (by kernel_rfl) (by kernel_rfl) (by kernel_rfl) (fun _ _ _ h => h) (Or.inl ⟨by rfl, ?_⟩) hHeld ?_
  rotate_left
  · intro u hSw
    go_simp
    try with_reducible rfl
  try simp only [Act.put, List.setIfInBounds_toArray, List.set_cons_zero, List.set_cons_succ]
  refine wpAnyH_take (i := 21) (oi := { dst := some 39, op := Op.move (Operand.tmp 3), type := 31, pos := "law.go:34", after := #[{ on := 20, ground := Ground.guard }], guard := some (20, true) }) (v := ?_) rfl (by kernel_rfl) (by kernel_rfl) (by kernel_rfl) (fun _ _ _ h => h) (Or.inl ⟨by rfl, ?_⟩) hHeld ?_
  rotate_left
  · intro u hSw
    go_simp
    try with_reducible rfl
  try simp only [Act.put, List.setIfInBounds_toArray, List.set_cons_zero, List.set_cons_succ]
  refine wpAnyH_take (i := 22) (oi := { dst := some 40, op := Op.binOp BinOp.neq 31 (Operand.tmp 39) (Operand.const (Value.pointer none)) 31, type := 4, pos := "law.go:34", after := #[{ on := 21, ground := Ground.data }, { on := 20, ground := Ground.guard }], guard := some (20, true) }) (v := ?_) rfl (by kernel_rfl) (by kernel_rfl) (by kernel_rfl) (fun _ _ _ h => h) (Or.inl ⟨by rfl, ?_⟩) hHeld ?_
  rotate_left
  · intro u hSw
    go_simp
    try with_reducible rfl
  try simp only [Act.put, List.setIfInBounds_toArray, List.set_cons_zero, List.set_cons_succ]
  refine wpAnyH_take (i := 23) (oi := { dst := some 41, op := Op.pick (Operand.tmp 38) (Operand.tmp 40) (Operand.const (Value.bool false)), type := 4, pos := "law.go:34", after := #[{ on := 20, ground := Ground.data }, { on := 22, ground := Ground.data }], guard := none }) (v := ?_) rfl (by kernel_rfl) (by kernel_rfl) (by kernel_rfl) (fun _ _ _ h => h) (Or.inl ⟨by rfl, ?_⟩) hHeld ?_
  rotate_left
  · intro u hSw
    go_simp
    try with_reducible rfl
  try simp only [Act.put, List.setIfInBounds_toArray, List.set_cons_zero, List.set_cons_succ]
  refine wpAnyH_take (i := 24) (oi := { dst := some 42, op := Op.move (Operand.tmp 41), type := 4, pos := "law.go:34", after := #[{ on := 23, ground := Ground.data }, { on := 20, ground := Ground.chain }], guard := none }) (v := ?_) rfl (by kernel_rfl) (by kernel_rfl) (by kernel_rfl) (fun _ _ _ h => h) (Or.inl ⟨by rfl, ?_⟩) hHeld ?_
  rotate_left
  · intro u hSw
    go_simp
    try with_reducible rfl
  try simp only [Act.put, List.setIfInBounds_toArray, List.set_cons_zero, List.set_cons_succ]
  refine wpAnyH_take (i := 25) (oi := { dst := some 43, op := Op.move (Operand.tmp 3), type := 31, pos := "law.go:34", after := #[{ on := 24, ground := Ground.guard }], guard := some (24, true) }) (v := ?_) rfl (by kernel_rfl) (by kernel_rfl) (by kernel_rfl) (fun _ _ _ h => h) (Or.inl ⟨by rfl, ?_⟩) hHeld ?_
  rotate_left
  · intro u hSw
    go_simp
    try with_reducible rfl
  try simp only [Act.put, List.setIfInBounds_toArray, List.set_cons_zero, List.set_cons_succ]
  refine wpAnyH_ready (rs := [26]) (by kernel_rfl) (by simp) ?_
  refine (AllReadyH.cons (o := { dst := some 44, op := Op.call { callee := Callee.value (Operand.func 11), args := #[Operand.tmp 43], argTypes := #[31] }, type := 22, pos := "law.go:34", after := #[{ on := 25, ground := Ground.data }, { on := 24, ground := Ground.chain }, { on := 24, ground := Ground.guard }], guard := some (24, true) }) rfl (fun K hK => ?_) AllReadyH.nil)
  go_simp
  refine Calls.mono (wants_F (HM.out.below B1)) ?_
  rintro e V2 ⟨v, n, rfl, hn, ho, hv2⟩
  obtain rfl : n = 2 := hn
  obtain ⟨a9, c9, rfl⟩ := own_shape ho
  have B2 : Below V.heap.size V V2 := B1.trans (hv2.mono B1.size)
  clear ho
  go_wp2_with fail
  refine hK.out _ _ ?_ (fun hHeld => ?_)
  · exact B2
  clear hK K
  try simp only [Act.put, List.setIfInBounds_toArray, List.set_cons_zero, List.set_cons_succ]
  refine wpAnyH_take (i := 27) (oi := { dst := some 45, op := Op.call { callee := Callee.builtin Builtin.len, args := #[Operand.tmp 44], argTypes := #[22] }, type := 3, pos := "law.go:34", after := #[{ on := 26, ground := Ground.data }, { on := 24, ground := Ground.guard }], guard := some (24, true) }) (v := ?_) rfl (by kernel_rfl) (by kernel_rfl) (by kernel_rfl) (fun _ _ _ h => h) (Or.inl ⟨by rfl, ?_⟩) hHeld ?_
  rotate_left
  · intro u hSw
    go_simp
    try with_reducible rfl
  try simp only [Act.put, List.setIfInBounds_toArray, List.set_cons_zero, List.set_cons_succ]
  refine wpAnyH_take (i := 28) (oi := { dst := some 46, op := Op.binOp BinOp.eql 3 (Operand.tmp 45) (Operand.const (Value.int IntKind.i64 2)) 3, type := 4, pos := "law.go:34", after := #[{ on := 27, ground := Ground.data }, { on := 24, ground := Ground.guard }], guard := some (24, true) }) (v := ?_) rfl (by kernel_rfl) (by kernel_rfl) (by kernel_rfl) (fun _ _ _ h => h) (Or.inl ⟨by rfl, ?_⟩) hHeld ?_
  rotate_left
  · intro u hSw
    go_simp
    try with_reducible rfl
  try simp only [Act.put, List.setIfInBounds_toArray, List.set_cons_zero, List.set_cons_succ]
  refine wpAnyH_take (i := 29) (oi := { dst := some 47, op := Op.pick (Operand.tmp 42) (Operand.tmp 46) (Operand.const (Value.bool false)), type := 4, pos := "law.go:34", after := #[{ on := 24, ground := Ground.data }, { on := 28, ground := Ground.data }], guard := none }) (v := ?_) rfl (by kernel_rfl) (by kernel_rfl) (by kernel_rfl) (fun _ _ _ h => h) (Or.inl ⟨by rfl, ?_⟩) hHeld ?_
  rotate_left
  · intro u hSw
    go_simp
    try with_reducible rfl
  try simp only [Act.put, List.setIfInBounds_toArray, List.set_cons_zero, List.set_cons_succ]
  refine wpAnyH_take (i := 30) (oi := { dst := some 0, op := Op.assign (Operand.tmp 47), type := 4, pos := "law.go:34", after := #[{ on := 29, ground := Ground.data }, { on := 26, ground := Ground.chain }, { on := 0, ground := Ground.phase }, { on := 1, ground := Ground.phase }, { on := 2, ground := Ground.phase }, { on := 3, ground := Ground.phase }, { on := 4, ground := Ground.phase }, { on := 5, ground := Ground.phase }, { on := 6, ground := Ground.phase }, { on := 7, ground := Ground.phase }, { on := 8, ground := Ground.phase }, { on := 9, ground := Ground.phase }, { on := 10, ground := Ground.phase }, { on := 11, ground := Ground.phase }, { on := 12, ground := Ground.phase }, { on := 13, ground := Ground.phase }, { on := 14, ground := Ground.phase }, { on := 15, ground := Ground.phase }, { on := 16, ground := Ground.phase }, { on := 17, ground := Ground.phase }, { on := 18, ground := Ground.phase }, { on := 19, ground := Ground.phase }, { on := 20, ground := Ground.phase }, { on := 21, ground := Ground.phase }, { on := 22, ground := Ground.phase }, { on := 23, ground := Ground.phase }, { on := 24, ground := Ground.phase }, { on := 25, ground := Ground.phase }, { on := 26, ground := Ground.phase }, { on := 27, ground := Ground.phase }, { on := 28, ground := Ground.phase }, { on := 29, ground := Ground.phase }], guard := none }) (v := ?_) rfl (by kernel_rfl) (by kernel_rfl) (by kernel_rfl) (fun _ _ _ h => h) (Or.inl ⟨by rfl, ?_⟩) hHeld ?_
  rotate_left
  · intro u hSw
    go_simp
    try with_reducible rfl
  try simp only [Act.put, List.setIfInBounds_toArray, List.set_cons_zero, List.set_cons_succ]
  refine wpAnyH_done (by kernel_rfl) ?_ _
  refine NoPanic.normal ?_
  have HBF : Hid (Below w.heap.size w V2) := HBV.out.trans (B2.mono HBV.out.size)
  clear B2 B1 B0
  go_wp2
  go_ret
  exact ⟨rfl, HBF.out⟩
end Go.Proofs.YtoalbopcapgojabDoor

/- The errors that the rows of stage 10 list. -/
namespace Go.Proofs.YtoalbopcapgojabDoor
open Go.RowKit Gf
set_option linter.unusedVariables false
set_option maxRecDepth 20000
def gsX : List Nat := [1, 3, 5, 2, 4, 0]
def ofX (es : List Addr) (n : Nat) : Addr := es.getD (if n = 3 then 0 else if n = 4 then 1 else if n = 6 then 2 else if n = 7 then 3 else if n = 8 then 4 else 5) ⟨0, 0, none⟩
theorem errsX_of {w : World} {es : List Addr} (h : ErrsAt w gsX es) : ErrsX w (ofX es) := by
  have hl : es.length = 6 := h.1.symm
  match es, hl with
  | [a, b, c, d, e, f], _ => exact ⟨(h.2.2 0 _ a rfl rfl).1, (h.2.2 1 _ b rfl rfl).1, (h.2.2 2 _ c rfl rfl).1, (h.2.2 3 _ d rfl rfl).1, (h.2.2 4 _ e rfl rfl).1, (h.2.2 5 _ f rfl rfl).1⟩
end Go.Proofs.YtoalbopcapgojabDoor

/- The statements' own way to fill inputs out of bytes. -/
namespace Go.Proofs.YtoalbopcapgojabDoor
open Go.RowKit Gf
set_option linter.unusedVariables false
set_option maxRecDepth 20000
set_option linter.unusedSimpArgs false
/-- byte j of filled list i -/
def filF (h : Nat) (xs : List F) (i j : Nat) : F := if xs.length = 0 then 0 else at8 xs ((i * h + j) % xs.length)
def filL (n h : Nat) (xs : List F) : List (List F) := (List.range n).map fun i => rowF h (filF h xs i)
theorem filL_len (n h : Nat) (xs : List F) : (filL n h xs).length = n := by simp [filL]
theorem filL_at {n h i : Nat} {xs : List F} (hi : i < n) : (filL n h xs)[i]? = some (rowF h (filF h xs i)) := by simp [filL, hi]
/-- lists of bytes in blocks of their own behind a list of one's own -/
structure FilW (w : World) (B : Nat) (v : Value) (n h : Nat) (qs : Nat → Nat) (f : Nat → Nat → F) : Prop where
  own : w.ownsRow B 26 1 v n ((List.range n).map fun i => .slice (some ⟨qs i, 0, none⟩) h h)
  row : ∀ i, i < n → w.heap[qs i]? = some (.cells (vfs (rowF h (f i))) 5 (0, 0))
  low : ∀ i, i < n → B ≤ qs i
  rise : ∀ i j, i < j → j < n → qs i < qs j
theorem FilW.below {w w' : World} {B n h : Nat} {v : Value} {qs : Nat → Nat} {f : Nat → Nat → F} (hf : FilW w B v n h qs f) (hb : Below w.heap.size w w') : FilW w' B v n h qs f :=
  { hf with own := own_below hf.own hb, row := fun i hi => heap_later (hf.row i hi) hb }
theorem FilW.grown {w w' : World} {B n h q : Nat} {v : Value} {qs : Nat → Nat} {f : Nat → Nat → F} {cs : Array Value} {fr : Nat × Nat} (hf : FilW w B v n h qs f) (hk : w.heap[q]? = some (.cells cs 5 fr)) (hg : w.grownBy w' (some q)) (hq : ∀ i, i < n → qs i ≠ q) : FilW w' B v n h qs f :=
  { hf with own := own_kind hf.own hk (by decide) hg, row := fun i hi => (hg.block (qs i) (ltHeap (hf.row i hi)) (fun e => hq i hi (Option.some.inj e))).trans (hf.row i hi) }
theorem FilW.slice {w : World} {B n h : Nat} {v : Value} {qs : Nat → Nat} {f : Nat → Nat → F} (hf : FilW w B v n h qs f) : ∃ a c, v = .slice a n c := own_shape hf.own
theorem FilW.rows {w : World} {B n h c : Nat} {a : Option Addr} {qs : Nat → Nat} {f : Nat → Nat → F} (hf : FilW w B (.slice a n c) n h qs f) : Rows8 w a ((List.range n).map fun i => rowF h (f i)) := by
  rcases hf.own.2 with ⟨e, h0⟩ | ⟨g, cap, cur, e, hB, hg, hle, h5, h6, h7⟩
  · subst h0
    exact .inl rfl
  · cases e
    refine .inr ⟨g, 0, rfl, fun j xs hj => ?_⟩
    have hjn : j < n := by
      have := (List.getElem?_eq_some_iff.1 hj).1
      simpa using this
    rw [List.getElem?_map, List.getElem?_range hjn, Option.map_some] at hj
    obtain rfl := Option.some.inj hj
    refine ⟨some ⟨qs j, 0, none⟩, h, ?_, row8_own (hf.row j hjn)⟩
    rw [rowF_len, Nat.zero_add]
    have h8 : cur[j]? = some (.slice (some ⟨qs j, 0, none⟩) h h) := by
      have h9 : (cur.toList.take (n * 1))[j]? = some (.slice (some ⟨qs j, 0, none⟩) h h) := by
        rw [h7, List.getElem?_map, List.getElem?_range hjn]; rfl
      rw [List.getElem?_take, if_pos (by omega)] at h9
      simpa using h9
    exact cellAt hg j _ h8
theorem FilW.cell {w : World} {B n h c i : Nat} {a : Option Addr} {qs : Nat → Nat} {f : Nat → Nat → F} (hf : FilW w B (.slice a n c) n h qs f) (hi : i < n) : ∃ g cs, a = some ⟨g, 0, none⟩ ∧ w.heap[g]? = some (.cells cs 26 (0, 0)) ∧ cs[i]? = some (.slice (some ⟨qs i, 0, none⟩) h h) ∧ B ≤ g := by
  rcases hf.own.2 with ⟨e, h0⟩ | ⟨g, cap, cur, e, hB, hg, hle, h5, h6, h7⟩
  · omega
  · cases e
    have h9 : (cur.toList.take (n * 1))[i]? = some (.slice (some ⟨qs i, 0, none⟩) h h) := by
      rw [h7, List.getElem?_map, List.getElem?_range hi]; rfl
    rw [List.getElem?_take, if_pos (by omega)] at h9
    exact ⟨g, cur, rfl, hg, by simpa using h9, hB⟩
theorem FilW.poke {w w' : World} {B n h k : Nat} {v : Value} {qs : Nat → Nat} {f f' : Nat → Nat → F} (hf : FilW w B v n h qs f) (hk : k < n) (hg : w.grownBy w' (some (qs k))) (hr : w'.heap[qs k]? = some (.cells (vfs (rowF h (f' k))) 5 (0, 0))) (he : ∀ i, i < n → i ≠ k → f' i = f i) : FilW w' B v n h qs f' := by
  refine { hf with own := own_kind hf.own (hf.row k hk) (by decide) hg, row := fun i hi => ?_ }
  by_cases e : i = k
  · subst e; exact hr
  · rw [he i hi e]
    refine (hg.block (qs i) (ltHeap (hf.row i hi)) (fun e2 => ?_)).trans (hf.row i hi)
    have e3 := Option.some.inj e2
    rcases Nat.lt_or_gt_of_ne e with h1 | h1
    · have := hf.rise i k h1 hk; omega
    · have := hf.rise k i h1 hi; omega
theorem FilW.congr {w : World} {B n h : Nat} {v : Value} {qs : Nat → Nat} {f f' : Nat → Nat → F} (hf : FilW w B v n h qs f) (he : ∀ i, i < n → f' i = f i) : FilW w B v n h qs f' :=
  { hf with row := fun i hi => by rw [he i hi]; exact hf.row i hi }
theorem FilW.next {X Y : World} {B n h q g c : Nat} {v : Value} {qs : Nat → Nat} {f : Nat → Nat → F} (hf : FilW X B v n h qs f) (hlt : ∀ i, i < n → qs i < q) (hqB : B ≤ q) (hr : X.heap[q]? = some (.cells (vfs (rowF h (f n))) 5 (0, 0))) (hg : X.grownBy Y v.ownBlock)
    (ho : Y.ownsRow B 26 1 (.slice (some ⟨g, 0, none⟩) (n + 1) c) (n + 1) (((List.range n).map fun i => .slice (some ⟨qs i, 0, none⟩) h h) ++ [.slice (some ⟨q, 0, none⟩) h h])) : FilW Y B (.slice (some ⟨g, 0, none⟩) (n + 1) c) (n + 1) h (fun i => if i = n then q else qs i) f := by
  have hox := hf.own
  refine ⟨?_, fun i hi => ?_, fun i hi => ?_, fun i j hij hj => ?_⟩
  · have e : ((List.range (n + 1)).map fun i => Value.slice (some ⟨if i = n then q else qs i, 0, none⟩) h h) = ((List.range n).map fun i => Value.slice (some ⟨qs i, 0, none⟩) h h) ++ [.slice (some ⟨q, 0, none⟩) h h] := by
      rw [List.range_succ, List.map_append]
      congr 1
      · apply List.map_congr_left
        intro i hi
        have := List.mem_range.1 hi
        rw [if_neg (by omega)]
      · simp
    rw [e]; exact ho
  · by_cases e : i = n
    · subst e; simp only [if_true]; exact own_other hox hg hr (by decide)
    · simp only [e, if_false]; exact own_other hox hg (hf.row i (by omega)) (by decide)
  · by_cases e : i = n
    · simp only [e, if_true]; exact hqB
    · simp only [e, if_false]; exact hf.low i (by omega)
  · have hin : i ≠ n := by omega
    simp only [hin, if_false]
    by_cases e : j = n
    · simp only [e, if_true]; exact hlt i (by omega)
    · simp only [e, if_false]; exact hf.rise i j hij (by omega)
set_option maxRecDepth 100000 in
set_option maxHeartbeats 8000000 in
theorem filled_F (n h lb cb : Nat) (ba : Option Addr) (xs : List F) (w : World) (hn : n ≤ 64) (hh : h ≤ 64) (hlb : lb = xs.length) (hl9 : lb ≤ 140737488355328) (hX : Row8 w ba xs) :
    Calls Tryd.prog 8 #[.int .i64 n, .int .i64 h, .slice ba lb cb] w fun e w' => ∃ v qs, e = .returned v ∧ FilW w' w.heap.size v n h qs (filF h xs) ∧ Below w.heap.size w w' := by
  have HX : Hid (Row8 w ba xs) := hX
  have HLB : Hid (lb = xs.length) := hlb
  have hb0 : Below w.heap.size w (w.alloc (.cells #[] 26)) := (Below.refl _ _).alloc (Nat.le_refl _) _
  have HB0 : Hid _ := hb0
  have HF0 : Hid (FilW (w.alloc (.cells #[] 26)) w.heap.size (.slice (some ⟨w.heap.size, 0, none⟩) 0 0) 0 h (fun _ => 0) (filF h xs)) :=
    ⟨own_empty (heap_alloc_last _ _) (Nat.le_refl _), fun i hi => absurd hi (Nat.not_lt_zero _), fun i hi => absurd hi (Nat.not_lt_zero _), fun i j _ hj => absurd hj (Nat.not_lt_zero _)⟩
  clear hX hlb hb0
  go_enter Tryd.func8, Tryd.ntmps8
  go_wp2
  go_loopw [8, 7] (fun i v wr => ∃ (k : Nat) (qs : Nat → Nat), k ≤ n ∧ i = .int .i64 k ∧ FilW wr w.heap.size v k h qs (filF h xs) ∧ Below w.heap.size w wr) (fun i _ _ => n - (intOf i).toNat)
  case atStart => exact ⟨0, _, Nat.zero_le _, rfl, HF0.out, HB0.out⟩
  case round =>
    obtain ⟨k, qs, hk, rfl, hf, hb⟩ := hrel
    have HF : Hid _ := hf
    have HB : Hid (Below w.heap.size w wr) := hb
    obtain ⟨av, cv, rfl⟩ := hf.slice
    clear hf hb HF0 HB0
    by_cases hlt : k < n
    · have mk3 := fun u : World => run_make8 h (by omega) u
      generalize wr = wo at *
      obtain ⟨q, hq⟩ : ∃ q, q = wo.heap.size := ⟨_, rfl⟩
      obtain ⟨W, hW⟩ : ∃ W, W = wo.alloc (.cells (vfs (zeros h)) 5) := ⟨_, rfl⟩
      have hbW : Below wo.heap.size wo W := by rw [hW]; exact (Below.refl _ _).alloc (Nat.le_refl _) _
      have HQE : Hid (q = wo.heap.size) := hq
      have HBW : Hid (Below wo.heap.size wo W) := hbW
      have HR0' : Hid (W.heap[q]? = some (.cells (vfs (zeros h)) 5 (0, 0))) := by show _ = _; rw [hW, hq]; exact heap_alloc_last _ _
      have HR0 : Hid (W.heap[q]? = some (.cells (vfs (rowF h (fun t => if t < 0 then filF h xs k t else 0))) 5 (0, 0))) := by
        show _ = _
        simp only [Nat.not_lt_zero, if_false]
        rw [← zeros_rowF, hW, hq]; exact heap_alloc_last _ _
      have HWE : Hid (W = wo.alloc (.cells (vfs (zeros h)) 5)) := hW
      clear hq hW hbW
      go_upto_region 6 with fail
      rw [← HWE.out, ← HQE.out]
      clear HWE mk3
      go_wp2
      go_loopw [21] (fun i wr => ∃ j : Nat, j ≤ h ∧ i = .int .i64 j ∧ W.grownBy wr (some q) ∧ wr.heap[q]? = some (.cells (vfs (rowF h (fun t => if t < j then filF h xs k t else 0))) 5 (0, 0))) (fun i _ => h - (intOf i).toNat)
      case atStart => exact ⟨0, Nat.zero_le _, rfl, World.grownBy.refl _ _, HR0.out⟩
      case round =>
        obtain ⟨j, hj, rfl, hg, hr⟩ := hrel
        have HG : Hid (W.grownBy wr (some q)) := hg
        have HR : Hid (wr.heap[q]? = some (.cells (vfs (rowF h (fun t => if t < j then filF h xs k t else 0))) 5 (0, 0))) := hr
        clear hg hr HR0
        by_cases hlj : j < h
        · by_cases h0 : lb = 0
          · have hx0 : xs.length = 0 := by rw [← HLB.out]; exact h0
            have HRN : Hid (wr.heap[q]? = some (.cells (vfs (rowF h (fun t => if t < j + 1 then filF h xs k t else 0))) 5 (0, 0))) := by
              show _ = _
              rw [HR.out]
              congr 3
              refine rowF_congr fun t _ => ?_
              simp only [filF, hx0, if_true]
              simp
            clear hx0
            subst h0
            go_wp2
            exact ⟨⟨j + 1, by omega, by go_num, HG.out, HRN.out⟩, by simp [intOf]; omega⟩
          · have hlb0 : 0 < xs.length := by rw [← HLB.out]; omega
            obtain ⟨p, hp⟩ : ∃ p, p = (k * h + j) % lb := ⟨_, rfl⟩
            have hpl : p < lb := by rw [hp]; exact Nat.mod_lt _ (by omega)
            have hkh : k * h ≤ 4096 := Nat.le_trans (Nat.mul_le_mul (show k ≤ 64 by omega) hh) (by decide)
            have hww : Below w.heap.size w wr := below_grownF (HB.out.trans (HBW.out.mono HB.out.size)) HG.out (by rw [HQE.out]; exact HB.out.size) (Nat.le_trans HB.out.size HBW.out.size)
            obtain ⟨rb, ro, rfl, _, hc⟩ := row8_get (row8_below HX.out hww) hlb0
            have c1 := hc p (by rw [← HLB.out]; exact hpl)
            have HPE : Hid (at8 xs p = filF h xs k j) := by
              show _ = _
              rw [filF, if_neg (by omega), hp, HLB.out]
            have hmul : IntKind.i64.wrap ((k : Int) * (h : Int)) = ((k * h : Nat) : Int) := by
              rw [show (k : Int) * (h : Int) = ((k * h : Nat) : Int) by simp, IntKind.wrap_i64]; omega
            have hadd : IntKind.i64.wrap (((k * h : Nat) : Int) + (j : Int)) = ((k * h + j : Nat) : Int) := by
              rw [show ((k * h : Nat) : Int) + (j : Int) = ((k * h + j : Nat) : Int) by simp, IntKind.wrap_i64]; omega
            have hrem : (((k * h + j : Nat) : Int)).tmod (lb : Int) = (p : Int) := by
              rw [hp, Int.tmod_eq_emod_of_nonneg (by omega)]; simp
            have k1 := cellAt HR.out j _ (vfs_get _ j (by rw [rowF_len]; exact hlj))
            have f1 : wr.frozen? ⟨q, j, none⟩ = false := frozen_of_row _ _ _ _ _ HR.out
            have hne : ¬ lb = 0 := h0
            have HGN : Hid (W.grownBy (wr.setCell ⟨q, j, none⟩ (.int .u8 ((at8 xs p).toNat : Int))) (some q)) := grownBy_setCell HG.out _
            have HRN : Hid ((wr.setCell ⟨q, j, none⟩ (.int .u8 ((at8 xs p).toNat : Int))).heap[q]? = some (.cells (vfs (rowF h (fun t => if t < j + 1 then filF h xs k t else 0))) 5 (0, 0))) := by
              show _ = _
              rw [heap_setCell_same _ _ _ _ _ _ HR.out]
              congr 2
              have e9 := vfs_set (rowF h (fun t => if t < j then filF h xs k t else 0)) j (at8 xs p)
              rw [show (Value.int .u8 ((at8 xs p).toNat : Int)) = vf (at8 xs p) from rfl] 
              refine (show (vfs _).setIfInBounds j (vf (at8 xs p)) = _ from e9).trans ?_
              rw [rowF_set]
              congr 1
              refine rowF_congr fun t _ => ?_
              by_cases e : t = j
              · subst e; rw [if_pos rfl, if_pos (by omega), HPE.out]
              · rw [if_neg e]
                by_cases e2 : t < j
                · rw [if_pos e2, if_pos (by omega)]
                · rw [if_neg e2, if_neg (by omega)]
            have hplI : (p : Int) < (lb : Int) := by omega
            have hdec : decide (0 < lb) = true := decide_eq_true (by omega)
            have hr1 : ((k : Int) * (h : Int) + (j : Int)) % (lb : Int) = (p : Int) := by rw [hp]; simp
            have hr2 : (k * h + j) % lb = p := hp.symm
            clear hc hww hp h0 hlb0 hrem
            go_wp2
            exact ⟨⟨j + 1, by omega, by go_num, HGN.out, HRN.out⟩, by simp [intOf]; omega⟩
        · obtain rfl : h = j := by omega
          have hrow : wr.heap[q]? = some (.cells (vfs (rowF h (filF h xs k))) 5 (0, 0)) := by
            rw [HR.out, rowF_congr (g := filF h xs k) fun t ht => if_pos ht]
          have hW : W.heap[q]? = some (.cells (vfs (zeros h)) 5 (0, 0)) := by
            have := HR0'.out
            exact this
          have hqs : ∀ i, i < k → qs i ≠ q := fun i hi => by have := ltHeap (HF.out.row i hi); rw [HQE.out]; omega
          have hfW := (HF.out.below HBW.out).grown hW HG.out hqs
          have hbr : Below w.heap.size w wr := below_grownF (HB.out.trans (HBW.out.mono HB.out.size)) HG.out (by rw [HQE.out]; exact HB.out.size) (Nat.le_trans HB.out.size HBW.out.size)
          have hba : Below wr.heap.size wr (wr.alloc (.cells #[.slice (some ⟨q, 0, none⟩) h h] 26)) := (Below.refl _ _).alloc (Nat.le_refl _) _
          obtain ⟨g, cap, w6, hrun, ho6, hgr, _⟩ := appendS (c := 1) 29 (own_below hfW.own hba) (cellAt (heap_alloc_last wr _) 0 _ rfl) rfl (by omega) (Nat.le_trans hbr.size hba.size)
          have HRun : Hid _ := hrun
          have HB6 : Hid (Below w.heap.size w w6) := below_own (hbr.trans (hba.mono hbr.size)) (own_below hfW.own hba) hgr (Nat.le_trans hbr.size hba.size)
          have HF6 : Hid (FilW w6 w.heap.size (.slice (some ⟨g, 0, none⟩) (k + 1) cap) (k + 1) h (fun i => if i = k then q else qs i) (filF h xs)) := by
            have hfX := hfW.below hba
            exact hfX.next (fun i hi => by have := ltHeap (HF.out.row i hi); rw [HQE.out]; omega) (by rw [HQE.out]; exact HB.out.size) (heap_later hrow hba) hgr ho6
          clear hrow hW hqs hfW hbr hba hrun ho6 hgr
          go_wp2_with (at_builtin; refine wpList_append_run rfl _ _ 29 rfl _ _ _ _ rfl rfl HRun.out ?_)
          exact ⟨⟨k + 1, _, by omega, by go_num, HF6.out, HB6.out⟩, by simp [intOf]; omega⟩
    · obtain rfl : n = k := by omega
      go_wp2
      go_ret
      exact ⟨_, qs, rfl, HF.out, HB.out⟩
end Go.Proofs.YtoalbopcapgojabDoor

/- Two machines side by side: what stays while they turn. -/
namespace Go.Proofs.YtoalbopcapgojabDoor
open Go.RowKit Gf
set_option linter.unusedVariables false
set_option maxRecDepth 20000
set_option linter.unusedSimpArgs false
/-- all blocks stay but some between lo and hi -/
structure Kp (lo hi : Nat) (W Z : World) : Prop where
  os : Z.os = W.os
  tape : Z.tape = W.tape
  output : Z.output = W.output
  size : W.heap.size ≤ Z.heap.size
  block : ∀ k, k < W.heap.size → (k < lo ∨ hi ≤ k) → Z.heap[k]? = W.heap[k]?
theorem Kp.refl (lo hi : Nat) (W : World) : Kp lo hi W W := ⟨rfl, rfl, rfl, Nat.le_refl _, fun _ _ _ => rfl⟩
theorem Kp.trans {lo hi : Nat} {W Y Z : World} (h : Kp lo hi W Y) (hg : Kp lo hi Y Z) : Kp lo hi W Z :=
  ⟨hg.os.trans h.os, hg.tape.trans h.tape, hg.output.trans h.output, Nat.le_trans h.size hg.size, fun k hk hk2 => (hg.block k (Nat.lt_of_lt_of_le hk h.size) hk2).trans (h.block k hk hk2)⟩
theorem Kp.grown {lo hi r : Nat} {W Y Z : World} (h : Kp lo hi W Y) (hg : Y.grownBy Z (some r)) (hr : lo ≤ r ∧ r < hi) : Kp lo hi W Z :=
  ⟨hg.os.trans h.os, hg.tape.trans h.tape, hg.output.trans h.output, Nat.le_trans h.size hg.size, fun k hk hk2 => (hg.block k (Nat.lt_of_lt_of_le hk h.size) (fun e => by have := Option.some.inj e; omega)).trans (h.block k hk hk2)⟩
theorem Kp.below {lo hi : Nat} {W Y Z : World} (h : Kp lo hi W Y) (hb : Below Y.heap.size Y Z) : Kp lo hi W Z :=
  ⟨hb.os.trans h.os, hb.tape.trans h.tape, hb.output.trans h.output, Nat.le_trans h.size hb.size, fun k hk hk2 => (hb.block k (Nat.lt_of_lt_of_le hk h.size)).trans (h.block k hk hk2)⟩
theorem Kp.heap {lo hi k : Nat} {o : Obj} {W Z : World} (h : Kp lo hi W Z) (ho : W.heap[k]? = some o) (hk : k < lo ∨ hi ≤ k) : Z.heap[k]? = some o := by
  have hl : k < W.heap.size := by
    by_cases hb : k < W.heap.size
    · exact hb
    · rw [Array.getElem?_eq_none (by omega)] at ho; cases ho
  exact (h.block k hl hk).trans ho
theorem Kp.low {B lo hi : Nat} {w W Z : World} (h : Kp lo hi W Z) (hb : Below B w W) (hB : B ≤ lo) (hBW : B ≤ W.heap.size) : Below B w Z :=
  hb.trans ⟨h.os, h.tape, h.output, h.size, fun k hk => h.block k (by omega) (.inl (by omega))⟩
theorem Kp.has8 {lo hi g c : Nat} {xs : List F} {W Z : World} (h : Kp lo hi W Z) (h8 : Has8 W g xs c) (hk : g < lo ∨ hi ≤ g) : Has8 Z g xs c := by
  obtain ⟨cur, h1, h2⟩ := h8
  exact ⟨cur, h.heap h1 hk, h2⟩
theorem Kp.filW {lo hi B n hh : Nat} {v : Value} {qs : Nat → Nat} {f : Nat → Nat → F} {V0 W Z : World} (h : Kp lo hi W Z) (hf : FilW V0 B v n hh qs f) (hb : Below V0.heap.size V0 W) (hlo : V0.heap.size ≤ lo) : FilW Z B v n hh qs f :=
  { hf with own := ⟨hf.own.1, hf.own.2.imp id fun ⟨g, cap, cur, h1, h2, h3, h4⟩ => ⟨g, cap, cur, h1, h2, h.heap (heap_later h3 hb) (.inl (by have := ltHeap h3; omega)), h4⟩⟩, row := fun i hi9 => h.heap (heap_later (hf.row i hi9) hb) (.inl (by have := ltHeap (hf.row i hi9); omega)) }
theorem Kp.outL {lo hi G ol h k : Nat} {qs cs : Nat → Nat} {X : Int → Nat → F} {ss : List Stp} {W Z : World} (hk : Kp lo hi W Z) (ho : OutL W G ol h qs cs X ss k) (hG : hi ≤ G) : OutL Z G ol h qs cs X ss k :=
  { ho with blk := hk.heap ho.blk (.inr hG), row := fun d hd => hk.has8 (ho.row d hd) (.inr (by have := ho.up d hd; omega)) }
theorem MacW.reN {N N' B : Nat} {w : World} {mb Fd : Nat} {ia oa sa : Option Addr} {il ic ol oc sl sc rg h : Nat} {ins outs : List Int} {ss : List Stp} {fd : Nat → Option (Option Addr × Nat)} {X : Int → Nat → F} {ov : Value} (hm : MacW N B w mb Fd ia oa sa il ic ol oc sl sc rg h ins outs ss fd X false ov) : MacW N' B w mb Fd ia oa sa il ic ol oc sl sc rg h ins outs ss fd X false ov :=
  { hm with out := fun e => by cases e }
end Go.Proofs.YtoalbopcapgojabDoor

/- The walk of the statement ExecLinear: it returns true of all programs and bytes. -/
namespace Go.Proofs.YtoalbopcapgojabDoor
open Go.RowKit Gf
set_option linter.unusedVariables false
set_option maxRecDepth 20000
set_option linter.unusedSimpArgs false
theorem PrgW.inFormE {w : World} {ia oa sa : Option Addr} {il ic ol oc sl sc : Nat} {rg : Int} {ins outs : List Int} {ss : List Stp} (h : PrgW w ia oa sa il ic ol oc sl sc ins outs ss) :
    Calls Tryd.prog 7 #[.agg #[.slice ia il ic, .slice oa ol oc, .int .i64 rg, .slice sa sl sc]] w fun e w' => e = .returned (.bool (inFB ins outs rg ss)) ∧ Below w.heap.size w w' :=
  inForm_F ia oa sa il ic ol oc sl sc ins outs rg ss w h.eil h.eol h.esl h.i9 h.o9 h.s9 h.cil h.col h.I h.O h.S
set_option maxRecDepth 100000 in
set_option maxHeartbeats 16000000 in
theorem linear10_all (ia oa sa : Option Addr) (il ic ol oc sl sc : Nat) (rg : Int) (ins outs : List Int) (ss : List Stp) (l1 c1 l2 c2 : Nat) (a1 a2 : Option Addr) (xs ys : List F) (w : World) (E : Nat → Addr) (hE : ErrsX w E) (hP : PrgW w ia oa sa il ic ol oc sl sc ins outs ss) (hlx : l1 = xs.length) (hl1 : l1 ≤ 140737488355328) (hX : Row8 w a1 xs) (hly : l2 = ys.length) (hl2 : l2 ≤ 140737488355328) (hY : Row8 w a2 ys) :
    Calls Tryd.prog 4 #[.agg #[.slice ia il ic, .slice oa ol oc, .int .i64 rg, .slice sa sl sc], .slice a1 l1 c1, .slice a2 l2 c2] w fun e w' => e = .returned (.bool true) ∧ Below w.heap.size w w' := by
  have HE : Hid (ErrsX w E) := hE
  have HP : Hid (PrgW w ia oa sa il ic ol oc sl sc ins outs ss) := hP
  have HX1 : Hid (Row8 w a1 xs) := hX
  have HX2 : Hid (Row8 w a2 ys) := hY
  have HL1 : Hid (l1 = xs.length) := hlx
  have HL2 : Hid (l2 = ys.length) := hly
  have hb0 : Below w.heap.size w (w.alloc (.cells #[.slice ia il ic, .slice oa ol oc, .int .i64 rg, .slice sa sl sc] 25)) := (Below.refl _ _).alloc (Nat.le_refl _) _
  have HB0 : Hid _ := hb0
  have HX0 : Hid ((w.alloc (.cells #[.slice ia il ic, .slice oa ol oc, .int .i64 rg, .slice sa sl sc] 25)).heap[w.heap.size]? = some (.cells #[.slice ia il ic, .slice oa ol oc, .int .i64 rg, .slice sa sl sc] 25 (0, 0))) := heap_alloc_last _ _
  clear hE hP hX hY hlx hly hb0
  go_enter Tryd.func4, Tryd.ntmps4
  go_wp2_with fail
  refine Calls.mono (alive10_ok _ E (HE.out.below HB0.out)) ?_
  rintro e w1 ⟨rfl, hb1⟩
  have HB1 : Hid (Below w.heap.size w w1) := HB0.out.trans (hb1.mono HB0.out.size)
  have HX1' : Hid _ := heap_later HX0.out hb1
  have k0 := cellAt HX1'.out 0 _ rfl
  have k1 := cellAt HX1'.out 1 _ rfl
  have k2 := cellAt HX1'.out 2 _ rfl
  have k3 := cellAt HX1'.out 3 _ rfl
  clear hb1
  go_wp2_with fail
  refine Calls.mono ((HP.out.below HB1.out).inFormE) ?_
  by_cases hF : InF ins outs rg ss
  rotate_left
  · rw [inFB_no hF]
    rintro e w2 ⟨rfl, hb2⟩
    have HB2 : Hid (Below w.heap.size w w2) := HB1.out.trans (hb2.mono HB1.out.size)
    clear hb2 hF k0 k1 k2 k3
    go_wp2
    go_ret
    exact ⟨rfl, HB2.out⟩
  rw [inFB_yes hF]
  rintro e W ⟨rfl, hb2⟩
  obtain ⟨rg, rfl⟩ := Int.eq_ofNat_of_zero_le hF.2.2.1.1
  have HF : Hid (InF ins outs rg ss) := hF
  have hil32 : il ≤ 32 := by rw [HP.out.eil]; exact goodH_len hF.1
  have hol32 : ol ≤ 32 := by rw [HP.out.eol]; exact goodH_len hF.2.1
  have hsl9 : sl ≤ 4096 := by rw [HP.out.esl]; exact hF.2.2.2.1
  have HW : Hid (Below w.heap.size w W) := HB1.out.trans (hb2.mono HB1.out.size)
  have HPB : Hid _ := heap_later HX1'.out hb2
  have HKI : Hid (∀ u, Below W.heap.size W u → u.cell? ⟨w.heap.size, 0, none⟩ = some (.slice ia il ic)) := fun u hu => cellAt (heap_later HPB.out hu) 0 _ rfl
  have k3 := cellAt HPB.out 3 _ rfl
  have n1 : decide ((5000 : Int) < (sl : Int)) = false := decide_eq_false (by omega)
  clear hb2 hF k0 k1 k2
  go_upto_region 5 with fail
  clear k3 n1
  refine wp_region_noPanic ?_
  refine wp_region_held_drew (S := fun u => Below W.heap.size W u) (by kernel_rfl) ?_ (fun hHeld => ?_)
  · exact Below.drew (Below.refl _ W)
  obtain ⟨X0, hX0⟩ : ∃ X, X = W.drew := ⟨_, rfl⟩
  have B0 : Below W.heap.size W X0 := by rw [hX0]; exact Below.drew (Below.refl _ W)
  rw [← hX0] at hHeld ⊢
  clear hX0
  refine wpAnyH_take (i := 0) (oi := { dst := some 31, op := Op.fieldAddr 25 (Operand.tmp 3) 0, type := 0, pos := "law.go:225", after := #[], guard := none }) (v := ?_) rfl (by kernel_rfl) (by kernel_rfl) (by kernel_rfl) (fun _ _ _ h => h) (Or.inl ⟨by rfl, ?_⟩) hHeld ?_
  rotate_left
  · intro u hSw
    go_simp
    try with_reducible rfl
  try simp only [Act.put, List.setIfInBounds_toArray, List.set_cons_zero, List.set_cons_succ]
  refine wpAnyH_take (i := 1) (oi := { dst := some 32, op := Op.load 22 (Operand.tmp 31), type := 22, pos := "law.go:225", after := #[{ on := 0, ground := Ground.data }], guard := none }) (v := ?_) rfl (by kernel_rfl) (by kernel_rfl) (by kernel_rfl) (fun _ _ _ h => h) (Or.inl ⟨by rfl, ?_⟩) hHeld ?_
  rotate_left
  · intro u hSw
    have k9 := HKI.out u hSw
    go_simp
    try with_reducible rfl
  try simp only [Act.put, List.setIfInBounds_toArray, List.set_cons_zero, List.set_cons_succ]
  refine wpAnyH_take (i := 2) (oi := { dst := some 33, op := Op.call { callee := Callee.builtin Builtin.len, args := #[Operand.tmp 32], argTypes := #[22] }, type := 3, pos := "law.go:225", after := #[{ on := 1, ground := Ground.data }], guard := none }) (v := ?_) rfl (by kernel_rfl) (by kernel_rfl) (by kernel_rfl) (fun _ _ _ h => h) (Or.inl ⟨by rfl, ?_⟩) hHeld ?_
  rotate_left
  · intro u hSw
    go_simp
    try with_reducible rfl
  try simp only [Act.put, List.setIfInBounds_toArray, List.set_cons_zero, List.set_cons_succ]
  refine wpAnyH_take (i := 3) (oi := { dst := some 34, op := Op.move (Operand.tmp 1), type := 26, pos := "law.go:225", after := #[], guard := none }) (v := ?_) rfl (by kernel_rfl) (by kernel_rfl) (by kernel_rfl) (fun _ _ _ h => h) (Or.inl ⟨by rfl, ?_⟩) hHeld ?_
  rotate_left
  · intro u hSw
    go_simp
    try with_reducible rfl
  try simp only [Act.put, List.setIfInBounds_toArray, List.set_cons_zero, List.set_cons_succ]
  refine wpAnyH_take (i := 5) (oi := { dst := some 36, op := Op.fieldAddr 25 (Operand.tmp 3) 0, type := 0, pos := "law.go:225", after := #[], guard := none }) (v := ?_) rfl (by kernel_rfl) (by kernel_rfl) (by kernel_rfl) (fun _ _ _ h => h) (Or.inl ⟨by rfl, ?_⟩) hHeld ?_
  rotate_left
  · intro u hSw
    go_simp
    try with_reducible rfl
  try simp only [Act.put, List.setIfInBounds_toArray, List.set_cons_zero, List.set_cons_succ]
  refine wpAnyH_take (i := 6) (oi := { dst := some 37, op := Op.load 22 (Operand.tmp 36), type := 22, pos := "law.go:225", after := #[{ on := 5, ground := Ground.data }], guard := none }) (v := ?_) rfl (by kernel_rfl) (by kernel_rfl) (by kernel_rfl) (fun _ _ _ h => h) (Or.inl ⟨by rfl, ?_⟩) hHeld ?_
  rotate_left
  · intro u hSw
    have k9 := HKI.out u hSw
    go_simp
    try with_reducible rfl
  try simp only [Act.put, List.setIfInBounds_toArray, List.set_cons_zero, List.set_cons_succ]
  refine wpAnyH_take (i := 7) (oi := { dst := some 38, op := Op.call { callee := Callee.builtin Builtin.len, args := #[Operand.tmp 37], argTypes := #[22] }, type := 3, pos := "law.go:225", after := #[{ on := 6, ground := Ground.data }], guard := none }) (v := ?_) rfl (by kernel_rfl) (by kernel_rfl) (by kernel_rfl) (fun _ _ _ h => h) (Or.inl ⟨by rfl, ?_⟩) hHeld ?_
  rotate_left
  · intro u hSw
    go_simp
    try with_reducible rfl
  try simp only [Act.put, List.setIfInBounds_toArray, List.set_cons_zero, List.set_cons_succ]
  refine wpAnyH_take (i := 8) (oi := { dst := some 39, op := Op.move (Operand.tmp 2), type := 26, pos := "law.go:225", after := #[], guard := none }) (v := ?_) rfl (by kernel_rfl) (by kernel_rfl) (by kernel_rfl) (fun _ _ _ h => h) (Or.inl ⟨by rfl, ?_⟩) hHeld ?_
  rotate_left
  · intro u hSw
    go_simp
    try with_reducible rfl
  try simp only [Act.put, List.setIfInBounds_toArray, List.set_cons_zero, List.set_cons_succ]
  refine wpAnyH_ready (rs := [4]) (by kernel_rfl) (by simp) ?_
  refine (AllReadyH.cons (o := { dst := some 35, op := Op.call { callee := Callee.value (Operand.func 8), args := #[Operand.tmp 33, Operand.const (Value.int IntKind.i64 3), Operand.tmp 34], argTypes := #[3, 3, 26] }, type := 29, pos := "law.go:225", after := #[{ on := 2, ground := Ground.data }, { on := 3, ground := Ground.data }], guard := none }) rfl (fun K hK => ?_) AllReadyH.nil)
  go_simp
  refine Calls.mono (filled_F il 3 l1 c1 a1 xs _ (by omega) (by omega) HL1.out hl1 (row8_below HX1.out (HW.out.trans (B0.mono HW.out.size)))) ?_
  rintro e X1 ⟨va, q1, rfl, hf1, hx1⟩
  have B1 : Below W.heap.size W X1 := B0.trans (hx1.mono B0.size)
  have hF1 : FilW X1 W.heap.size va il 3 q1 (filF 3 xs) := { hf1 with own := own_mono9E hf1.own B0.size, low := fun i hi => Nat.le_trans B0.size (hf1.low i hi) }
  clear hf1 hx1
  go_wp2_with fail
  refine hK.out _ _ ?_ (fun hHeld => ?_)
  · exact B1
  clear hK K
  try simp only [Act.put, List.setIfInBounds_toArray, List.set_cons_zero, List.set_cons_succ]
  refine wpAnyH_ready (rs := [9]) (by kernel_rfl) (by simp) ?_
  refine (AllReadyH.cons (o := { dst := some 40, op := Op.call { callee := Callee.value (Operand.func 8), args := #[Operand.tmp 38, Operand.const (Value.int IntKind.i64 3), Operand.tmp 39], argTypes := #[3, 3, 26] }, type := 29, pos := "law.go:225", after := #[{ on := 7, ground := Ground.data }, { on := 8, ground := Ground.data }, { on := 4, ground := Ground.chain }], guard := none }) rfl (fun K hK => ?_) AllReadyH.nil)
  go_simp
  refine Calls.mono (filled_F il 3 l2 c2 a2 ys _ (by omega) (by omega) HL2.out hl2 (row8_below HX2.out (HW.out.trans (B1.mono HW.out.size)))) ?_
  rintro e X2 ⟨vb, q2, rfl, hf2, hx2⟩
  have B2 : Below W.heap.size W X2 := B1.trans (hx2.mono B1.size)
  have hz12 := hx2.size
  have hF1' := hF1.below hx2
  clear hx2
  go_wp2_with fail
  refine hK.out _ _ ?_ (fun hHeld => ?_)
  · exact B2
  clear hK K
  try simp only [Act.put, List.setIfInBounds_toArray, List.set_cons_zero, List.set_cons_succ]
  refine wpAnyH_take (i := 10) (oi := { dst := some 7, op := Op.assign (Operand.tmp 35), type := 29, pos := "law.go:225", after := #[{ on := 4, ground := Ground.data }, { on := 9, ground := Ground.chain }, { on := 0, ground := Ground.phase }, { on := 1, ground := Ground.phase }, { on := 2, ground := Ground.phase }, { on := 3, ground := Ground.phase }, { on := 4, ground := Ground.phase }, { on := 5, ground := Ground.textOnly Departure.lateStores }, { on := 6, ground := Ground.textOnly Departure.lateStores }, { on := 7, ground := Ground.textOnly Departure.lateStoresUnsure }, { on := 8, ground := Ground.textOnly Departure.lateStores }, { on := 9, ground := Ground.textOnly Departure.lateStoresUnsure }], guard := none }) (v := ?_) rfl (by kernel_rfl) (by kernel_rfl) (by kernel_rfl) (fun _ _ _ h => h) (Or.inl ⟨by rfl, ?_⟩) hHeld ?_
  rotate_left
  · intro u hSw
    go_simp
    try with_reducible rfl
  try simp only [Act.put, List.setIfInBounds_toArray, List.set_cons_zero, List.set_cons_succ]
  refine wpAnyH_take (i := 11) (oi := { dst := some 8, op := Op.assign (Operand.tmp 40), type := 29, pos := "law.go:225", after := #[{ on := 9, ground := Ground.data }, { on := 10, ground := Ground.chain }, { on := 0, ground := Ground.phase }, { on := 1, ground := Ground.phase }, { on := 2, ground := Ground.phase }, { on := 3, ground := Ground.phase }, { on := 4, ground := Ground.phase }, { on := 5, ground := Ground.phase }, { on := 6, ground := Ground.phase }, { on := 7, ground := Ground.phase }, { on := 8, ground := Ground.phase }, { on := 9, ground := Ground.phase }, { on := 10, ground := Ground.phase }], guard := none }) (v := ?_) rfl (by kernel_rfl) (by kernel_rfl) (by kernel_rfl) (fun _ _ _ h => h) (Or.inl ⟨by rfl, ?_⟩) hHeld ?_
  rotate_left
  · intro u hSw
    go_simp
    try with_reducible rfl
  try simp only [Act.put, List.setIfInBounds_toArray, List.set_cons_zero, List.set_cons_succ]
  refine wpAnyH_done (by kernel_rfl) ?_ _
  refine NoPanic.normal ?_
  have HFA : Hid (FilW X2 W.heap.size va il 3 q1 (filF 3 xs)) := hF1'
  have HFB : Hid (FilW X2 X1.heap.size vb il 3 q2 (filF 3 ys)) := hf2
  have HB2 : Hid (Below w.heap.size w X2) := HW.out.trans (B2.mono HW.out.size)
  have HPX : Hid _ := heap_later HPB.out B2
  have HZ1 : Hid (X1.heap.size ≤ X2.heap.size) := hz12
  clear hf2 hF1' hF1 B2 B1 B0 hHeld
  have k0 := cellAt HPX.out 0 _ rfl
  go_wp2_with fail
  refine Calls.mono (filled_F il 3 l1 c1 a1 xs _ (by omega) (by omega) HL1.out hl1 (row8_below HX1.out HB2.out)) ?_
  rintro e Y ⟨vc, q3, rfl, hfc, hy⟩
  have HFC : Hid (FilW Y X2.heap.size vc il 3 q3 (filF 3 xs)) := hfc
  have HBY : Hid (Below X2.heap.size X2 Y) := hy
  obtain ⟨aa, ca, rfl⟩ := HFA.out.slice
  obtain ⟨ab, cb, rfl⟩ := HFB.out.slice
  obtain ⟨ac, cc, rfl⟩ := hfc.slice
  clear hfc hy k0
  go_wp2
  go_loopw [48] (fun i wr => ∃ k : Nat, k ≤ il ∧ i = .int .i64 k ∧ FilW wr X2.heap.size (.slice ac il cc) il 3 q3 (fun i j => if i < k then ga (filF 3 xs i j) (filF 3 ys i j) else filF 3 xs i j) ∧ Below X2.heap.size X2 wr) (fun i _ => il - (intOf i).toNat)
  case atStart => exact ⟨0, Nat.zero_le _, rfl, HFC.out.congr fun i hi => by simp, HBY.out⟩
  case round =>
    obtain ⟨k, hk, rfl, hfc, hbx⟩ := hrel
    have HFK : Hid (FilW wr X2.heap.size (.slice ac il cc) il 3 q3 (fun i j => if i < k then ga (filF 3 xs i j) (filF 3 ys i j) else filF 3 xs i j)) := hfc
    have HBX : Hid (Below X2.heap.size X2 wr) := hbx
    clear hfc hbx HFC HBY
    generalize wr = V at *
    by_cases hlt : k < il
    · obtain ⟨gc, cs3, rfl, hgc, hc3, hBc⟩ := HFK.out.cell hlt
      obtain ⟨gb, cs2, rfl, hgb, hc2, hBb⟩ := HFB.out.cell hlt
      have e1 := cellAt hgc k _ hc3
      have HR0 : Hid (V.heap[q3 k]? = some (.cells (vfs (rowF 3 (fun j => if j < 0 then ga (filF 3 xs k j) (filF 3 ys k j) else filF 3 xs k j))) 5 (0, 0))) := by
        show _ = _
        rw [HFK.out.row k hlt]
        congr 3
        exact rowF_congr fun j _ => by simp
      have HQX : Hid (X2.heap.size ≤ q3 k) := HFK.out.low k hlt
      have HGC : Hid (gc ≠ q3 k) := fun e => by
        have h1 := HR0.out
        rw [← e, hgc] at h1
        injection h1 with h1
        injection h1 with h1 h2 h3
        exact absurd h2 (by decide)
      have HCC : Hid (V.cell? ⟨gc, k, none⟩ = some (.slice (some ⟨q3 k, 0, none⟩) 3 3)) := e1
      have HCB : Hid (X2.cell? ⟨gb, k, none⟩ = some (.slice (some ⟨q2 k, 0, none⟩) 3 3)) := cellAt hgb k _ hc2
      clear hgc hc3 hgb hc2 hBb hBc
      go_wp2
      clear e1
      go_loopw [56] (fun i wr => ∃ t : Nat, t ≤ 3 ∧ i = .int .i64 t ∧ V.grownBy wr (some (q3 k)) ∧ wr.heap[q3 k]? = some (.cells (vfs (rowF 3 (fun j => if j < t then ga (filF 3 xs k j) (filF 3 ys k j) else filF 3 xs k j))) 5 (0, 0))) (fun i _ => 3 - (intOf i).toNat)
      case atStart => exact ⟨0, by omega, rfl, World.grownBy.refl _ _, HR0.out⟩
      case round =>
        obtain ⟨t, ht, rfl, hg, hr⟩ := hrel
        have HG : Hid (V.grownBy wr (some (q3 k))) := hg
        have HR : Hid (wr.heap[q3 k]? = some (.cells (vfs (rowF 3 (fun j => if j < t then ga (filF 3 xs k j) (filF 3 ys k j) else filF 3 xs k j))) 5 (0, 0))) := hr
        clear hg hr HR0
        by_cases hlt3 : t < 3
        · have PC : Hid (∀ u, wr.grownBy u (some (q3 k)) → u.cell? ⟨gc, k, none⟩ = some (.slice (some ⟨q3 k, 0, none⟩) 3 3)) := fun u hu => cell_grown9 (grown_same HG.out hu) HCC.out HGC.out
          have PD : Hid (∀ u, wr.grownBy u (some (q3 k)) → u.cell? ⟨gb, k, none⟩ = some (.slice (some ⟨q2 k, 0, none⟩) 3 3)) := fun u hu => cell_grown9 (grown_same HG.out hu) (cell_later HBX.out HCB.out) (by have := cell_lt9 HCB.out; have := HQX.out; omega)
          have PE : Hid (∀ u, wr.grownBy u (some (q3 k)) → u.cell? ⟨q2 k, t, none⟩ = some (.int .u8 ((filF 3 ys k t).toNat : Int))) := fun u hu => by
            have h9 := cellAt (HFB.out.row k hlt) t _ (vfs_get _ t (by rw [rowF_len]; exact hlt3))
            rw [at8_rowF hlt3] at h9
            exact cell_grown9 (grown_same HG.out hu) (cell_later HBX.out h9) (by have := ltHeap (HFB.out.row k hlt); have := HQX.out; omega)
          go_wp2
          refine wp_region_noPanic ?_
          refine wp_region_held_drew (S := fun u => wr.grownBy u (some (q3 k))) (by kernel_rfl) ?_ (fun hHeld => ?_)
          · exact grownBy_drew (World.grownBy.refl _ _)
          obtain ⟨X, hX⟩ : ∃ X, X = wr.drew := ⟨_, rfl⟩
          have GX : wr.grownBy X (some (q3 k)) := by rw [hX]; exact grownBy_drew (World.grownBy.refl _ _)
          have HRX : Hid (X.heap[q3 k]? = some (.cells (vfs (rowF 3 (fun j => if j < t then ga (filF 3 xs k j) (filF 3 ys k j) else filF 3 xs k j))) 5 (0, 0))) := by show _ = _; rw [hX]; exact HR.out
          rw [← hX] at hHeld ⊢
          clear hX
          refine wpAnyH_take (i := 0) (oi := { dst := some 59, op := Op.move (Operand.tmp 9), type := 29, pos := "law.go:229", after := #[], guard := none }) (v := ?_) rfl (by kernel_rfl) (by kernel_rfl) (by kernel_rfl) (fun _ _ _ h => h) (Or.inl ⟨by rfl, ?_⟩) hHeld ?_
          rotate_left
          · intro u hSw
            go_simp
            try with_reducible rfl
          try simp only [Act.put, List.setIfInBounds_toArray, List.set_cons_zero, List.set_cons_succ]
          refine wpAnyH_take (i := 1) (oi := { dst := some 60, op := Op.move (Operand.tmp 10), type := 3, pos := "law.go:229", after := #[], guard := none }) (v := ?_) rfl (by kernel_rfl) (by kernel_rfl) (by kernel_rfl) (fun _ _ _ h => h) (Or.inl ⟨by rfl, ?_⟩) hHeld ?_
          rotate_left
          · intro u hSw
            go_simp
            try with_reducible rfl
          try simp only [Act.put, List.setIfInBounds_toArray, List.set_cons_zero, List.set_cons_succ]
          refine wpAnyH_take (i := 2) (oi := { dst := some 61, op := Op.indexAddr 29 (Operand.tmp 59) (Operand.tmp 60), type := 0, pos := "law.go:229", after := #[{ on := 0, ground := Ground.data }, { on := 1, ground := Ground.data }], guard := none }) (v := ?_) rfl (by kernel_rfl) (by kernel_rfl) (by kernel_rfl) (fun _ _ _ h => h) (Or.inl ⟨by rfl, ?_⟩) hHeld ?_
          rotate_left
          · intro u hSw
            go_simp
            try with_reducible rfl
          try simp only [Act.put, List.setIfInBounds_toArray, List.set_cons_zero, List.set_cons_succ]
          refine wpAnyH_take (i := 3) (oi := { dst := some 62, op := Op.load 26 (Operand.tmp 61), type := 26, pos := "law.go:229", after := #[{ on := 2, ground := Ground.data }], guard := none }) (v := ?_) rfl (by kernel_rfl) (by kernel_rfl) (by kernel_rfl) (fun _ _ _ h => h) (Or.inl ⟨by rfl, ?_⟩) hHeld ?_
          rotate_left
          · intro u hSw
            have k9 := PC.out u hSw
            go_simp
            try with_reducible rfl
          try simp only [Act.put, List.setIfInBounds_toArray, List.set_cons_zero, List.set_cons_succ]
          refine wpAnyH_take (i := 4) (oi := { dst := some 63, op := Op.move (Operand.tmp 11), type := 3, pos := "law.go:229", after := #[], guard := none }) (v := ?_) rfl (by kernel_rfl) (by kernel_rfl) (by kernel_rfl) (fun _ _ _ h => h) (Or.inl ⟨by rfl, ?_⟩) hHeld ?_
          rotate_left
          · intro u hSw
            go_simp
            try with_reducible rfl
          try simp only [Act.put, List.setIfInBounds_toArray, List.set_cons_zero, List.set_cons_succ]
          refine wpAnyH_take (i := 5) (oi := { dst := some 64, op := Op.indexAddr 26 (Operand.tmp 62) (Operand.tmp 63), type := 0, pos := "law.go:229", after := #[{ on := 3, ground := Ground.data }, { on := 4, ground := Ground.data }], guard := none }) (v := ?_) rfl (by kernel_rfl) (by kernel_rfl) (by kernel_rfl) (fun _ _ _ h => h) (Or.inl ⟨by rfl, ?_⟩) hHeld ?_
          rotate_left
          · intro u hSw
            go_simp
            try with_reducible rfl
          try simp only [Act.put, List.setIfInBounds_toArray, List.set_cons_zero, List.set_cons_succ]
          refine wpAnyH_take (i := 7) (oi := { dst := some 66, op := Op.move (Operand.tmp 8), type := 29, pos := "law.go:229", after := #[], guard := none }) (v := ?_) rfl (by kernel_rfl) (by kernel_rfl) (by kernel_rfl) (fun _ _ _ h => h) (Or.inl ⟨by rfl, ?_⟩) hHeld ?_
          rotate_left
          · intro u hSw
            go_simp
            try with_reducible rfl
          try simp only [Act.put, List.setIfInBounds_toArray, List.set_cons_zero, List.set_cons_succ]
          refine wpAnyH_take (i := 8) (oi := { dst := some 67, op := Op.move (Operand.tmp 10), type := 3, pos := "law.go:229", after := #[], guard := none }) (v := ?_) rfl (by kernel_rfl) (by kernel_rfl) (by kernel_rfl) (fun _ _ _ h => h) (Or.inl ⟨by rfl, ?_⟩) hHeld ?_
          rotate_left
          · intro u hSw
            go_simp
            try with_reducible rfl
          try simp only [Act.put, List.setIfInBounds_toArray, List.set_cons_zero, List.set_cons_succ]
          refine wpAnyH_take (i := 9) (oi := { dst := some 68, op := Op.indexAddr 29 (Operand.tmp 66) (Operand.tmp 67), type := 0, pos := "law.go:229", after := #[{ on := 7, ground := Ground.data }, { on := 8, ground := Ground.data }], guard := none }) (v := ?_) rfl (by kernel_rfl) (by kernel_rfl) (by kernel_rfl) (fun _ _ _ h => h) (Or.inl ⟨by rfl, ?_⟩) hHeld ?_
          rotate_left
          · intro u hSw
            go_simp
            try with_reducible rfl
          try simp only [Act.put, List.setIfInBounds_toArray, List.set_cons_zero, List.set_cons_succ]
          refine wpAnyH_take (i := 10) (oi := { dst := some 69, op := Op.load 26 (Operand.tmp 68), type := 26, pos := "law.go:229", after := #[{ on := 9, ground := Ground.data }], guard := none }) (v := ?_) rfl (by kernel_rfl) (by kernel_rfl) (by kernel_rfl) (fun _ _ _ h => h) (Or.inl ⟨by rfl, ?_⟩) hHeld ?_
          rotate_left
          · intro u hSw
            have k9 := PD.out u hSw
            go_simp
            try with_reducible rfl
          try simp only [Act.put, List.setIfInBounds_toArray, List.set_cons_zero, List.set_cons_succ]
          refine wpAnyH_take (i := 11) (oi := { dst := some 70, op := Op.move (Operand.tmp 11), type := 3, pos := "law.go:229", after := #[], guard := none }) (v := ?_) rfl (by kernel_rfl) (by kernel_rfl) (by kernel_rfl) (fun _ _ _ h => h) (Or.inl ⟨by rfl, ?_⟩) hHeld ?_
          rotate_left
          · intro u hSw
            go_simp
            try with_reducible rfl
          try simp only [Act.put, List.setIfInBounds_toArray, List.set_cons_zero, List.set_cons_succ]
          refine wpAnyH_take (i := 12) (oi := { dst := some 71, op := Op.indexAddr 26 (Operand.tmp 69) (Operand.tmp 70), type := 0, pos := "law.go:229", after := #[{ on := 10, ground := Ground.data }, { on := 11, ground := Ground.data }], guard := none }) (v := ?_) rfl (by kernel_rfl) (by kernel_rfl) (by kernel_rfl) (fun _ _ _ h => h) (Or.inl ⟨by rfl, ?_⟩) hHeld ?_
          rotate_left
          · intro u hSw
            go_simp
            try with_reducible rfl
          try simp only [Act.put, List.setIfInBounds_toArray, List.set_cons_zero, List.set_cons_succ]
          refine wpAnyH_take (i := 13) (oi := { dst := some 72, op := Op.load 5 (Operand.tmp 71), type := 5, pos := "law.go:229", after := #[{ on := 12, ground := Ground.data }], guard := none }) (v := ?_) rfl (by kernel_rfl) (by kernel_rfl) (by kernel_rfl) (fun _ _ _ h => h) (Or.inl ⟨by rfl, ?_⟩) hHeld ?_
          rotate_left
          · intro u hSw
            have k9 := PE.out u hSw
            go_simp
            try with_reducible rfl
          try simp only [Act.put, List.setIfInBounds_toArray, List.set_cons_zero, List.set_cons_succ]
          refine wpAnyH_ready (rs := [6]) (by kernel_rfl) (by simp) ?_
          refine (AllReadyH.cons (o := { dst := some 65, op := Op.load 5 (Operand.tmp 64), type := 5, pos := "law.go:229", after := #[{ on := 5, ground := Ground.data }], guard := none }) rfl (fun K hK => ?_) AllReadyH.nil)
          have d6 := cellAt HRX.out t _ (vfs_get _ t (by rw [rowF_len]; exact hlt3))
          rw [at8_rowF hlt3, if_neg (Nat.lt_irrefl t)] at d6
          go_simp
          refine hK.out _ _ ?_ (fun hHeld => ?_)
          · exact GX
          clear hK K
          try simp only [Act.put, List.setIfInBounds_toArray, List.set_cons_zero, List.set_cons_succ]
          refine wpAnyH_take (i := 14) (oi := { dst := some 73, op := Op.binOp BinOp.xor 5 (Operand.tmp 65) (Operand.tmp 72) 5, type := 5, pos := "law.go:229", after := #[{ on := 6, ground := Ground.data }, { on := 13, ground := Ground.data }], guard := none }) (v := ?_) rfl (by kernel_rfl) (by kernel_rfl) (by kernel_rfl) (fun _ _ _ h => h) (Or.inl ⟨by rfl, ?_⟩) hHeld ?_
          rotate_left
          · intro u hSw
            go_simp
            try with_reducible rfl
          try simp only [Act.put, List.setIfInBounds_toArray, List.set_cons_zero, List.set_cons_succ]
          refine wpAnyH_take (i := 15) (oi := { dst := some 74, op := Op.indexAddr 26 (Operand.tmp 62) (Operand.tmp 63), type := 0, pos := "law.go:229", after := #[{ on := 3, ground := Ground.data }, { on := 4, ground := Ground.data }, { on := 0, ground := Ground.phase }, { on := 1, ground := Ground.phase }, { on := 2, ground := Ground.phase }, { on := 3, ground := Ground.phase }, { on := 4, ground := Ground.phase }, { on := 5, ground := Ground.phase }, { on := 6, ground := Ground.phase }, { on := 7, ground := Ground.phase }, { on := 8, ground := Ground.phase }, { on := 9, ground := Ground.phase }, { on := 10, ground := Ground.phase }, { on := 11, ground := Ground.phase }, { on := 12, ground := Ground.phase }, { on := 13, ground := Ground.phase }, { on := 14, ground := Ground.phase }], guard := none }) (v := ?_) rfl (by kernel_rfl) (by kernel_rfl) (by kernel_rfl) (fun _ _ _ h => h) (Or.inl ⟨by rfl, ?_⟩) hHeld ?_
          rotate_left
          · intro u hSw
            go_simp
            try with_reducible rfl
          try simp only [Act.put, List.setIfInBounds_toArray, List.set_cons_zero, List.set_cons_succ]
          refine wpAnyH_ready (rs := [16]) (by kernel_rfl) (by simp) ?_
          refine (AllReadyH.cons (o := { dst := none, op := Op.store 5 (Operand.tmp 74) (Operand.tmp 73), type := 0, pos := "law.go:229", after := #[{ on := 15, ground := Ground.data }, { on := 14, ground := Ground.data }, { on := 0, ground := Ground.phase }, { on := 1, ground := Ground.phase }, { on := 2, ground := Ground.phase }, { on := 3, ground := Ground.phase }, { on := 4, ground := Ground.phase }, { on := 5, ground := Ground.phase }, { on := 6, ground := Ground.phase }, { on := 7, ground := Ground.phase }, { on := 8, ground := Ground.phase }, { on := 9, ground := Ground.phase }, { on := 10, ground := Ground.phase }, { on := 11, ground := Ground.phase }, { on := 12, ground := Ground.phase }, { on := 13, ground := Ground.phase }, { on := 14, ground := Ground.phase }], guard := none }) rfl (fun K hK => ?_) AllReadyH.nil)
          have d7 := cellAt HRX.out t _ (vfs_get _ t (by rw [rowF_len]; exact hlt3))
          have d8 : X.frozen? ⟨q3 k, t, none⟩ = false := frozen_of_row _ _ _ _ _ HRX.out
          go_simp
          refine hK.out _ _ ?_ (fun hHeld => ?_)
          · exact grownBy_setCell GX _
          clear hK K
          try simp only [Act.put, List.setIfInBounds_toArray, List.set_cons_zero, List.set_cons_succ]
          refine wpAnyH_done (by kernel_rfl) ?_ _
          refine NoPanic.normal ?_
          obtain ⟨Z, hZ⟩ : ∃ Z, Z = X.setCell ⟨q3 k, t, none⟩ (.int .u8 ((ga (filF 3 xs k t) (filF 3 ys k t)).toNat : Int)) := ⟨_, rfl⟩
          have HRN : Hid (Z.heap[q3 k]? = some (.cells (vfs (rowF 3 (fun j => if j < t + 1 then ga (filF 3 xs k j) (filF 3 ys k j) else filF 3 xs k j))) 5 (0, 0))) := by
            show _ = _
            rw [hZ, heap_setCell_same _ _ _ _ _ _ HRX.out]
            congr 2
            refine (vfs_set _ t (ga (filF 3 xs k t) (filF 3 ys k t))).trans ?_
            rw [rowF_set]
            congr 1
            refine rowF_congr fun j _ => ?_
            by_cases e : j = t
            · subst e; rw [if_pos rfl, if_pos (by omega)]
            · rw [if_neg e]
              by_cases e2 : j < t
              · rw [if_pos e2, if_pos (by omega)]
              · rw [if_neg e2, if_neg (by omega)]
          have HGN : Hid (V.grownBy Z (some (q3 k))) := by show World.grownBy ..; rw [hZ]; exact grownBy_setCell (grown_same HG.out GX) _
          rw [xor_val, ← hZ]
          clear hZ d6 d7 d8 hHeld GX
          go_wp2
          exact ⟨⟨t + 1, by omega, by go_num, HGN.out, HRN.out⟩, by simp [intOf]; omega⟩
        · obtain rfl : t = 3 := by omega
          have HFN : Hid (FilW wr X2.heap.size (.slice (some ⟨gc, 0, none⟩) il cc) il 3 q3 (fun i j => if i < k + 1 then ga (filF 3 xs i j) (filF 3 ys i j) else filF 3 xs i j)) := by
            refine HFK.out.poke hlt HG.out ?_ (fun i hi hne => ?_)
            · rw [HR.out]
              congr 3
              exact rowF_congr fun j hj => by rw [if_pos hj, if_pos (Nat.lt_succ_self k)]
            · funext j
              by_cases e : i < k
              · rw [if_pos e, if_pos (by omega)]
              · rw [if_neg e, if_neg (by omega)]
          have HBN : Hid (Below X2.heap.size X2 wr) := below_grownF HBX.out HG.out HQX.out HBX.out.size
          go_wp2
          exact ⟨⟨k + 1, by omega, by go_num, HFN.out, HBN.out⟩, by simp [intOf]; omega⟩
    · obtain rfl : il = k := by omega
      obtain ⟨LA, hLA⟩ : ∃ LA : List (List F), LA = (List.range il).map fun i => rowF 3 (filF 3 xs i) := ⟨_, rfl⟩
      obtain ⟨LB, hLB⟩ : ∃ LB : List (List F), LB = (List.range il).map fun i => rowF 3 (filF 3 ys i) := ⟨_, rfl⟩
      obtain ⟨LC, hLC⟩ : ∃ LC : List (List F), LC = (List.range il).map fun i => rowF 3 (fun j => ga (filF 3 xs i j) (filF 3 ys i j)) := ⟨_, rfl⟩
      have HRLA : Hid (Rows8 V aa LA) := by show Rows8 ..; rw [hLA]; exact (HFA.out.below HBX.out).rows
      have HRLB : Hid (Rows8 V ab LB) := by show Rows8 ..; rw [hLB]; exact (HFB.out.below HBX.out).rows
      have HRLC : Hid (Rows8 V ac LC) := by
        show Rows8 ..
        rw [hLC]
        exact (HFK.out.congr (f' := fun i j => ga (filF 3 xs i j) (filF 3 ys i j)) (fun i hi => by funext j; rw [if_pos hi])).rows
      have HLNLA : Hid (∀ xs ∈ LA, xs.length = 3) := fun x hx => by rw [hLA] at hx; obtain ⟨i, _, rfl⟩ := List.mem_map.1 hx; exact rowF_len _ _
      have HLNLB : Hid (∀ xs ∈ LB, xs.length = 3) := fun x hx => by rw [hLB] at hx; obtain ⟨i, _, rfl⟩ := List.mem_map.1 hx; exact rowF_len _ _
      have HLNLC : Hid (∀ xs ∈ LC, xs.length = 3) := fun x hx => by rw [hLC] at hx; obtain ⟨i, _, rfl⟩ := List.mem_map.1 hx; exact rowF_len _ _
      have HSUM : Hid (∀ (d : Int) (t : Nat), t < 3 → ga (runO (inX LA) ss noR noR d t) (runO (inX LB) ss noR noR d t) = runO (inX LC) ss noR noR d t) := fun d t ht => by
        have h1 := congrFun (congrFun (run_sum (inX LA) (inX LB) ss) d) t
        have h2 := run_alike (X := inX LC) (Y := gaR (inX LA) (inX LB)) (b := t) (l := ss) (fun s hs hs1 => by
          have hok := HF.out.2.2.2.2.1 s hs
          unfold OkS at hok
          have hq : 0 ≤ s.src ∧ s.src < ins.length := by omega
          obtain ⟨q, hq2⟩ := Int.eq_ofNat_of_zero_le hq.1
          have hql : q < il := by have := HP.out.eil; omega
          rw [hq2]
          show inX LC (q : Int) t = ga (inX LA (q : Int) t) (inX LB (q : Int) t)
          rw [inX_at (xs := rowF 3 (fun j => ga (filF 3 xs q j) (filF 3 ys q j))) (by rw [hLC]; simp [hql]), inX_at (xs := rowF 3 (filF 3 xs q)) (by rw [hLA]; simp [hql]), inX_at (xs := rowF 3 (filF 3 ys q)) (by rw [hLB]; simp [hql]), at8_rowF ht, at8_rowF ht, at8_rowF ht]) noR noR noR noR (fun _ => rfl) (fun _ => rfl) d
        exact (h2.trans h1).symm
      have hla : il = LA.length := by rw [hLA]; simp
      have hlb : il = LB.length := by rw [hLB]; simp
      have hlc : il = LC.length := by rw [hLC]; simp
      have HLALN : Hid (il = LA.length) := hla
      have HLBLN : Hid (il = LB.length) := hlb
      have HLCLN : Hid (il = LC.length) := hlc
      have HPX1 : Hid _ := heap_later HPX.out HBX.out
      have HBV1 : Hid (Below w.heap.size w V) := HB2.out.trans (HBX.out.mono HB2.out.size)
      have HBB1 : Hid (Below V.heap.size V V) := Below.refl _ _
      clear hLA hLB hLC hla hlb hlc HFK
      have k0 := cellAt HPX1.out 0 _ rfl
      have k1 := cellAt HPX1.out 1 _ rfl
      have k2 := cellAt HPX1.out 2 _ rfl
      have k3 := cellAt HPX1.out 3 _ rfl
      go_wp2_with fail
      refine Calls.mono (do_F ia oa sa aa il ic ol oc sl sc rg 3 il ca ins outs ss LA _ (E 6) (E 4) (HP.out.below HBV1.out) (HE.out.below HBV1.out).prog (HE.out.below HBV1.out).data HF.out (by omega) (by omega) HLALN.out rfl (fun xs9 h9 => by rw [HLNLA.out xs9 h9]; decide) (rows8_below HRLA.out HBB1.out)) ?_
      rintro e U2 ⟨hres, hu1⟩
      rcases hres with ⟨_, G1, qs1, cs1, rfl, ho1, hG1⟩ | ⟨hbad, _⟩
      rotate_left
      · exact absurd HLNLA.out hbad
      have HO1 : Hid (OutL U2 G1 ol 3 qs1 cs1 (inX LA) ss ol) := ho1
      have HPX2 : Hid _ := heap_later HPX1.out hu1
      have HBV2 : Hid (Below w.heap.size w U2) := HBV1.out.trans (hu1.mono HBV1.out.size)
      have HBB2 : Hid (Below V.heap.size V U2) := HBB1.out.trans (hu1.mono HBB1.out.size)
      have HU1 : Hid (Below V.heap.size V U2) := hu1
      clear ho1 hG1 hu1 k0 k1 k2 k3
      have k0 := cellAt HPX2.out 0 _ rfl
      have k1 := cellAt HPX2.out 1 _ rfl
      have k2 := cellAt HPX2.out 2 _ rfl
      have k3 := cellAt HPX2.out 3 _ rfl
      go_wp2_with fail
      refine Calls.mono (do_F ia oa sa ab il ic ol oc sl sc rg 3 il cb ins outs ss LB _ (E 6) (E 4) (HP.out.below HBV2.out) (HE.out.below HBV2.out).prog (HE.out.below HBV2.out).data HF.out (by omega) (by omega) HLBLN.out rfl (fun xs9 h9 => by rw [HLNLB.out xs9 h9]; decide) (rows8_below HRLB.out HBB2.out)) ?_
      rintro e U3 ⟨hres, hu2⟩
      rcases hres with ⟨_, G2, qs2, cs2, rfl, ho2, hG2⟩ | ⟨hbad, _⟩
      rotate_left
      · exact absurd HLNLB.out hbad
      have HO2 : Hid (OutL U3 G2 ol 3 qs2 cs2 (inX LB) ss ol) := ho2
      have HPX3 : Hid _ := heap_later HPX2.out hu2
      have HBV3 : Hid (Below w.heap.size w U3) := HBV2.out.trans (hu2.mono HBV2.out.size)
      have HBB3 : Hid (Below V.heap.size V U3) := HBB2.out.trans (hu2.mono HBB2.out.size)
      have HU2 : Hid (Below U2.heap.size U2 U3) := hu2
      clear ho2 hG2 hu2 k0 k1 k2 k3
      have k0 := cellAt HPX3.out 0 _ rfl
      have k1 := cellAt HPX3.out 1 _ rfl
      have k2 := cellAt HPX3.out 2 _ rfl
      have k3 := cellAt HPX3.out 3 _ rfl
      go_wp2_with fail
      refine Calls.mono (do_F ia oa sa ac il ic ol oc sl sc rg 3 il cc ins outs ss LC _ (E 6) (E 4) (HP.out.below HBV3.out) (HE.out.below HBV3.out).prog (HE.out.below HBV3.out).data HF.out (by omega) (by omega) HLCLN.out rfl (fun xs9 h9 => by rw [HLNLC.out xs9 h9]; decide) (rows8_below HRLC.out HBB3.out)) ?_
      rintro e U4 ⟨hres, hu3⟩
      rcases hres with ⟨_, G3, qs3, cs3, rfl, ho3, hG3⟩ | ⟨hbad, _⟩
      rotate_left
      · exact absurd HLNLC.out hbad
      have HO3 : Hid (OutL U4 G3 ol 3 qs3 cs3 (inX LC) ss ol) := ho3
      have HPX4 : Hid _ := heap_later HPX3.out hu3
      have HBV4 : Hid (Below w.heap.size w U4) := HBV3.out.trans (hu3.mono HBV3.out.size)
      have HBB4 : Hid (Below V.heap.size V U4) := HBB3.out.trans (hu3.mono HBB3.out.size)
      have HU3 : Hid (Below U3.heap.size U3 U4) := hu3
      clear ho3 hG3 hu3 k0 k1 k2 k3
      have k1 := cellAt HPX4.out 1 _ rfl
      have HO1' : Hid _ := (HO1.out.below HU2.out).below HU3.out
      have HO2' : Hid _ := HO2.out.below HU3.out
      clear HO1 HO2
      go_wp2
      clear k1
      go_loopw [129] (fun i wr => ∃ d : Nat, d ≤ ol ∧ i = .int .i64 d ∧ Below U4.heap.size U4 wr) (fun i _ => ol - (intOf i).toNat)
      case atStart => exact ⟨0, Nat.zero_le _, rfl, Below.refl _ _⟩
      case round =>
        obtain ⟨d, hd, rfl, hbr⟩ := hrel
        have HBR : Hid (Below U4.heap.size U4 wr) := hbr
        clear hbr
        by_cases hlt : d < ol
        · have hc1 := HO1'.out.cell hlt
          have hc2 := HO2'.out.cell hlt
          have hc3 := HO3.out.cell hlt
          have e1 := cell_later HBR.out hc1
          have e2 := cell_later HBR.out hc2
          have e3 := cell_later HBR.out hc3
          have HC1 : Hid _ := hc1
          have HC2 : Hid _ := hc2
          have HC3 : Hid _ := hc3
          clear hc1 hc2 hc3
          generalize wr = V9 at *
          go_wp2
          clear e1 e2 e3
          go_loopw [159] (fun i wr => ∃ t : Nat, t ≤ 3 ∧ i = .int .i64 t ∧ Below U4.heap.size U4 wr) (fun i _ => 3 - (intOf i).toNat)
          case atStart => exact ⟨0, by omega, rfl, HBR.out⟩
          case round =>
            obtain ⟨t, ht, rfl, hbr⟩ := hrel
            have HBT : Hid (Below U4.heap.size U4 wr) := hbr
            by_cases hlt3 : t < 3
            · have e1 := cell_later hbr HC1.out
              have e2 := cell_later hbr HC2.out
              have e3 := cell_later hbr HC3.out
              have b1 := cell_later hbr (has8_cell (HO1'.out.row d hlt) (show t < _ by rw [rowF_len]; exact hlt3)).1
              have b2 := cell_later hbr (has8_cell (HO2'.out.row d hlt) (show t < _ by rw [rowF_len]; exact hlt3)).1
              have b3 := cell_later hbr (has8_cell (HO3.out.row d hlt) (show t < _ by rw [rowF_len]; exact hlt3)).1
              rw [at8_rowF hlt3] at b1 b2 b3
              have hx : bits .xor .u8 ((runO (inX LA) ss noR noR (d : Int) t).toNat : Int) ((runO (inX LB) ss noR noR (d : Int) t).toNat : Int) = ((runO (inX LC) ss noR noR (d : Int) t).toNat : Int) := by rw [xor_val, HSUM.out (d : Int) t hlt3]
              clear hbr
              go_wp2
              go_region
              have HBT2 : Hid (Below U4.heap.size U4 wr.drew) := HBT.out.drew
              clear e1 e2 e3 b1 b2 b3
              go_wp2
              exact ⟨⟨t + 1, by omega, by go_num, HBT2.out⟩, by simp [intOf]; omega⟩
            · obtain rfl : t = 3 := by omega
              clear hbr
              go_wp2
              exact ⟨⟨d + 1, by omega, by go_num, HBT.out⟩, by simp [intOf]; omega⟩
        · obtain rfl : ol = d := by omega
          have HFIN : Hid (Below w.heap.size w wr) := HBV4.out.trans (HBR.out.mono HBV4.out.size)
          go_wp2
          go_ret
          exact ⟨rfl, HFIN.out⟩
end Go.Proofs.YtoalbopcapgojabDoor

/- The walk of the statement ExecAgain: it returns true of all programs and bytes (under way). -/
namespace Go.Proofs.YtoalbopcapgojabDoor
open Go.RowKit Gf
set_option linter.unusedVariables false
set_option maxRecDepth 20000
set_option linter.unusedSimpArgs false
set_option maxRecDepth 100000 in
set_option maxHeartbeats 16000000 in
theorem again10_all (ia oa sa : Option Addr) (il ic ol oc sl sc : Nat) (rg : Int) (ins outs : List Int) (ss : List Stp) (l1 c1 : Nat) (a1 : Option Addr) (xs : List F) (w : World) (E : Nat → Addr) (hE : ErrsX w E) (hP : PrgW w ia oa sa il ic ol oc sl sc ins outs ss) (hlx : l1 = xs.length) (hl1 : l1 ≤ 140737488355328) (hX : Row8 w a1 xs) :
    Calls Tryd.prog 5 #[.agg #[.slice ia il ic, .slice oa ol oc, .int .i64 rg, .slice sa sl sc], .slice a1 l1 c1] w fun e w' => e = .returned (.bool true) ∧ Below w.heap.size w w' := by
  have HE : Hid (ErrsX w E) := hE
  have HP : Hid (PrgW w ia oa sa il ic ol oc sl sc ins outs ss) := hP
  have HX1 : Hid (Row8 w a1 xs) := hX
  have HL1 : Hid (l1 = xs.length) := hlx
  have hb0 : Below w.heap.size w (w.alloc (.cells #[.slice ia il ic, .slice oa ol oc, .int .i64 rg, .slice sa sl sc] 25)) := (Below.refl _ _).alloc (Nat.le_refl _) _
  have HB0 : Hid _ := hb0
  have HX0 : Hid ((w.alloc (.cells #[.slice ia il ic, .slice oa ol oc, .int .i64 rg, .slice sa sl sc] 25)).heap[w.heap.size]? = some (.cells #[.slice ia il ic, .slice oa ol oc, .int .i64 rg, .slice sa sl sc] 25 (0, 0))) := heap_alloc_last _ _
  clear hE hP hX hlx hb0
  go_enter Tryd.func5, Tryd.ntmps5
  go_wp2_with fail
  refine Calls.mono (alive10_ok _ E (HE.out.below HB0.out)) ?_
  rintro e w1 ⟨rfl, hb1⟩
  have HB1 : Hid (Below w.heap.size w w1) := HB0.out.trans (hb1.mono HB0.out.size)
  have HX1' : Hid _ := heap_later HX0.out hb1
  have k0 := cellAt HX1'.out 0 _ rfl
  have k1 := cellAt HX1'.out 1 _ rfl
  have k2 := cellAt HX1'.out 2 _ rfl
  have k3 := cellAt HX1'.out 3 _ rfl
  clear hb1
  go_wp2_with fail
  refine Calls.mono ((HP.out.below HB1.out).inFormE) ?_
  by_cases hF : InF ins outs rg ss
  rotate_left
  · rw [inFB_no hF]
    rintro e w2 ⟨rfl, hb2⟩
    have HB2 : Hid (Below w.heap.size w w2) := HB1.out.trans (hb2.mono HB1.out.size)
    clear hb2 hF k0 k1 k2 k3
    go_wp2
    go_ret
    exact ⟨rfl, HB2.out⟩
  rw [inFB_yes hF]
  rintro e W ⟨rfl, hb2⟩
  obtain ⟨rg, rfl⟩ := Int.eq_ofNat_of_zero_le hF.2.2.1.1
  have HF : Hid (InF ins outs rg ss) := hF
  have hil32 : il ≤ 32 := by rw [HP.out.eil]; exact goodH_len hF.1
  have hol32 : ol ≤ 32 := by rw [HP.out.eol]; exact goodH_len hF.2.1
  have hsl9 : sl ≤ 4096 := by rw [HP.out.esl]; exact hF.2.2.2.1
  have HW : Hid (Below w.heap.size w W) := HB1.out.trans (hb2.mono HB1.out.size)
  have HPB : Hid _ := heap_later HX1'.out hb2
  have k3 := cellAt HPB.out 3 _ rfl
  clear hb2 hF k0 k1 k2
  by_cases h4 : 4000 < sl
  · have n1 : decide ((4000 : Int) < (sl : Int)) = true := decide_eq_true (by omega)
    clear h4
    go_wp2
    go_ret
    exact ⟨rfl, HW.out⟩
  have n1 : decide ((4000 : Int) < (sl : Int)) = false := decide_eq_false (by omega)
  clear h4
  go_upto_region 5 with fail
  clear k3 n1
  have k0 := cellAt HPB.out 0 _ rfl
  go_wp2_with fail
  refine Calls.mono (filled_F il 2 l1 c1 a1 xs _ (by omega) (by omega) HL1.out hl1 (row8_below HX1.out HW.out)) ?_
  rintro e V0 ⟨va, q1, rfl, hf1, hv0⟩
  have HFA : Hid (FilW V0 W.heap.size va il 2 q1 (filF 2 xs)) := hf1
  have HB2 : Hid (Below w.heap.size w V0) := HW.out.trans (hv0.mono HW.out.size)
  have HPX : Hid _ := heap_later HPB.out hv0
  obtain ⟨aa, ca, rfl⟩ := hf1.slice
  clear hf1 hv0 k0
  have k0 := cellAt HPX.out 0 _ rfl
  have k1 := cellAt HPX.out 1 _ rfl
  have k2 := cellAt HPX.out 2 _ rfl
  have k3 := cellAt HPX.out 3 _ rfl
  go_wp2_with fail
  refine Calls.mono (new_ok 0 (fun _ _ => 0) ia oa sa il ic ol oc sl sc rg 2 ins outs ss _ (E 6) (HP.out.below HB2.out) (HE.out.below HB2.out).prog HF.out (by omega) (by omega)) ?_
  rintro e V1 ⟨mba, Fda, ia1, ic1, oa1, oc1, sa1, sc1, rfl, hma, hv1⟩
  have HMA1 : Hid _ := hma
  have HV1 : Hid (Below V0.heap.size V0 V1) := hv1
  have HB3 : Hid (Below w.heap.size w V1) := HB2.out.trans (hv1.mono HB2.out.size)
  have HPX1 : Hid _ := heap_later HPX.out hv1
  clear hma hv1 k0 k1 k2 k3
  have k0 := cellAt HPX1.out 0 _ rfl
  have k1 := cellAt HPX1.out 1 _ rfl
  have k2 := cellAt HPX1.out 2 _ rfl
  have k3 := cellAt HPX1.out 3 _ rfl
  go_wp2_with fail
  refine Calls.mono (new_ok 0 (fun _ _ => 0) ia oa sa il ic ol oc sl sc rg 2 ins outs ss _ (E 6) (HP.out.below HB3.out) (HE.out.below HB3.out).prog HF.out (by omega) (by omega)) ?_
  rintro e V2 ⟨mbb, Fdb, ia2, ic2, oa2, oc2, sa2, sc2, rfl, hmb, hv2⟩
  have HMB2 : Hid _ := hmb
  have HV2 : Hid (Below V1.heap.size V1 V2) := hv2
  have HB4 : Hid (Below w.heap.size w V2) := HB3.out.trans (hv2.mono HB3.out.size)
  have HPX2 : Hid _ := heap_later HPX1.out hv2
  clear hmb hv2 k0 k1 k2 k3
  have k0 := cellAt HPX2.out 0 _ rfl
  have k1 := cellAt HPX2.out 1 _ rfl
  have k2 := cellAt HPX2.out 2 _ rfl
  have k3 := cellAt HPX2.out 3 _ rfl
  obtain ⟨LA, hLA⟩ : ∃ LA : List (List F), LA = (List.range il).map fun i => rowF 2 (filF 2 xs i) := ⟨_, rfl⟩
  have HV02 : Hid (Below V0.heap.size V0 V2) := HV1.out.trans (HV2.out.mono HV1.out.size)
  have HRLA : Hid (Rows8 V2 aa LA) := by show Rows8 ..; rw [hLA]; exact (HFA.out.below HV02.out).rows
  have HLNLA : Hid (∀ xs ∈ LA, xs.length = 2) := fun x hx => by rw [hLA] at hx; obtain ⟨i, _, rfl⟩ := List.mem_map.1 hx; exact rowF_len _ _
  have HLALN : Hid (il = LA.length) := by show _ = _; rw [hLA]; simp
  have HLAE : Hid (LA = (List.range il).map fun i => rowF 2 (filF 2 xs i)) := hLA
  clear hLA
  go_wp2_with fail
  refine Calls.mono (do_F ia oa sa aa il ic ol oc sl sc rg 2 il ca ins outs ss LA _ (E 6) (E 4) (HP.out.below HB4.out) (HE.out.below HB4.out).prog (HE.out.below HB4.out).data HF.out (by omega) (by omega) HLALN.out rfl (fun xs9 h9 => by rw [HLNLA.out xs9 h9]; decide) HRLA.out) ?_
  rintro e V3 ⟨hres, hv3⟩
  rcases hres with ⟨_, G, qs, cs, rfl, ho, hG⟩ | ⟨hbad, _⟩
  rotate_left
  · exact absurd HLNLA.out hbad
  have HO : Hid (OutL V3 G ol 2 qs cs (inX LA) ss ol) := ho
  have HGH : Hid (V2.heap.size ≤ G) := hG
  have HV3 : Hid (Below V2.heap.size V2 V3) := hv3
  have HB5 : Hid (Below w.heap.size w V3) := HB4.out.trans (hv3.mono HB4.out.size)
  have HPX3 : Hid _ := heap_later HPX2.out hv3
  clear ho hG hv3 k0 k1 k2 k3
  have k1 := cellAt HPX3.out 1 _ rfl
  obtain ⟨lo, hlo⟩ : ∃ lo, lo = V0.heap.size := ⟨_, rfl⟩
  obtain ⟨hi, hhi⟩ : ∃ hi, hi = V2.heap.size := ⟨_, rfl⟩
  obtain ⟨N, hN⟩ : ∃ N, N = V3.heap.size := ⟨_, rfl⟩
  have z1 := HV1.out.size
  have z2 := HV2.out.size
  have z3 := HV3.out.size
  have y1 := ltHeap HMA1.out.blk
  have y2 := ltHeap HMA1.out.fed
  have y3 := ltHeap HMB2.out.blk
  have y4 := ltHeap HMB2.out.fed
  have x1 := HMA1.out.hmb
  have x2 := HMA1.out.hFd
  have x3 := HMB2.out.hmb
  have x4 := HMB2.out.hFd
  have HRA : Hid ((lo ≤ mba ∧ mba < hi) ∧ (lo ≤ Fda ∧ Fda < hi)) := by show _ ∧ _; omega
  have HRB : Hid ((lo ≤ mbb ∧ mbb < hi) ∧ (lo ≤ Fdb ∧ Fdb < hi)) := by show _ ∧ _; omega
  have HNE : Hid (mba ≠ mbb ∧ mba ≠ Fdb ∧ Fda ≠ mbb ∧ Fda ≠ Fdb) := by show _ ∧ _; omega
  have HNN : Hid (hi ≤ N) := by show _ ≤ _; omega
  have HLO : Hid (V0.heap.size ≤ lo) := by show _ ≤ _; omega
  have HWL : Hid (w.heap.size ≤ lo ∧ w.heap.size ≤ V3.heap.size) := by have := HB2.out.size; have := HB5.out.size; show _ ∧ _; omega
  have HGG : Hid (hi ≤ G) := by have := HGH.out; show _ ≤ _; omega
  have HNE3 : Hid (N = V3.heap.size) := hN
  have HMA0 : Hid (MacW N V0.heap.size V3 mba Fda ia1 oa1 sa1 il ic1 ol oc1 sl sc1 rg 2 ins outs ss (fun _ => none) (fun _ _ => 0) false (.slice none 0 0)) := ((HMA1.out.below HV2.out).below HV3.out).reN
  have HMB0 : Hid (MacW N V1.heap.size V3 mbb Fdb ia2 oa2 sa2 il ic2 ol oc2 sl sc2 rg 2 ins outs ss (fun _ => none) (fun _ _ => 0) false (.slice none 0 0)) := (HMB2.out.below HV3.out).reN
  have HV03 : Hid (Below V0.heap.size V0 V3) := HV02.out.trans (HV3.out.mono (by omega))
  clear hlo hhi hN z1 z2 z3 y1 y2 y3 y4 x1 x2 x3 x4 HMA1 HMB2 HGH HRLA
  have k0 := cellAt HPX3.out 0 _ rfl
  go_wp2
  clear k0 k1
  go_loopw [84] (fun i wr => ∃ (k : Nat) (fda fdb : Nat → Option (Option Addr × Nat)) (Xa Xb : Int → Nat → F), k ≤ il ∧ i = .int .i64 k ∧ MacW N V0.heap.size wr mba Fda ia1 oa1 sa1 il ic1 ol oc1 sl sc1 rg 2 ins outs ss fda Xa false (.slice none 0 0) ∧ MacW N V1.heap.size wr mbb Fdb ia2 oa2 sa2 il ic2 ol oc2 sl sc2 rg 2 ins outs ss fdb Xb false (.slice none 0 0) ∧ (∀ i : Nat, (fda i).isSome = decide (i < k)) ∧ (∀ i : Nat, i < k → Xa (i : Int) = inX LA (i : Int)) ∧ (∀ i : Nat, i < il → (fdb i).isSome = decide (il - k ≤ i)) ∧ (∀ i : Nat, il - k ≤ i → i < il → Xb (i : Int) = inX LA (i : Int)) ∧ Kp lo hi V3 wr) (fun i _ => il - (intOf i).toNat)
  case atStart => exact ⟨0, _, _, _, _, Nat.zero_le _, rfl, HMA0.out, HMB0.out, fun i => by simp, fun i hi => absurd hi (Nat.not_lt_zero _), fun i hi => by simp; omega, fun i h1 h2 => by omega, Kp.refl _ _ _⟩
  case round =>
    obtain ⟨k, fda, fdb, Xa, Xb, hk, rfl, hma, hmb, hfa, hxa, hfb, hxb, hkp⟩ := hrel
    have HMA : Hid _ := hma
    have HMB : Hid _ := hmb
    have HFAS : Hid (∀ i : Nat, (fda i).isSome = decide (i < k)) := hfa
    have HXAS : Hid (∀ i : Nat, i < k → Xa (i : Int) = inX LA (i : Int)) := hxa
    have HFBS : Hid (∀ i : Nat, i < il → (fdb i).isSome = decide (il - k ≤ i)) := hfb
    have HXBS : Hid (∀ i : Nat, il - k ≤ i → i < il → Xb (i : Int) = inX LA (i : Int)) := hxb
    have HKP : Hid (Kp lo hi V3 wr) := hkp
    clear hma hmb hfa hxa hfb hxb hkp HMA0 HMB0
    by_cases hlt : k < il
    · obtain ⟨m, hm⟩ : ∃ m, m = il - 1 - k := ⟨_, rfl⟩
      have hml : m < il := by omega
      have hki : k < ins.length := by rw [← HP.out.eil]; exact hlt
      have hmi : m < ins.length := by rw [← HP.out.eil]; exact hml
      obtain ⟨bi, offi, rfl, hbi, hci⟩ := rowI_cell HP.out.I hki
      have hc1 := hci k hki
      have hc2 := hci m hmi
      obtain ⟨xk, hxk⟩ : ∃ x, x = ins.getD k 0 := ⟨_, rfl⟩
      obtain ⟨xm, hxm⟩ : ∃ x, x = ins.getD m 0 := ⟨_, rfl⟩
      rw [← hxk] at hc1
      rw [← hxm] at hc2
      have HIK : Hid (ins[k]? = some xk) := by show _ = _; rw [hxk, List.getD_eq_getElem?_getD, List.getElem?_eq_getElem hki]; rfl
      have HIM : Hid (ins[m]? = some xm) := by show _ = _; rw [hxm, List.getD_eq_getElem?_getD, List.getElem?_eq_getElem hmi]; rfl
      obtain ⟨ga1, cs1, rfl, hga1, hcs1, hBga⟩ := HFA.out.cell hlt
      obtain ⟨ga2, cs2, e2, hga2, hcs2, _⟩ := HFA.out.cell hml
      obtain rfl : ga1 = ga2 := by cases e2; rfl
      have HC1 : Hid (w.cell? ⟨bi, offi + k, none⟩ = some (.int .i64 xk)) := hc1
      have HC2 : Hid (w.cell? ⟨bi, offi + m, none⟩ = some (.int .i64 xm)) := hc2
      have HKQ : Hid (Kp lo hi V3 wr) := HKP.out
      have PB0 : Hid (∀ u, Kp lo hi wr u → u.cell? ⟨w.heap.size, 0, none⟩ = some (.slice (some ⟨bi, offi, none⟩) il ic)) := fun u hu => cellAt (hu.heap (HKP.out.heap HPX3.out (.inl (by have := HWL.out.1; have := ltHeap HPX.out; have := HLO.out; omega))) (.inl (by have := ltHeap HPX.out; have := HLO.out; omega))) 0 _ rfl
      have HKB : Hid (∀ u, Kp lo hi wr u → Below w.heap.size w u) := fun u hu => hu.low (HKP.out.low HB5.out HWL.out.1 HWL.out.2) HWL.out.1 (Nat.le_trans HWL.out.2 HKP.out.size)
      have PC1 : Hid (∀ u, Kp lo hi wr u → u.cell? ⟨bi, offi + k, none⟩ = some (.int .i64 xk)) := fun u hu => cell_later (HKB.out u hu) HC1.out
      have PC2 : Hid (∀ u, Kp lo hi wr u → u.cell? ⟨bi, offi + m, none⟩ = some (.int .i64 xm)) := fun u hu => cell_later (HKB.out u hu) HC2.out
      have hga3 := heap_later hga1 HV03.out
      have HGA : Hid (∀ u, Kp lo hi wr u → u.heap[ga1]? = some (.cells cs1 26 (0, 0))) := fun u hu => hu.heap (HKP.out.heap hga3 (.inl (by have := ltHeap hga1; have := HLO.out; omega))) (.inl (by have := ltHeap hga1; have := HLO.out; omega))
      have hcs2' : cs1[m]? = some (.slice (some ⟨q1 m, 0, none⟩) 2 2) := by
        rw [hga1] at hga2
        injection hga2 with h9
        injection h9 with h9 _ _
        rw [h9]; exact hcs2
      have PA1 : Hid (∀ u, Kp lo hi wr u → u.cell? ⟨ga1, k, none⟩ = some (.slice (some ⟨q1 k, 0, none⟩) 2 2)) := fun u hu => cellAt (HGA.out u hu) k _ hcs1
      have PA2 : Hid (∀ u, Kp lo hi wr u → u.cell? ⟨ga1, m, none⟩ = some (.slice (some ⟨q1 m, 0, none⟩) 2 2)) := fun u hu => cellAt (HGA.out u hu) m _ hcs2'
      have HROW : Hid (∀ u, Kp lo hi wr u → ∀ i, i < il → Row8 u (some ⟨q1 i, 0, none⟩) (rowF 2 (filF 2 xs i))) := fun u hu i hi9 => row8_own (hu.heap (HKP.out.heap (heap_later (HFA.out.row i hi9) HV03.out) (.inl (by have := ltHeap (HFA.out.row i hi9); have := HLO.out; omega))) (.inl (by have := ltHeap (HFA.out.row i hi9); have := HLO.out; omega)))
      have tw1 : IntKind.i64.wrap ((il : Int) - 1) = (il : Int) - 1 := by rw [IntKind.wrap_i64]; omega
      have tw2 : IntKind.i64.wrap ((il : Int) - 1 - (k : Int)) = (m : Int) := by rw [IntKind.wrap_i64]; omega
      have HME : Hid (m = il - 1 - k) := hm
      clear hki hmi hbi hci hc1 hc2 hxk hxm hga1 hcs1 hga2 hcs2 hcs2' hga3 hBga e2 hm
      go_wp2
      refine wp_region_noPanic ?_
      refine wp_region_held_drew (S := fun u => Kp lo hi wr u) (by kernel_rfl) ?_ (fun hHeld => ?_)
      · exact ⟨rfl, rfl, rfl, Nat.le_refl _, fun _ _ _ => rfl⟩
      obtain ⟨X0, hX0⟩ : ∃ X, X = wr.drew := ⟨_, rfl⟩
      have K0 : Kp lo hi wr X0 := by rw [hX0]; exact ⟨rfl, rfl, rfl, Nat.le_refl _, fun _ _ _ => rfl⟩
      have HMAD : Hid (MacW N V0.heap.size X0 mba Fda ia1 oa1 sa1 il ic1 ol oc1 sl sc1 rg 2 ins outs ss fda Xa false (.slice none 0 0)) := by show MacW ..; rw [hX0]; exact HMA.out.below (Below.refl _ wr).drew
      have HMBD : Hid (MacW N V1.heap.size X0 mbb Fdb ia2 oa2 sa2 il ic2 ol oc2 sl sc2 rg 2 ins outs ss fdb Xb false (.slice none 0 0)) := by show MacW ..; rw [hX0]; exact HMB.out.below (Below.refl _ wr).drew
      have HFAK : Hid (fda k = none) := by have := HFAS.out k; simp at this; exact this
      have HFBM : Hid (fdb m = none) := by
        have h9 := HFBS.out m hml
        rw [decide_eq_false (by have := HME.out; omega)] at h9
        show _ = _
        simpa using h9
      rw [← hX0] at hHeld ⊢
      clear hX0
      refine wpAnyH_take (i := 0) (oi := { dst := some 87, op := Op.move (Operand.tmp 6), type := 31, pos := "more.go:27", after := #[], guard := none }) (v := ?_) rfl (by kernel_rfl) (by kernel_rfl) (by kernel_rfl) (fun _ _ _ h => h) (Or.inl ⟨by rfl, ?_⟩) hHeld ?_
      rotate_left
      · intro u hSw
        go_simp
        try with_reducible rfl
      try simp only [Act.put, List.setIfInBounds_toArray, List.set_cons_zero, List.set_cons_succ]
      refine wpAnyH_take (i := 1) (oi := { dst := some 88, op := Op.fieldAddr 25 (Operand.tmp 2) 0, type := 0, pos := "more.go:27", after := #[], guard := none }) (v := ?_) rfl (by kernel_rfl) (by kernel_rfl) (by kernel_rfl) (fun _ _ _ h => h) (Or.inl ⟨by rfl, ?_⟩) hHeld ?_
      rotate_left
      · intro u hSw
        go_simp
        try with_reducible rfl
      try simp only [Act.put, List.setIfInBounds_toArray, List.set_cons_zero, List.set_cons_succ]
      refine wpAnyH_take (i := 2) (oi := { dst := some 89, op := Op.load 22 (Operand.tmp 88), type := 22, pos := "more.go:27", after := #[{ on := 1, ground := Ground.data }], guard := none }) (v := ?_) rfl (by kernel_rfl) (by kernel_rfl) (by kernel_rfl) (fun _ _ _ h => h) (Or.inl ⟨by rfl, ?_⟩) hHeld ?_
      rotate_left
      · intro u hSw
        have k9 := PB0.out u hSw
        go_simp
        try with_reducible rfl
      try simp only [Act.put, List.setIfInBounds_toArray, List.set_cons_zero, List.set_cons_succ]
      refine wpAnyH_take (i := 3) (oi := { dst := some 90, op := Op.move (Operand.tmp 13), type := 3, pos := "more.go:27", after := #[], guard := none }) (v := ?_) rfl (by kernel_rfl) (by kernel_rfl) (by kernel_rfl) (fun _ _ _ h => h) (Or.inl ⟨by rfl, ?_⟩) hHeld ?_
      rotate_left
      · intro u hSw
        go_simp
        try with_reducible rfl
      try simp only [Act.put, List.setIfInBounds_toArray, List.set_cons_zero, List.set_cons_succ]
      refine wpAnyH_take (i := 4) (oi := { dst := some 91, op := Op.indexAddr 22 (Operand.tmp 89) (Operand.tmp 90), type := 0, pos := "more.go:27", after := #[{ on := 2, ground := Ground.data }, { on := 3, ground := Ground.data }], guard := none }) (v := ?_) rfl (by kernel_rfl) (by kernel_rfl) (by kernel_rfl) (fun _ _ _ h => h) (Or.inl ⟨by rfl, ?_⟩) hHeld ?_
      rotate_left
      · intro u hSw
        go_simp
        try with_reducible rfl
      try simp only [Act.put, List.setIfInBounds_toArray, List.set_cons_zero, List.set_cons_succ]
      refine wpAnyH_take (i := 5) (oi := { dst := some 92, op := Op.load 3 (Operand.tmp 91), type := 3, pos := "more.go:27", after := #[{ on := 4, ground := Ground.data }], guard := none }) (v := ?_) rfl (by kernel_rfl) (by kernel_rfl) (by kernel_rfl) (fun _ _ _ h => h) (Or.inl ⟨by rfl, ?_⟩) hHeld ?_
      rotate_left
      · intro u hSw
        have k9 := PC1.out u hSw
        go_simp
        try with_reducible rfl
      try simp only [Act.put, List.setIfInBounds_toArray, List.set_cons_zero, List.set_cons_succ]
      refine wpAnyH_take (i := 6) (oi := { dst := some 93, op := Op.move (Operand.tmp 5), type := 29, pos := "more.go:27", after := #[], guard := none }) (v := ?_) rfl (by kernel_rfl) (by kernel_rfl) (by kernel_rfl) (fun _ _ _ h => h) (Or.inl ⟨by rfl, ?_⟩) hHeld ?_
      rotate_left
      · intro u hSw
        go_simp
        try with_reducible rfl
      try simp only [Act.put, List.setIfInBounds_toArray, List.set_cons_zero, List.set_cons_succ]
      refine wpAnyH_take (i := 7) (oi := { dst := some 94, op := Op.move (Operand.tmp 13), type := 3, pos := "more.go:27", after := #[], guard := none }) (v := ?_) rfl (by kernel_rfl) (by kernel_rfl) (by kernel_rfl) (fun _ _ _ h => h) (Or.inl ⟨by rfl, ?_⟩) hHeld ?_
      rotate_left
      · intro u hSw
        go_simp
        try with_reducible rfl
      try simp only [Act.put, List.setIfInBounds_toArray, List.set_cons_zero, List.set_cons_succ]
      refine wpAnyH_take (i := 8) (oi := { dst := some 95, op := Op.indexAddr 29 (Operand.tmp 93) (Operand.tmp 94), type := 0, pos := "more.go:27", after := #[{ on := 6, ground := Ground.data }, { on := 7, ground := Ground.data }], guard := none }) (v := ?_) rfl (by kernel_rfl) (by kernel_rfl) (by kernel_rfl) (fun _ _ _ h => h) (Or.inl ⟨by rfl, ?_⟩) hHeld ?_
      rotate_left
      · intro u hSw
        go_simp
        try with_reducible rfl
      try simp only [Act.put, List.setIfInBounds_toArray, List.set_cons_zero, List.set_cons_succ]
      refine wpAnyH_take (i := 9) (oi := { dst := some 96, op := Op.load 26 (Operand.tmp 95), type := 26, pos := "more.go:27", after := #[{ on := 8, ground := Ground.data }], guard := none }) (v := ?_) rfl (by kernel_rfl) (by kernel_rfl) (by kernel_rfl) (fun _ _ _ h => h) (Or.inl ⟨by rfl, ?_⟩) hHeld ?_
      rotate_left
      · intro u hSw
        have k9 := PA1.out u hSw
        go_simp
        try with_reducible rfl
      try simp only [Act.put, List.setIfInBounds_toArray, List.set_cons_zero, List.set_cons_succ]
      refine wpAnyH_ready (rs := [10]) (by kernel_rfl) (by simp) ?_
      refine (AllReadyH.cons (o := { dst := some 97, op := Op.call { callee := Callee.value (Operand.func 12), args := #[Operand.tmp 87, Operand.tmp 92, Operand.tmp 96], argTypes := #[31, 3, 26] }, type := 33, pos := "more.go:27", after := #[{ on := 0, ground := Ground.data }, { on := 5, ground := Ground.data }, { on := 9, ground := Ground.data }], guard := none }) rfl (fun K hK => ?_) AllReadyH.nil)
      go_simp
      refine Calls.mono (feed_ok HMAD.out xk k 2 _ _ (rowF 2 (filF 2 xs k)) HIK.out HFAK.out (rowF_len _ _).symm rfl (HROW.out X0 K0 k hlt)) ?_
      rintro e X1 ⟨qa, cqa, rfl, hma, hga⟩
      have K1 : Kp lo hi wr X1 := K0.grown hga HRA.out.2
      have hmb1 := HMBD.out.grown hga HMAD.out.fed (by decide) (by decide) (by decide) HNE.out.2.2.1 HNE.out.2.2.2 (Nat.lt_of_lt_of_le HRA.out.2.2 HNN.out)
      go_wp2_with fail
      refine hK.out _ _ ?_ (fun hHeld => ?_)
      · exact K1
      clear hK K
      try simp only [Act.put, List.setIfInBounds_toArray, List.set_cons_zero, List.set_cons_succ]
      refine wpAnyH_take (i := 11) (oi := { dst := some 98, op := Op.binOp BinOp.neq 33 (Operand.tmp 97) (Operand.const Value.nilIface) 33, type := 4, pos := "more.go:27", after := #[{ on := 10, ground := Ground.data }], guard := none }) (v := ?_) rfl (by kernel_rfl) (by kernel_rfl) (by kernel_rfl) (fun _ _ _ h => h) (Or.inl ⟨by rfl, ?_⟩) hHeld ?_
      rotate_left
      · intro u hSw
        go_simp
        try with_reducible rfl
      try simp only [Act.put, List.setIfInBounds_toArray, List.set_cons_zero, List.set_cons_succ]
      refine wpAnyH_take (i := 12) (oi := { dst := some 99, op := Op.move (Operand.tmp 98), type := 4, pos := "more.go:27", after := #[{ on := 11, ground := Ground.data }, { on := 10, ground := Ground.chain }], guard := none }) (v := ?_) rfl (by kernel_rfl) (by kernel_rfl) (by kernel_rfl) (fun _ _ _ h => h) (Or.inl ⟨by rfl, ?_⟩) hHeld ?_
      rotate_left
      · intro u hSw
        go_simp
        try with_reducible rfl
      try simp only [Act.put, List.setIfInBounds_toArray, List.set_cons_zero, List.set_cons_succ]
      refine wpAnyH_take (i := 13) (oi := { dst := some 100, op := Op.move (Operand.tmp 8), type := 31, pos := "more.go:27", after := #[{ on := 12, ground := Ground.guard }], guard := some (12, false) }) (v := ?_) rfl (by kernel_rfl) (by kernel_rfl) (by kernel_rfl) (fun _ _ _ h => h) (Or.inl ⟨by rfl, ?_⟩) hHeld ?_
      rotate_left
      · intro u hSw
        go_simp
        try with_reducible rfl
      try simp only [Act.put, List.setIfInBounds_toArray, List.set_cons_zero, List.set_cons_succ]
      refine wpAnyH_take (i := 14) (oi := { dst := some 101, op := Op.fieldAddr 25 (Operand.tmp 2) 0, type := 0, pos := "more.go:27", after := #[{ on := 12, ground := Ground.guard }], guard := some (12, false) }) (v := ?_) rfl (by kernel_rfl) (by kernel_rfl) (by kernel_rfl) (fun _ _ _ h => h) (Or.inl ⟨by rfl, ?_⟩) hHeld ?_
      rotate_left
      · intro u hSw
        go_simp
        try with_reducible rfl
      try simp only [Act.put, List.setIfInBounds_toArray, List.set_cons_zero, List.set_cons_succ]
      refine wpAnyH_take (i := 15) (oi := { dst := some 102, op := Op.load 22 (Operand.tmp 101), type := 22, pos := "more.go:27", after := #[{ on := 14, ground := Ground.data }, { on := 12, ground := Ground.guard }], guard := some (12, false) }) (v := ?_) rfl (by kernel_rfl) (by kernel_rfl) (by kernel_rfl) (fun _ _ _ h => h) (Or.inl ⟨by rfl, ?_⟩) hHeld ?_
      rotate_left
      · intro u hSw
        have k9 := PB0.out u hSw
        go_simp
        try with_reducible rfl
      try simp only [Act.put, List.setIfInBounds_toArray, List.set_cons_zero, List.set_cons_succ]
      refine wpAnyH_take (i := 16) (oi := { dst := some 103, op := Op.move (Operand.tmp 12), type := 3, pos := "more.go:27", after := #[{ on := 12, ground := Ground.guard }], guard := some (12, false) }) (v := ?_) rfl (by kernel_rfl) (by kernel_rfl) (by kernel_rfl) (fun _ _ _ h => h) (Or.inl ⟨by rfl, ?_⟩) hHeld ?_
      rotate_left
      · intro u hSw
        go_simp
        try with_reducible rfl
      try simp only [Act.put, List.setIfInBounds_toArray, List.set_cons_zero, List.set_cons_succ]
      refine wpAnyH_take (i := 17) (oi := { dst := some 104, op := Op.binOp BinOp.sub 3 (Operand.tmp 103) (Operand.const (Value.int IntKind.i64 1)) 3, type := 3, pos := "more.go:27", after := #[{ on := 16, ground := Ground.data }, { on := 12, ground := Ground.guard }], guard := some (12, false) }) (v := ?_) rfl (by kernel_rfl) (by kernel_rfl) (by kernel_rfl) (fun _ _ _ h => h) (Or.inl ⟨by rfl, ?_⟩) hHeld ?_
      rotate_left
      · intro u hSw
        go_simp
        try with_reducible rfl
      try simp only [Act.put, List.setIfInBounds_toArray, List.set_cons_zero, List.set_cons_succ]
      refine wpAnyH_take (i := 18) (oi := { dst := some 105, op := Op.move (Operand.tmp 13), type := 3, pos := "more.go:27", after := #[{ on := 12, ground := Ground.guard }], guard := some (12, false) }) (v := ?_) rfl (by kernel_rfl) (by kernel_rfl) (by kernel_rfl) (fun _ _ _ h => h) (Or.inl ⟨by rfl, ?_⟩) hHeld ?_
      rotate_left
      · intro u hSw
        go_simp
        try with_reducible rfl
      try simp only [Act.put, List.setIfInBounds_toArray, List.set_cons_zero, List.set_cons_succ]
      refine wpAnyH_take (i := 19) (oi := { dst := some 106, op := Op.binOp BinOp.sub 3 (Operand.tmp 104) (Operand.tmp 105) 3, type := 3, pos := "more.go:27", after := #[{ on := 17, ground := Ground.data }, { on := 18, ground := Ground.data }, { on := 12, ground := Ground.guard }], guard := some (12, false) }) (v := ?_) rfl (by kernel_rfl) (by kernel_rfl) (by kernel_rfl) (fun _ _ _ h => h) (Or.inl ⟨by rfl, ?_⟩) hHeld ?_
      rotate_left
      · intro u hSw
        go_simp
        try with_reducible rfl
      try simp only [Act.put, List.setIfInBounds_toArray, List.set_cons_zero, List.set_cons_succ]
      refine wpAnyH_take (i := 20) (oi := { dst := some 107, op := Op.indexAddr 22 (Operand.tmp 102) (Operand.tmp 106), type := 0, pos := "more.go:27", after := #[{ on := 15, ground := Ground.data }, { on := 19, ground := Ground.data }, { on := 12, ground := Ground.guard }], guard := some (12, false) }) (v := ?_) rfl (by kernel_rfl) (by kernel_rfl) (by kernel_rfl) (fun _ _ _ h => h) (Or.inl ⟨by rfl, ?_⟩) hHeld ?_
      rotate_left
      · intro u hSw
        go_simp
        try with_reducible rfl
      try simp only [Act.put, List.setIfInBounds_toArray, List.set_cons_zero, List.set_cons_succ]
      refine wpAnyH_take (i := 21) (oi := { dst := some 108, op := Op.load 3 (Operand.tmp 107), type := 3, pos := "more.go:27", after := #[{ on := 20, ground := Ground.data }, { on := 12, ground := Ground.guard }], guard := some (12, false) }) (v := ?_) rfl (by kernel_rfl) (by kernel_rfl) (by kernel_rfl) (fun _ _ _ h => h) (Or.inl ⟨by rfl, ?_⟩) hHeld ?_
      rotate_left
      · intro u hSw
        have k9 := PC2.out u hSw
        go_simp
        try with_reducible rfl
      try simp only [Act.put, List.setIfInBounds_toArray, List.set_cons_zero, List.set_cons_succ]
      refine wpAnyH_take (i := 22) (oi := { dst := some 109, op := Op.move (Operand.tmp 5), type := 29, pos := "more.go:27", after := #[{ on := 12, ground := Ground.guard }], guard := some (12, false) }) (v := ?_) rfl (by kernel_rfl) (by kernel_rfl) (by kernel_rfl) (fun _ _ _ h => h) (Or.inl ⟨by rfl, ?_⟩) hHeld ?_
      rotate_left
      · intro u hSw
        go_simp
        try with_reducible rfl
      try simp only [Act.put, List.setIfInBounds_toArray, List.set_cons_zero, List.set_cons_succ]
      refine wpAnyH_take (i := 23) (oi := { dst := some 110, op := Op.move (Operand.tmp 12), type := 3, pos := "more.go:27", after := #[{ on := 12, ground := Ground.guard }], guard := some (12, false) }) (v := ?_) rfl (by kernel_rfl) (by kernel_rfl) (by kernel_rfl) (fun _ _ _ h => h) (Or.inl ⟨by rfl, ?_⟩) hHeld ?_
      rotate_left
      · intro u hSw
        go_simp
        try with_reducible rfl
      try simp only [Act.put, List.setIfInBounds_toArray, List.set_cons_zero, List.set_cons_succ]
      refine wpAnyH_take (i := 24) (oi := { dst := some 111, op := Op.binOp BinOp.sub 3 (Operand.tmp 110) (Operand.const (Value.int IntKind.i64 1)) 3, type := 3, pos := "more.go:27", after := #[{ on := 23, ground := Ground.data }, { on := 12, ground := Ground.guard }], guard := some (12, false) }) (v := ?_) rfl (by kernel_rfl) (by kernel_rfl) (by kernel_rfl) (fun _ _ _ h => h) (Or.inl ⟨by rfl, ?_⟩) hHeld ?_
      rotate_left
      · intro u hSw
        go_simp
        try with_reducible rfl
      try simp only [Act.put, List.setIfInBounds_toArray, List.set_cons_zero, List.set_cons_succ]
      refine wpAnyH_take (i := 25) (oi := { dst := some 112, op := Op.move (Operand.tmp 13), type := 3, pos := "more.go:27", after := #[{ on := 12, ground := Ground.guard }], guard := some (12, false) }) (v := ?_) rfl (by kernel_rfl) (by kernel_rfl) (by kernel_rfl) (fun _ _ _ h => h) (Or.inl ⟨by rfl, ?_⟩) hHeld ?_
      rotate_left
      · intro u hSw
        go_simp
        try with_reducible rfl
      try simp only [Act.put, List.setIfInBounds_toArray, List.set_cons_zero, List.set_cons_succ]
      refine wpAnyH_take (i := 26) (oi := { dst := some 113, op := Op.binOp BinOp.sub 3 (Operand.tmp 111) (Operand.tmp 112) 3, type := 3, pos := "more.go:27", after := #[{ on := 24, ground := Ground.data }, { on := 25, ground := Ground.data }, { on := 12, ground := Ground.guard }], guard := some (12, false) }) (v := ?_) rfl (by kernel_rfl) (by kernel_rfl) (by kernel_rfl) (fun _ _ _ h => h) (Or.inl ⟨by rfl, ?_⟩) hHeld ?_
      rotate_left
      · intro u hSw
        go_simp
        try with_reducible rfl
      try simp only [Act.put, List.setIfInBounds_toArray, List.set_cons_zero, List.set_cons_succ]
      refine wpAnyH_take (i := 27) (oi := { dst := some 114, op := Op.indexAddr 29 (Operand.tmp 109) (Operand.tmp 113), type := 0, pos := "more.go:27", after := #[{ on := 22, ground := Ground.data }, { on := 26, ground := Ground.data }, { on := 12, ground := Ground.guard }], guard := some (12, false) }) (v := ?_) rfl (by kernel_rfl) (by kernel_rfl) (by kernel_rfl) (fun _ _ _ h => h) (Or.inl ⟨by rfl, ?_⟩) hHeld ?_
      rotate_left
      · intro u hSw
        go_simp
        try with_reducible rfl
      try simp only [Act.put, List.setIfInBounds_toArray, List.set_cons_zero, List.set_cons_succ]
      refine wpAnyH_take (i := 28) (oi := { dst := some 115, op := Op.load 26 (Operand.tmp 114), type := 26, pos := "more.go:27", after := #[{ on := 27, ground := Ground.data }, { on := 12, ground := Ground.guard }], guard := some (12, false) }) (v := ?_) rfl (by kernel_rfl) (by kernel_rfl) (by kernel_rfl) (fun _ _ _ h => h) (Or.inl ⟨by rfl, ?_⟩) hHeld ?_
      rotate_left
      · intro u hSw
        have k9 := PA2.out u hSw
        go_simp
        try with_reducible rfl
      try simp only [Act.put, List.setIfInBounds_toArray, List.set_cons_zero, List.set_cons_succ]
      refine wpAnyH_ready (rs := [29]) (by kernel_rfl) (by simp) ?_
      refine (AllReadyH.cons (o := { dst := some 116, op := Op.call { callee := Callee.value (Operand.func 12), args := #[Operand.tmp 100, Operand.tmp 108, Operand.tmp 115], argTypes := #[31, 3, 26] }, type := 33, pos := "more.go:27", after := #[{ on := 13, ground := Ground.data }, { on := 21, ground := Ground.data }, { on := 28, ground := Ground.data }, { on := 12, ground := Ground.chain }, { on := 12, ground := Ground.guard }], guard := some (12, false) }) rfl (fun K hK => ?_) AllReadyH.nil)
      go_simp
      refine Calls.mono (feed_ok hmb1 xm m 2 _ _ (rowF 2 (filF 2 xs m)) HIM.out HFBM.out (rowF_len _ _).symm rfl (HROW.out X1 K1 m hml)) ?_
      rintro e X2 ⟨qb, cqb, rfl, hmb2, hgb⟩
      have K2 : Kp lo hi wr X2 := K1.grown hgb HRB.out.2
      have hma2 := hma.grown hgb hmb1.fed (by decide) (by decide) (by decide) HNE.out.2.1.symm HNE.out.2.2.2.symm (Nat.lt_of_lt_of_le HRB.out.2.2 HNN.out)
      go_wp2_with fail
      refine hK.out _ _ ?_ (fun hHeld => ?_)
      · exact K2
      clear hK K
      try simp only [Act.put, List.setIfInBounds_toArray, List.set_cons_zero, List.set_cons_succ]
      refine wpAnyH_take (i := 30) (oi := { dst := some 117, op := Op.binOp BinOp.neq 33 (Operand.tmp 116) (Operand.const Value.nilIface) 33, type := 4, pos := "more.go:27", after := #[{ on := 29, ground := Ground.data }, { on := 12, ground := Ground.guard }], guard := some (12, false) }) (v := ?_) rfl (by kernel_rfl) (by kernel_rfl) (by kernel_rfl) (fun _ _ _ h => h) (Or.inl ⟨by rfl, ?_⟩) hHeld ?_
      rotate_left
      · intro u hSw
        go_simp
        try with_reducible rfl
      try simp only [Act.put, List.setIfInBounds_toArray, List.set_cons_zero, List.set_cons_succ]
      refine wpAnyH_take (i := 31) (oi := { dst := some 118, op := Op.pick (Operand.tmp 99) (Operand.const (Value.bool true)) (Operand.tmp 117), type := 4, pos := "more.go:27", after := #[{ on := 12, ground := Ground.data }, { on := 30, ground := Ground.data }], guard := none }) (v := ?_) rfl (by kernel_rfl) (by kernel_rfl) (by kernel_rfl) (fun _ _ _ h => h) (Or.inl ⟨by rfl, ?_⟩) hHeld ?_
      rotate_left
      · intro u hSw
        go_simp
        try with_reducible rfl
      try simp only [Act.put, List.setIfInBounds_toArray, List.set_cons_zero, List.set_cons_succ]
      refine wpAnyH_done (by kernel_rfl) ?_ _
      refine NoPanic.normal ?_
      have HMA2 : Hid _ := hma2
      have HMB2 : Hid _ := hmb2
      have HK2 : Hid (Kp lo hi V3 X2) := HKP.out.trans K2
      clear hma2 hmb2 K2 K1 K0 hHeld hma hmb1
      go_wp2
      refine ⟨⟨k + 1, _, _, _, _, by omega, by go_num, HMA2.out, HMB2.out, fun i => ?_, fun i hi9 => ?_, fun i hi9 => ?_, fun i h1 h2 => ?_, HK2.out⟩, by simp [intOf]; omega⟩
      · by_cases e : i = k
        · subst e; simp
        · simp only [e, if_false]
          rw [HFAS.out]
          by_cases e2 : i < k
          · rw [decide_eq_true e2, decide_eq_true (by omega)]
          · rw [decide_eq_false e2, decide_eq_false (by omega)]
      · by_cases e : i = k
        · subst e; simp only [if_true]; exact (inX_eq (by rw [HLAE.out]; simp [hlt])).symm
        · rw [if_neg (show (i : Int) ≠ (k : Int) by omega)]; exact HXAS.out i (by omega)
      · have hmm := HME.out
        by_cases e : i = m
        · subst e; simp; omega
        · simp only [e, if_false]
          rw [HFBS.out i hi9]
          by_cases e2 : il - k ≤ i
          · rw [decide_eq_true e2, decide_eq_true (by omega)]
          · rw [decide_eq_false e2, decide_eq_false (by omega)]
      · have hmm := HME.out
        by_cases e : i = m
        · subst e; simp only [if_true]; exact (inX_eq (by rw [HLAE.out]; simp [hml])).symm
        · rw [if_neg (show (i : Int) ≠ (m : Int) by omega)]; exact HXBS.out i (by omega) h2
    · obtain rfl : il = k := by omega
      have HAA : Hid (∀ i, i < il → (fda i).isSome = true) := fun i hi9 => by rw [HFAS.out]; exact decide_eq_true hi9
      have HAB : Hid (∀ i, i < il → (fdb i).isSome = true) := fun i hi9 => by rw [HFBS.out i hi9]; exact decide_eq_true (by omega)
      have HMA0 : Hid (MacW N V0.heap.size wr mba Fda ia1 oa1 sa1 il ic1 ol oc1 sl sc1 rg 2 ins outs ss fda (inX LA) false (.slice none 0 0)) := HMA.out.congrX fun i hi9 => HXAS.out i hi9
      have HMB0 : Hid (MacW N V1.heap.size wr mbb Fdb ia2 oa2 sa2 il ic2 ol oc2 sl sc2 rg 2 ins outs ss fdb (inX LA) false (.slice none 0 0)) := HMB.out.congrX fun i hi9 => HXBS.out i (by omega) hi9
      have HKP0 : Hid (Kp lo hi V3 wr) := HKP.out
      clear HMA HMB HFAS HXAS HFBS HXBS HKP
      generalize wr = V4 at *
      go_wp2
      go_loopw [120] (fun i wr => ∃ (j : Nat) (ra rb : Bool) (ova ovb : Value), j ≤ 2 ∧ i = .int .i64 j ∧ MacW N V0.heap.size wr mba Fda ia1 oa1 sa1 il ic1 ol oc1 sl sc1 rg 2 ins outs ss fda (inX LA) ra ova ∧ MacW N V1.heap.size wr mbb Fdb ia2 oa2 sa2 il ic2 ol oc2 sl sc2 rg 2 ins outs ss fdb (inX LA) rb ovb ∧ Kp lo hi V3 wr) (fun i _ => 2 - (intOf i).toNat)
      case atStart => exact ⟨0, _, _, _, _, by omega, rfl, HMA0.out, HMB0.out, HKP0.out⟩
      case round =>
        obtain ⟨j, ra, rb, ova, ovb, hj, rfl, hma, hmb, hkp⟩ := hrel
        have HMA : Hid _ := hma
        have HMB : Hid _ := hmb
        have HKP : Hid (Kp lo hi V3 wr) := hkp
        clear hma hmb hkp HMA0 HMB0 HKP0
        generalize wr = Y0 at *
        by_cases hj2 : j < 2
        · have hj3 : (j : Int) < 2 := by omega
          go_wp2_with fail
          refine Calls.mono (run_ok HMA.out HAA.out (by rw [HNE3.out]; exact HKP.out.size)) ?_
          rintro e Y1 ⟨rfl, ova1, hma1, hg1⟩
          have HKP1 : Hid (Kp lo hi V3 Y1) := HKP.out.grown hg1 HRA.out.1
          have HMB1 : Hid _ := HMB.out.grown hg1 HMA.out.blk (by decide) (by decide) (by decide) HNE.out.1 HNE.out.2.1 (Nat.lt_of_lt_of_le HRA.out.1.2 HNN.out)
          have HMA1 : Hid _ := hma1
          clear hma1 hg1
          go_wp2_with fail
          refine Calls.mono (run_ok HMB1.out HAB.out (by rw [HNE3.out]; exact HKP1.out.size)) ?_
          rintro e Y2 ⟨rfl, ovb1, hmb2, hg2⟩
          have HKP2 : Hid (Kp lo hi V3 Y2) := HKP1.out.grown hg2 HRB.out.1
          have HMA2 : Hid _ := HMA1.out.grown hg2 HMB1.out.blk (by decide) (by decide) (by decide) HNE.out.1.symm HNE.out.2.2.1.symm (Nat.lt_of_lt_of_le HRB.out.1.2 HNN.out)
          have HMB2 : Hid _ := hmb2
          have HO2 : Hid (OutL Y2 G ol 2 qs cs (inX LA) ss ol) := HKP2.out.outL HO.out HGG.out
          have HBW2 : Hid (Below w.heap.size w Y2) := HKP2.out.low HB5.out HWL.out.1 HWL.out.2
          have HPY : Hid _ := HKP2.out.heap HPX3.out (.inl (by have := ltHeap HPX.out; have := HLO.out; omega))
          have k1 := cellAt HPY.out 1 _ rfl
          clear hmb2 hg2 HMB1 HMA1 HKP1
          go_wp2
          clear k1
          go_loopw [133] (fun i wr => ∃ d : Nat, d ≤ ol ∧ i = .int .i64 d ∧ Below Y2.heap.size Y2 wr) (fun i _ => ol - (intOf i).toNat)
          case atStart => exact ⟨0, Nat.zero_le _, rfl, Below.refl _ _⟩
          case round =>
            obtain ⟨d, hd, rfl, hbr⟩ := hrel
            have HBR : Hid (Below Y2.heap.size Y2 wr) := hbr
            clear hbr
            generalize wr = Y3 at *
            by_cases hlt : d < ol
            · have hdi : d < outs.length := by rw [← HP.out.eol]; exact hlt
              have HBW3 : Hid (Below w.heap.size w Y3) := HBW2.out.trans (HBR.out.mono HBW2.out.size)
              obtain ⟨bo, offo, rfl, hbo, hco⟩ := rowI_cell (rowI_below HP.out.O HBW3.out) hdi
              have c2 := hco d hdi
              obtain ⟨x, hx⟩ : ∃ x, x = outs.getD d 0 := ⟨_, rfl⟩
              rw [← hx] at c2
              have HIX : Hid (outs[d]? = some x) := by show _ = _; rw [hx, List.getD_eq_getElem?_getD, List.getElem?_eq_getElem hdi]; rfl
              clear hbo hco hx hdi
              go_wp2_with fail
              refine Calls.mono (out_ok (HMA2.out.below HBR.out) x d HIX.out) ?_
              rintro e Z1 ⟨qx, cx, rfl, h8x, hqx, hz1⟩
              have H8X : Hid _ := h8x
              have HQX : Hid (Y3.heap.size ≤ qx) := hqx
              have HZ1 : Hid (Below Y3.heap.size Y3 Z1) := hz1
              clear h8x hqx hz1 c2
              go_wp2_with fail
              refine Calls.mono (out_ok ((HMB2.out.below HBR.out).below HZ1.out) x d HIX.out) ?_
              rintro e Z2 ⟨qy, cy, rfl, h8y, hqy, hz2⟩
              have H8X2 : Hid _ := has8_below H8X.out hz2
              have H8Y : Hid _ := h8y
              have HZ2 : Hid (Below Y2.heap.size Y2 Z2) := HBR.out.trans ((HZ1.out.mono HBR.out.size).trans (hz2.mono (Nat.le_trans HBR.out.size HZ1.out.size)))
              have ho2 := HO2.out.below HZ2.out
              have e1 := ho2.cell hlt
              have HRW : Hid _ := (has8_U (ho2.row d hlt)).row8
              clear h8y hqy hz2 ho2
              go_wp2_with fail
              refine Calls.mono (sameBytes_F (some ⟨qx, 0, none⟩) (some ⟨qy, 0, none⟩) 2 cx 2 cy _ _ _ (rowF_len _ _).symm (rowF_len _ _).symm (has8_U H8X2.out).row8 (has8_U H8Y.out).row8) ?_
              rw [eqB_true]
              rintro e wj ⟨rfl, rfl⟩
              go_wp2_with fail
              refine Calls.mono (sameBytes_F (some ⟨qx, 0, none⟩) (some ⟨qs d, 0, none⟩) 2 cx 2 (cs d) _ _ _ (rowF_len _ _).symm (rowF_len _ _).symm (has8_U H8X2.out).row8 HRW.out) ?_
              rw [eqB_true]
              rintro e wj ⟨rfl, rfl⟩
              clear e1
              go_wp2
              go_loopw [173] (fun i wr => ∃ t : Nat, t ≤ 2 ∧ i = .int .i64 t ∧ Z2.grownBy wr (some qx) ∧ ∃ ys : List F, ys.length = 2 ∧ Has8 wr qx ys cx) (fun i _ => 2 - (intOf i).toNat)
              case atStart => exact ⟨0, by omega, rfl, World.grownBy.refl _ _, _, rowF_len _ _, H8X2.out⟩
              case round =>
                obtain ⟨t, ht, rfl, hg, ys, hys, h8⟩ := hrel
                have HG : Hid (Z2.grownBy wr (some qx)) := hg
                have HYS : Hid (ys.length = 2) := hys
                by_cases ht2 : t < 2
                · obtain ⟨d1, d2⟩ := has8_cell h8 (show t < ys.length by omega)
                  have hx3 : bits .xor .u8 ((at8 ys t).toNat : Int) 3 = ((ga (at8 ys t) 3).toNat : Int) := xor_val (at8 ys t) 3
                  have HZN : Hid (Has8 (wr.setCell ⟨qx, t, none⟩ (.int .u8 ((ga (at8 ys t) 3).toNat : Int))) qx (ys.set t (ga (at8 ys t) 3)) cx) := has8_set h8 (by omega) _
                  have HGZ : Hid (Z2.grownBy (wr.setCell ⟨qx, t, none⟩ (.int .u8 ((ga (at8 ys t) 3).toNat : Int))) (some qx)) := grownBy_setCell hg _
                  clear hg hys h8
                  go_wp2
                  exact ⟨⟨t + 1, by omega, by go_num, HGZ.out, _, by rw [List.length_set]; exact HYS.out, HZN.out⟩, by simp [intOf]; omega⟩
                · obtain rfl : t = 2 := by omega
                  have HBN : Hid (Below Y2.heap.size Y2 wr) := below_grownF HZ2.out hg (Nat.le_trans HBR.out.size HQX.out) HZ2.out.size
                  clear hg hys h8
                  go_wp2
                  exact ⟨⟨d + 1, by omega, by go_num, HBN.out⟩, by simp [intOf]; omega⟩
            · obtain rfl : ol = d := by omega
              have HMA9 : Hid _ := HMA2.out.below HBR.out
              have HMB9 : Hid _ := HMB2.out.below HBR.out
              have HKP9 : Hid (Kp lo hi V3 Y3) := HKP2.out.below HBR.out
              go_wp2
              exact ⟨⟨j + 1, _, _, _, _, by omega, by go_num, HMA9.out, HMB9.out, HKP9.out⟩, by simp [intOf]; omega⟩
        · obtain rfl : j = 2 := by omega
          have HUN : Hid (unfed ins (fun i => (fda i).isSome) il = []) := unfed_none HAA.out
          have HBF : Hid (Below w.heap.size w Y0) := HKP.out.low HB5.out HWL.out.1 HWL.out.2
          go_wp2_with fail
          refine Calls.mono (wants_F HMA.out) ?_
          rintro e Z1 ⟨v, n, rfl, hn, ho, hz⟩
          rw [HUN.out] at hn
          obtain rfl : n = 0 := hn
          obtain ⟨a9, c9, rfl⟩ := own_shape ho
          have HBZ : Hid (Below w.heap.size w Z1) := HBF.out.trans (hz.mono HBF.out.size)
          clear ho hz
          go_wp2
          go_ret
          exact ⟨rfl, HBZ.out⟩
end Go.Proofs.YtoalbopcapgojabDoor

/- The law ExecAgain holds: a machine run again, asked again and fed in the other order answers the same, and Do tells the same, of all programs and bytes; no condition but what the card ties. -/
namespace Go.Proofs.YtoalbopcapgojabDoor.execAgain
open Go.ChangeShapes Go.WideShapes Go.ChangeAt Go.RowKit
open Go.ChangeMaps (open_string shut_string)
open Gf
set_option linter.unusedVariables false
theorem errs {W : World} (h : laidMetH Tryd.prog Rows.execAgainRow.laid W) : ∃ es, ErrsAt W gsX es :=
  errs_of_laid h (by kernel_rfl) (by kernel_rfl) (fun g hg => by
    have hall : (gsX.all fun g => decide ((Tryd.prog.globals[g]?).map (·.type) = some 33)) = true := by kernel_rfl
    simpa using List.all_eq_true.1 hall g hg) (fun x hx => by
    simp only [Rows.execAgainRow, List.mem_cons, List.not_mem_nil, or_false] at hx
    rcases hx with rfl | rfl | rfl | rfl | rfl | rfl <;> exact ⟨_, rfl⟩)
set_option maxRecDepth 100000 in
theorem lifted (os : Os) (started : os.Started) (H : Type) (enc : TypeId × Value → H) :
    ReturnsInHanded {} Tryd.checked os 5 .any (fun w args => (Rows.execAgainSpec.pre enc Tryd.prog Tryd.f5 Rows.execAgainRow.domain false w args ∧ laidMetH Tryd.prog Rows.execAgainRow.laid w) ∧ sizedMet enc Tryd.prog Tryd.f5 (OpenSpec.ofChange Rows.execAgainSpec) false w args) (Rows.execAgainSpec.post enc Tryd.prog Tryd.f5 false true false false) := by
  refine returnsInHanded_of_change_and (C := Tryd.checked) (X := fun w _ => laidMetH Tryd.prog Rows.execAgainRow.laid w) (fun _ _ _ hh h => h.of_heap hh) own started (by kernel_rfl) Tryd.func5
    (ChangeSpec.witness_shaped (enc := enc) (C := Tryd.checked) (os := os) (X := fun w _ => laidMetH Tryd.prog Rows.execAgainRow.laid w) false (World.laidAll Tryd.prog os Rows.execAgainRow.laid) #[.agg #[.slice none 0 0, .slice none 0 0, .int .i64 0, .slice none 0 0], .slice none 0 0] 8 (World.laidAll_os _ _ _)
      (World.shaped_of_ZipB (by kernel_rfl) (by kernel_rfl)) (by kernel_rfl) (by kernel_rfl) (by kernel_rfl)
      (by rw [MakeChecks.laidMetH_plain _ _ _ (by kernel_rfl)]; exact laidMet_laidAll _ (by kernel_rfl) (by kernel_rfl))) ?_
  intro W base args ds gs before hval0 hW hcnd hsz0 hL _
  have hval : ∀ (j : Nat) t v, Tryd.f5.params[j]? = some t → args[j]? = some v → Value.okWide Tryd.prog W .any base t v := hval0
  have hsz : (DataW.weightsEach Tryd.prog (Tryd.f5.params.toList ++ Rows.execAgainSpec.plain.varTypes Tryd.prog) (ds ++ gs)).all (· ≤ reachBytes) = true := hsz0
  have hW' := hW
  obtain ⟨p, q, hA0, hV, rfl, hfz, hnd⟩ := hW
  have hA : DataW.TrodAll enc Tryd.prog W 0 (fun _ => true) true Tryd.f5.params.toList args.toList ds p := hA0
  rw [Tryd.params5] at hA hval hsz
  obtain ⟨v0, vs0, d0, ds0, p0, q0, hargs, rfl, rfl, h0, r0⟩ := trodAll_cons hA
  obtain ⟨v1, vs1, d1, ds1, p1, q1, rfl, rfl, rfl, h1, r1⟩ := trodAll_cons r0
  obtain ⟨rfl, rfl, rfl⟩ := trodAll_nil r1
  obtain rfl : args = #[v0, v1] := by cases args; simp_all
  obtain ⟨rfl, rfl⟩ := trodVars_none hV
  obtain ⟨es, hes⟩ := errs hL
  have k0 := h0
  have lt0 : ∀ x ∈ p0, x.block < W.heap.size := by obtain ⟨m, hm⟩ := k0; exact DataW.trod_lt m _ _ _ hm
  have k1 := h1
  have lt1 : ∀ x ∈ p1, x.block < W.heap.size := by obtain ⟨m, hm⟩ := k1; exact DataW.trod_lt m _ _ _ hm
  obtain ⟨iap, oap, sap, ilp, icp, olp, ocp, slp, scp, rgp, insp, outsp, ssp, rfl, wrp, pwp, bip, bop, bsp⟩ := openProg (j := 0) (hval 0 25 v0 rfl rfl) h0 hsz rfl rfl
  obtain ⟨ax, lx, cx, x, rfl, lsx, lcx, rwx, rdx, rnx⟩ := open8 (hval 1 26 v1 rfl rfl) h1
  have bcx : cx ≤ 140737488351232 := by
    rcases rdx with ⟨_, _, e⟩ | ⟨es, sp, rfl, e⟩
    · omega
    · have := sized_slice hsz (j := 1) (t := 26) (e := 5) rfl rfl Tryd.underlying26
      rw [bytes8] at this; simp only [reachBytes] at this; omega
  clear hA0 hval0
  refine (again10_all iap oap sap ilp icp olp ocp slp scp rgp insp outsp ssp lx cx ax x W (ofX es) (errsX_of hes) pwp lsx (Nat.le_trans lcx (Nat.le_trans bcx (by decide))) rwx).mono fun e W' ⟨he, bel⟩ => ?_
  subst he
  exact ⟨_, rfl, _, _, _, [], _, [], hW', trodAll_mk1 (shut_bool Tryd.underlying4 _), (trodAll_cons_mk (Below.trod laidOut (by kernel_rfl) (of_decide_eq_true (by kernel_rfl)) k0 bel lt0) (trodAll_cons_mk (Below.trod laidOut (by kernel_rfl) (of_decide_eq_true (by kernel_rfl)) k1 bel lt1) trodAll_mk0)), rfl, bel.frame _, fun h => by cases h⟩

theorem over : Rows.execAgainRow.holds Tryd.pinned (OpenSpec.ofChange Rows.execAgainSpec) :=
  OpenClaim.holds_of_wide 5 Tryd.f5 rfl rfl rfl rfl rfl rfl rfl ⟨rfl, rfl, rfl, rfl, rfl⟩ rfl rfl rfl rfl rfl (by kernel_rfl) Tryd.func5 (by kernel_rfl)
    (of_decide_eq_true (by kernel_rfl)) (by unfold Func.isWrapper; first | (rw [if_pos (by decide +kernel)]; kernel_rfl) | (rw [if_neg (by decide +kernel)]; exact ⟨rfl, rfl⟩))
    (fun os started H enc _ => lifted os started H enc)

theorem proved : Rows.ExecAgainCardSaid :=
  Claim7.holds_tied_plain_at .later [] [.sentinel, .sentinel, .sentinel, .sentinel, .sentinel, .sentinel] true (true, "f0ad8eb16939bd032b398a0c508943b76b3958a72ba31e15af518338a38a64a3") false over (fun _ h => by cases h) (by kernel_rfl) (fun _ h => by cases h) execAgain_row_tie rfl ⟨rfl, rfl⟩ (by kernel_rfl) rfl
    (fun f fn hf hfn => by
      obtain rfl : f = 5 := Option.some.inj ((show Tryd.prog.funcNamed "tessera/tesseralaw10.ExecAgain" = some 5 by kernel_rfl).symm.trans hf) |>.symm
      obtain rfl : fn = Tryd.f5 := (Option.some.inj (Tryd.func5.symm.trans hfn)).symm
      exact ⟨by kernel_rfl, fun j t ht => by
        rw [Tryd.params5] at ht
        have hm : t ∈ [25, 26] := by simpa using Array.mem_of_getElem? ht
        have hall : ([25, 26].all fun u => !Tryd.prog.wantsStandIn u) = true := by kernel_rfl
        exact (show Tryd.prog.wantsStandIn t = false by simpa using List.all_eq_true.1 hall t hm)⟩)
    (by kernel_rfl)
#print axioms proved
end Go.Proofs.YtoalbopcapgojabDoor.execAgain
