/- The law ProgIdle holds: steps that make a register which is never asked for change no meaning and are trimmed off, of all programs, places and steps; no condition but what the card ties. -/
import Derived.Test.YtoalbopcapgojaaDoorGfDot
import Derived.ProofKit
import Derived.OpenShut
import Derived.SizedLaws
import Derived.Lib.SmallJoins
import Derived.Test.YtoalbopcapgojaaDoorMatO
import Derived.Test.YtoalbopcapgojaaDoorOwn
import Derived.Deep.Matrix
import Derived.Test.YtoalbopcapgojaaDoorJProgIdle2
import Derived.Deep.Strs
import Derived.Test.YtoalbopcapgojaaDoorJProgIdle1
import Derived.Shelf.Strings.OnBuilder
import Derived.Shelf.Strconv.Itoa3
import Derived.Test.YtoalbopcapgojaaDoorChecked
import Derived.Test.YtoalbopcapgojaaDoorMatA
import Derived.Test.YtoalbopcapgojaaDoorHolds
import Derived.Lib.ItoaNum
import Derived.Lib.ItoaWalk
import Derived.Test.YtoalbopcapgojaaDoorGfApp
import Derived.Lib.LaidTab
import Derived.Test.YtoalbopcapgojaaDoorPlacesK
import Derived.Deep.DeepCutAuto
import Derived.Test.YtoalbopcapgojaaDoorGfStr
import Derived.Test.YtoalbopcapgojaaDoorStepB
import Derived.Test.YtoalbopcapgojaaDoorMatS
import Derived.Test.YtoalbopcapgojaaDoorRows
import Derived.Test.YtoalbopcapgojaaDoorCards
import Derived.Test.YtoalbopcapgojaaDoorTie
import Derived.WalkKit
import Derived.ShutString
import Derived.ChangeOld
import Derived.Below
import Derived.Lay
import Derived.SevenTiedAt
import Derived.Stop.Joined
/- How a list of bytes that came in is read: facts for the frames of the laws; nothing of the program is proved here. -/
namespace Go.Proofs.YtoalbopcapgojaaDoor
open Go.ChangeShapes Go.WideShapes Go.ChangeAt Go.RowKit Gf
set_option maxRecDepth 20000
theorem own : ownKnob Tryd.prog.godebug = none := by kernel_rfl
theorem laidOut : laidOutB Tryd.prog = true := by kernel_rfl
theorem bytes8 : Tryd.prog.bytesOf 5 = 1 := by kernel_rfl
theorem getD_get {α : Type} (l : List α) (j : Nat) (d : α) (h : j < l.length) : l.getD j d = l[j] := by simp [List.getD, h]
theorem open8_cells {H : Type} {enc : TypeId × Value → H} {W : World} {cs : List Value} {x : DataW H × List MemPlace} {fuel : Nat}
    (h : DataW.trod enc Tryd.prog W 0 (fun _ => true) true fuel 31 cs = some x) :
    ∃ a len cap xs, cs = [.slice a len cap] ∧ len = xs.length ∧ len ≤ cap ∧ Row8 W a xs ∧ (x.1 = .nil ∧ a = none ∧ cap = 0 ∨ ∃ es sp, x.1 = .slice es sp ∧ es.length + sp.length = cap) ∧ (a = none → cap = 0) := by
  rcases open_ints Tryd.underlying31 Tryd.underlying5 (by kernel_rfl) h with ⟨hcs, hx⟩ | ⟨ad, l, c, zs, hcs, _, hl, hm, hz, hx, hcell, hwz⟩
  · exact ⟨none, 0, 0, [], hcs, rfl, Nat.le_refl _, .inl rfl, .inl ⟨by rw [hx], rfl, rfl⟩, fun _ => rfl⟩
  · have hz' : zs.length = c := by simpa using hz
    refine ⟨some ad, l, c, (zs.take l).map toF, hcs, by simp; omega, hl, ?_, .inr ⟨_, _, by rw [hx], by simp [lits]; omega⟩, fun e => by cases e⟩
    by_cases h0 : l = 0
    · left; simp [h0]
    · right
      have hc := hcell 0 (by omega)
      obtain ⟨b, off, spot⟩ := ad
      have hspot : spot = none := by simpa [Addr.add] using World.cell?_spot hc
      subst hspot
      refine ⟨b, off, rfl, fun j hj => ?_⟩
      have hj' : j < l := by simp at hj; omega
      have hcj := hcell j (by omega)
      have hw := hwz (zs.getD j 0) (by
        rw [getD_get _ _ _ (by omega)]; exact List.getElem_mem _)
      have hb := bounds_u8 hw
      have e : ((at8 ((zs.take l).map toF) j).toNat : Int) = zs.getD j 0 := by
        unfold at8
        rw [getD_get _ _ _ (by simp; omega)]
        simp only [List.getElem_map, List.getElem_take]
        rw [getD_get _ _ _ (by omega)] at hb ⊢
        exact val_toF hb.1 hb.2
      rw [e, ← hcj]
      by_cases hj0 : j = 0
      · subst hj0; rfl
      · simp [Addr.add, hj0]
theorem open8 {H : Type} {enc : TypeId × Value → H} {W : World} {v : Value} {d : DataW H} {p : List MemPlace} {base : Nat}
    (hv : Value.okWide Tryd.prog W .any base 31 v) (h : DataW.Trod enc Tryd.prog W 0 (fun _ => true) true 31 v d p) :
    ∃ a len cap xs, v = .slice a len cap ∧ len = xs.length ∧ len ≤ cap ∧ Row8 W a xs ∧ (d = .nil ∧ a = none ∧ cap = 0 ∨ ∃ es sp, d = .slice es sp ∧ es.length + sp.length = cap) ∧ (a = none → cap = 0) := by
  obtain ⟨fuel, hf⟩ := h
  obtain ⟨a, len, cap, xs, hcs, h1, h2, h3, h4, h5⟩ := open8_cells hf
  obtain ⟨a', len', cap', rfl⟩ := okWide_slice Tryd.underlying31 hv
  simp [Value.cells] at hcs
  obtain ⟨rfl, rfl, rfl⟩ := hcs
  exact ⟨_, _, _, xs, rfl, h1, h2, h3, h4, h5⟩
end Go.Proofs.YtoalbopcapgojaaDoor

/- How a matrix, and two numbers, come in: facts for the frames of the laws; nothing of the program is proved here. -/
namespace Go.Proofs.YtoalbopcapgojaaDoor
open Go.ChangeShapes Go.WideShapes Go.ChangeAt Go.RowKit Gf Go.Joins
set_option linter.unusedVariables false
set_option maxRecDepth 20000
theorem cellsMat : Tryd.prog.cellsOf 33 = 3 := by kernel_rfl
theorem cellsInt : Tryd.prog.cellsOf 3 = 1 := by kernel_rfl
/-- a list's datum, and its room -/
def Room2 {H : Type} (d : DataW H) (cap : Nat) : Prop := d = .nil ∧ cap = 0 ∨ ∃ es sp, d = .slice es sp ∧ es.length + sp.length = cap
theorem room2_le {H : Type} {d : DataW H} {cap : Nat} (h : Room2 d cap) (hw : ∀ n ∈ DataW.weights Tryd.prog 31 d, n ≤ reachBytes) : cap ≤ 140737488351232 := by
  rcases h with ⟨_, rfl⟩ | ⟨es, sp, rfl, rfl⟩
  · omega
  · have := hw ((es.length + sp.length) * Tryd.prog.bytesOf 5) (by simp [DataW.weights, Tryd.underlying31])
    rw [bytes8] at this
    simp only [reachBytes] at this
    omega
theorem openMat {H : Type} {enc : TypeId × Value → H} {W : World} {v : Value} {d : DataW H} {p : List MemPlace} {base : Nat} {ts : List TypeId} {ds : List (DataW H)} {j : Nat}
    (hv : Value.okWide Tryd.prog W .any base 33 v) (h : DataW.Trod enc Tryd.prog W 0 (fun _ => true) true 33 v d p)
    (hsz : (DataW.weightsEach Tryd.prog ts ds).all (· ≤ reachBytes) = true) (ht : ts[j]? = some 33) (hd : ds[j]? = some d) :
    ∃ (r c : Int) (a : Option Addr) (l cap : Nat) (xs : List F), v = .agg #[.int .i64 r, .int .i64 c, .slice a l cap] ∧ l = xs.length ∧ Row8 W a xs ∧ l ≤ cap ∧ cap ≤ 140737488351232 ∧ (a = none → cap = 0) ∧
      -9223372036854775808 ≤ r ∧ r ≤ 9223372036854775807 ∧ -9223372036854775808 ≤ c ∧ c ≤ 9223372036854775807 := by
  obtain ⟨v0, v1, v2, y0, y1, y2, n, rfl, rfl, _, e0, e1, e2⟩ := open_agg3 Tryd.underlying33 (by kernel_rfl) cellsMat hv h
  obtain ⟨r, s0, _, w0⟩ := DataW.trod_int Tryd.underlying3 e0
  obtain ⟨c, s1, _, w1⟩ := DataW.trod_int Tryd.underlying3 e1
  obtain ⟨a, la, ca, xs, s2, e, ka, ra, da, na⟩ := open8_cells e2
  simp only [List.cons.injEq, and_true] at s0 s1 s2
  subst s0 s1 s2
  have hw : ∀ n ∈ DataW.weights Tryd.prog 33 (.agg [y0.1, y1.1, y2.1]), n ≤ reachBytes := fun n hn => by
    simpa using List.all_eq_true.1 hsz _ (DataW.weights_mem_each ht hd n hn)
  simp only [DataW.weights, Tryd.underlying33] at hw
  have r2 : Room2 y2.1 ca := da.imp (fun h => ⟨h.1, h.2.2⟩) id
  refine ⟨r, c, a, la, ca, xs, rfl, e, ra, ka, room2_le r2 ?_, na, (bounds_i64 w0).1, (bounds_i64 w0).2, (bounds_i64 w1).1, (bounds_i64 w1).2⟩
  exact fun n hn => hw n (by simp [DataW.weightsEach, hn])
end Go.Proofs.YtoalbopcapgojaaDoor

/- How a list of lists of bytes, and a list of numbers, come in: facts for the frames of the laws; nothing of the program is proved here. -/
namespace Go.Proofs.YtoalbopcapgojaaDoor
open Go.ChangeShapes Go.WideShapes Go.ChangeAt Go.RowKit Gf Go.Joins
set_option linter.unusedVariables false
set_option maxRecDepth 20000
theorem addr_off {w : World} {ad : Addr} {v : Value} (h : w.cell? (ad.add 0) = some v) : ∃ b off, ad = ⟨b, off, none⟩ := by
  obtain ⟨b, off, spot⟩ := ad
  have hspot : spot = none := by simpa [Addr.add] using World.cell?_spot h
  subst hspot
  exact ⟨b, off, rfl⟩
theorem add_off (b off j : Nat) : (⟨b, off, none⟩ : Addr).add j = ⟨b, off + j, none⟩ := by unfold Addr.add; split <;> simp_all
theorem cellsSl : Tryd.prog.cellsOf 31 = 1 := by kernel_rfl
theorem cellsU8 : Tryd.prog.cellsOf 5 = 1 := by kernel_rfl
theorem openRows {H : Type} {enc : TypeId × Value → H} {W : World} {v : Value} {d : DataW H} {p : List MemPlace} {base : Nat}
    (hv : Value.okWide Tryd.prog W .any base 68 v) (h : DataW.Trod enc Tryd.prog W 0 (fun _ => true) true 68 v d p) :
    ∃ a l cap L, v = .slice a l cap ∧ l = List.length L ∧ Rows8 W a L ∧
      ∀ b off, a = some ⟨b, off, none⟩ → ∀ j n a' cap', W.cell? ⟨b, off + j, none⟩ = some (.slice a' n cap') → j < L.length → a' = none → cap' = 0 := by
  obtain ⟨fuel, hf⟩ := h
  obtain ⟨a0, l0, c0, rfl⟩ := okWide_slice Tryd.underlying68 hv
  rcases Deep.open_int_rows Tryd.underlying68 Tryd.underlying31 Tryd.underlying5 cellsSl cellsU8 hf with ⟨hcs, hx⟩ | ⟨ad, len, cap, A, L, C, Z, hcs, _, hl, hm, hx, hr⟩
  · simp [Value.cells] at hcs
    obtain ⟨rfl, rfl, rfl⟩ := hcs
    exact ⟨none, 0, 0, [], rfl, rfl, .inl rfl, fun b off e => by cases e⟩
  · simp [Value.cells] at hcs
    obtain ⟨rfl, rfl, rfl⟩ := hcs
    refine ⟨some ad, l0, c0, (List.range l0).map fun r => ((Z r).take (L r)).map toF, rfl, by simp, ?_, ?_⟩
    · by_cases h0 : l0 = 0
      · left; simp [h0]
      · right
        obtain ⟨b, off, rfl⟩ := addr_off (hr 0 (by omega)).1
        refine ⟨b, off, rfl, fun j xs hj => ?_⟩
        have hjl : j < l0 := by have := (List.getElem?_eq_some_iff.1 hj).1; simpa using this
        rw [List.getElem?_map, List.getElem?_range hjl] at hj
        obtain rfl := Option.some.inj hj
        obtain ⟨h1, h2, h3, h4, h5, h6, h7⟩ := hr j (by omega)
        rw [add_off] at h1
        have hlen : (((Z j).take (L j)).map toF).length = L j := by rw [List.length_map, List.length_take]; omega
        refine ⟨A j, C j, by rw [hlen]; exact h1, ?_⟩
        by_cases hL0 : L j = 0
        · left; simp [hL0]
        · right
          cases hA : A j with
          | none => have := h6 hA; omega
          | some ad' =>
            obtain ⟨_, h8⟩ := h7 ad' hA
            obtain ⟨b', off', rfl⟩ := addr_off (h8 0 (by omega))
            refine ⟨b', off', rfl, fun i hi => ?_⟩
            rw [hlen] at hi
            have hc := h8 i (by omega)
            rw [add_off] at hc
            rw [hc]
            have hb := bounds_u8 (h5 ((Z j).getD i 0) (by rw [getD_get _ _ _ (by omega)]; exact List.getElem_mem _))
            have e : ((at8 (((Z j).take (L j)).map toF) i).toNat : Int) = (Z j).getD i 0 := by
              unfold at8
              rw [getD_get _ _ _ (by rw [hlen]; exact hi)]
              simp only [List.getElem_map, List.getElem_take]
              rw [getD_get _ _ _ (by omega)] at hb ⊢
              exact val_toF hb.1 hb.2
            rw [e]
    · intro b off e j n a' cap' hc hj ha
      simp only [List.length_map, List.length_range] at hj
      obtain ⟨h1, h2, h3, h4, h5, h6, h7⟩ := hr j (by omega)
      obtain rfl := Option.some.inj e
      rw [add_off, hc] at h1
      simp only [Option.some.injEq, Value.slice.injEq] at h1
      obtain ⟨e1, _, e3⟩ := h1
      rw [e3]; exact h6 (by rw [← e1]; exact ha)
theorem bytesInt : Tryd.prog.bytesOf 3 = 8 := by kernel_rfl
theorem openInts {H : Type} {enc : TypeId × Value → H} {W : World} {v : Value} {d : DataW H} {p : List MemPlace} {base : Nat} {ts : List TypeId} {ds : List (DataW H)} {j : Nat}
    (hv : Value.okWide Tryd.prog W .any base 22 v) (h : DataW.Trod enc Tryd.prog W 0 (fun _ => true) true 22 v d p)
    (hsz : (DataW.weightsEach Tryd.prog ts ds).all (· ≤ reachBytes) = true) (ht : ts[j]? = some 22) (hd : ds[j]? = some d) :
    ∃ a l cap ns, v = .slice a l cap ∧ l = List.length ns ∧ RowI W a ns ∧ l ≤ cap ∧ cap ≤ 17592186043904 ∧ (a = none → cap = 0) ∧ ∀ n ∈ ns, -9223372036854775808 ≤ n ∧ n ≤ 9223372036854775807 := by
  obtain ⟨fuel, hf⟩ := h
  obtain ⟨a0, l0, c0, rfl⟩ := okWide_slice Tryd.underlying22 hv
  rcases open_ints Tryd.underlying22 Tryd.underlying3 cellsInt hf with ⟨hcs, hx⟩ | ⟨ad, l, c, zs, hcs, _, hl, hm, hz, hx, hcell, hwz⟩
  · simp [Value.cells] at hcs
    obtain ⟨rfl, rfl, rfl⟩ := hcs
    exact ⟨none, 0, 0, [], rfl, rfl, .inl rfl, Nat.le_refl _, by omega, fun _ => rfl, fun n hn => by cases hn⟩
  · simp [Value.cells] at hcs
    obtain ⟨rfl, rfl, rfl⟩ := hcs
    have hz' : zs.length = c0 := by simpa using hz
    have hcap : c0 ≤ 17592186043904 := by
      have hw : ∀ n ∈ DataW.weights Tryd.prog 22 d, n ≤ reachBytes := fun n hn => by simpa using List.all_eq_true.1 hsz _ (DataW.weights_mem_each ht hd n hn)
      simp only [Prod.mk.injEq] at hx
      rw [hx.1] at hw
      have := hw (((lits .i64 (zs.take l0) : List (DataW H)).length + (lits .i64 (zs.drop l0) : List (DataW H)).length) * Tryd.prog.bytesOf 3) (by simp [DataW.weights, Tryd.underlying22])
      rw [bytesInt] at this
      simp only [reachBytes, lits, List.length_map, List.length_take, List.length_drop] at this
      omega
    refine ⟨some ad, l0, c0, zs.take l0, rfl, by rw [List.length_take]; omega, ?_, hl, hcap, (fun e => by cases e), fun n hn => bounds_i64 (hwz n (List.mem_of_mem_take hn))⟩
    by_cases h0 : l0 = 0
    · left; simp [h0]
    · right
      obtain ⟨b, off, rfl⟩ := addr_off (hcell 0 (by omega))
      refine ⟨b, off, rfl, fun j m hj => ?_⟩
      have hjl : j < l0 := by have := (List.getElem?_eq_some_iff.1 hj).1; rw [List.length_take] at this; omega
      have hc := hcell j (by omega)
      rw [add_off] at hc
      rw [hc]
      rw [List.getElem?_take_of_lt hjl] at hj
      rw [List.getD_eq_getElem?_getD, hj]; rfl
end Go.Proofs.YtoalbopcapgojaaDoor

/- How parameters, a number and two lists of numbers come in; facts for the frames of the laws; nothing of the program is proved here. -/
namespace Go.Proofs.YtoalbopcapgojaaDoor
open Go.ChangeShapes Go.WideShapes Go.ChangeAt Go.RowKit Gf Go.Joins
set_option linter.unusedVariables false
set_option maxRecDepth 20000
theorem array5 {α : Type} {cs : Array α} (h : cs.size = 5) : ∃ c0 c1 c2 c3 c4, cs = #[c0, c1, c2, c3, c4] := by
  obtain ⟨l⟩ := cs
  match l, h with
  | [c0, c1, c2, c3, c4], _ => exact ⟨c0, c1, c2, c3, c4, rfl⟩
theorem open_agg5 {H : Type} {enc : TypeId × Value → H} {P : Program} {w : World} {base : Nat} {spare : Nat → Bool} {held : Bool} {r : Reach} {b0 : Nat} {t : TypeId} {f0 f1 f2 f3 f4 : Field} {v : Value} {d : DataW H} {p : List MemPlace} (hs : P.underlying t = some (.struct #[f0, f1, f2, f3, f4])) (hone : Go.Deep.oneCellFields P #[f0, f1, f2, f3, f4] = true) (hC : P.cellsOf t = 5)
    (hv : Value.okWide P w r b0 t v) (h : DataW.Trod enc P w base spare held t v d p) :
    ∃ (v0 v1 v2 v3 v4 : Value) (y0 y1 y2 y3 y4 : DataW H × List MemPlace) (n : Nat), v = .agg #[v0, v1, v2, v3, v4] ∧ d = .agg [y0.1, y1.1, y2.1, y3.1, y4.1] ∧
      DataW.trod enc P w base spare held n f0.type [v0] = some y0 ∧ DataW.trod enc P w base spare held n f1.type [v1] = some y1 ∧ DataW.trod enc P w base spare held n f2.type [v2] = some y2 ∧ DataW.trod enc P w base spare held n f3.type [v3] = some y3 ∧ DataW.trod enc P w base spare held n f4.type [v4] = some y4 := by
  obtain ⟨cs, rfl, hsz⟩ := okWide_struct hs hv
  obtain ⟨c0, c1, c2, c3, c4, rfl⟩ := array5 (hsz.trans hC)
  obtain ⟨fuel, hf⟩ := h
  obtain ⟨xs, n, _, hx, hl, hlen, hel⟩ := DataW.trod_struct hs hf
  match xs, hlen with
  | [y0, y1, y2, y3, y4], _ =>
    obtain ⟨o0, k0⟩ := Go.Deep.hone_of hone 0 f0 rfl
    obtain ⟨o1, k1⟩ := Go.Deep.hone_of hone 1 f1 rfl
    obtain ⟨o2, k2⟩ := Go.Deep.hone_of hone 2 f2 rfl
    obtain ⟨o3, k3⟩ := Go.Deep.hone_of hone 3 f3 rfl
    obtain ⟨o4, k4⟩ := Go.Deep.hone_of hone 4 f4 rfl
    have h0 := hel 0 f0 rfl
    have h1 := hel 1 f1 rfl
    have h2 := hel 2 f2 rfl
    have h3 := hel 3 f3 rfl
    have h4 := hel 4 f4 rfl
    simp only [Prod.mk.injEq] at hx
    exact ⟨c0, c1, c2, c3, c4, y0, y1, y2, y3, y4, n, rfl, by rw [hx.1]; rfl, by simpa [Value.cells, o0, k0] using h0, by simpa [Value.cells, o1, k1] using h1, by simpa [Value.cells, o2, k2] using h2, by simpa [Value.cells, o3, k3] using h3, by simpa [Value.cells, o4, k4] using h4⟩
/-- a list of numbers, as one cell -/
theorem openInts_cell {H : Type} {enc : TypeId × Value → H} {W : World} {v : Value} {y : DataW H × List MemPlace} {n : Nat}
    (h : DataW.trod enc Tryd.prog W 0 (fun _ => true) true n 22 [v] = some y) (hw : ∀ n ∈ DataW.weights Tryd.prog 22 y.1, n ≤ reachBytes) :
    ∃ a l cap ns, v = .slice a l cap ∧ l = List.length ns ∧ RowI W a ns ∧ l ≤ cap ∧ cap ≤ 17592186043904 ∧ (a = none → cap = 0) ∧ ∀ n ∈ ns, -9223372036854775808 ≤ n ∧ n ≤ 9223372036854775807 := by
  rcases open_ints Tryd.underlying22 Tryd.underlying3 cellsInt h with ⟨hcs, hx⟩ | ⟨ad, l, c, zs, hcs, _, hl, hm, hz, hx, hcell, hwz⟩
  · simp at hcs
    subst hcs
    exact ⟨none, 0, 0, [], rfl, rfl, .inl rfl, Nat.le_refl _, by omega, fun _ => rfl, fun n hn => by cases hn⟩
  · simp at hcs
    subst hcs
    have hz' : zs.length = c := by simpa using hz
    have hcap : c ≤ 17592186043904 := by
      rw [hx] at hw
      have := hw (((lits .i64 (zs.take l) : List (DataW H)).length + (lits .i64 (zs.drop l) : List (DataW H)).length) * Tryd.prog.bytesOf 3) (by simp [DataW.weights, Tryd.underlying22])
      rw [bytesInt] at this
      simp only [reachBytes, lits, List.length_map, List.length_take, List.length_drop] at this
      omega
    refine ⟨some ad, l, c, zs.take l, rfl, by rw [List.length_take]; omega, ?_, hl, hcap, (fun e => by cases e), fun n hn => bounds_i64 (hwz n (List.mem_of_mem_take hn))⟩
    by_cases h0 : l = 0
    · left; simp [h0]
    · right
      obtain ⟨b, off, rfl⟩ := addr_off (hcell 0 (by omega))
      refine ⟨b, off, rfl, fun j m hj => ?_⟩
      have hjl : j < l := by have := (List.getElem?_eq_some_iff.1 hj).1; rw [List.length_take] at this; omega
      have hc := hcell j (by omega)
      rw [add_off] at hc
      rw [hc]
      rw [List.getElem?_take_of_lt hjl] at hj
      rw [List.getD_eq_getElem?_getD, hj]; rfl
end Go.Proofs.YtoalbopcapgojaaDoor

/- How a list of lists of bytes comes in, with the bounds of its rooms: facts for the frames of the laws; nothing of the program is proved here. -/
namespace Go.Proofs.YtoalbopcapgojaaDoor
open Go.ChangeShapes Go.WideShapes Go.ChangeAt Go.RowKit Gf Go.Joins
set_option linter.unusedVariables false
set_option maxRecDepth 20000
/-- a list of rows in memory, the rooms bounded -/
def RowsB (w : World) (a : Option Addr) (L : List (List F)) : Prop :=
  L = [] ∨ ∃ b off, a = some ⟨b, off, none⟩ ∧ ∀ j xs, L[j]? = some xs → ∃ a' cap', w.cell? ⟨b, off + j, none⟩ = some (.slice a' xs.length cap') ∧ Row8 w a' xs ∧ xs.length ≤ cap' ∧ cap' ≤ 140737488351232 ∧ (a' = none → cap' = 0)
theorem rowsB_rows {w : World} {a : Option Addr} {L : List (List F)} (h : RowsB w a L) : Rows8 w a L :=
  h.imp id fun ⟨b, off, e, h⟩ => ⟨b, off, e, fun j xs hj => by
    obtain ⟨a', cap', h1, h2, _⟩ := h j xs hj
    exact ⟨a', cap', h1, h2⟩⟩
theorem bytesSl : Tryd.prog.bytesOf 31 = 24 := by kernel_rfl
theorem weightsAll_in {H : Type} {P : Program} {e : TypeId} : ∀ {l : List (DataW H)} {d : DataW H}, d ∈ l → ∀ n ∈ d.weights P e, n ∈ DataW.weightsAll P e l
  | [], d, hd, _, _ => by cases hd
  | x :: l, d, hd, n, hn => by
    simp only [DataW.weightsAll, List.mem_append]
    rcases List.mem_cons.1 hd with rfl | h
    · exact .inl hn
    · exact .inr (weightsAll_in h n hn)
theorem openRowsB {H : Type} {enc : TypeId × Value → H} {W : World} {v : Value} {d : DataW H} {p : List MemPlace} {base : Nat} {ts : List TypeId} {ds : List (DataW H)} {j : Nat}
    (hv : Value.okWide Tryd.prog W .any base 68 v) (h : DataW.Trod enc Tryd.prog W 0 (fun _ => true) true 68 v d p)
    (hsz : (DataW.weightsEach Tryd.prog ts ds).all (· ≤ reachBytes) = true) (ht : ts[j]? = some 68) (hd : ds[j]? = some d) :
    ∃ a l cap L, v = .slice a l cap ∧ l = List.length L ∧ RowsB W a L ∧ l ≤ 5864062014634 := by
  obtain ⟨fuel, hf⟩ := h
  obtain ⟨a0, l0, c0, rfl⟩ := okWide_slice Tryd.underlying68 hv
  have hw : ∀ n ∈ DataW.weights Tryd.prog 68 d, n ≤ reachBytes := fun n hn => by simpa using List.all_eq_true.1 hsz _ (DataW.weights_mem_each ht hd n hn)
  rcases Deep.open_int_rows Tryd.underlying68 Tryd.underlying31 Tryd.underlying5 cellsSl cellsU8 hf with ⟨hcs, hx⟩ | ⟨ad, len, cap, A, L, C, Z, hcs, _, hl, hm, hx, hr⟩
  · simp [Value.cells] at hcs
    obtain ⟨rfl, rfl, rfl⟩ := hcs
    exact ⟨none, 0, 0, [], rfl, rfl, .inl rfl, by omega⟩
  · simp [Value.cells] at hcs
    obtain ⟨rfl, rfl, rfl⟩ := hcs
    simp only [Prod.mk.injEq] at hx
    rw [hx.1] at hw
    simp only [DataW.weights, Tryd.underlying68] at hw
    have hl9 : l0 ≤ 5864062014634 := by
      have := hw _ (List.mem_cons_self ..)
      rw [bytesSl] at this
      simp only [reachBytes, List.length_map, List.length_range] at this
      omega
    have hC : ∀ r, r < l0 → A r ≠ none → C r ≤ 140737488351232 := fun r hrl hne => by
      obtain ⟨_, _, _, h4, _⟩ := hr r (by omega)
      cases hA : A r with
      | none => exact absurd hA hne
      | some a9 =>
        have hmem : (Deep.intRow (H := H) .u8 (A r) (L r) (Z r)) ∈ (List.range l0).map fun r => Deep.intRow (H := H) .u8 (A r) (L r) (Z r) := List.mem_map.2 ⟨r, List.mem_range.2 hrl, rfl⟩
        have h9 := hw (((lits .u8 ((Z r).take (L r)) : List (DataW H)).length + (lits .u8 ((Z r).drop (L r)) : List (DataW H)).length) * Tryd.prog.bytesOf 5)
          (List.mem_cons_of_mem _ (List.mem_append_left _ (weightsAll_in hmem _ (by simp [Deep.intRow, hA, DataW.weights, Tryd.underlying31]))))
        rw [bytes8] at h9
        simp only [reachBytes, lits, List.length_map, List.length_take, List.length_drop] at h9
        omega
    refine ⟨some ad, l0, c0, (List.range l0).map fun r => ((Z r).take (L r)).map toF, rfl, by simp, ?_, hl9⟩
    by_cases h0 : l0 = 0
    · left; simp [h0]
    · right
      obtain ⟨b, off, rfl⟩ := addr_off (hr 0 (by omega)).1
      refine ⟨b, off, rfl, fun j xs hj => ?_⟩
      have hjl : j < l0 := by have := (List.getElem?_eq_some_iff.1 hj).1; simpa using this
      rw [List.getElem?_map, List.getElem?_range hjl] at hj
      obtain rfl := Option.some.inj hj
      obtain ⟨h1, h2, h3, h4, h5, h6, h7⟩ := hr j (by omega)
      rw [add_off] at h1
      have hlen : (((Z j).take (L j)).map toF).length = L j := by rw [List.length_map, List.length_take]; omega
      refine ⟨A j, C j, by rw [hlen]; exact h1, ?_, by rw [hlen]; exact h2, ?_, h6⟩
      · by_cases hL0 : L j = 0
        · left; simp [hL0]
        · right
          cases hA : A j with
          | none => have := h6 hA; omega
          | some ad' =>
            obtain ⟨_, h8⟩ := h7 ad' hA
            obtain ⟨b', off', rfl⟩ := addr_off (h8 0 (by omega))
            refine ⟨b', off', rfl, fun i hi => ?_⟩
            rw [hlen] at hi
            have hc := h8 i (by omega)
            rw [add_off] at hc
            rw [hc]
            have hb := bounds_u8 (h5 ((Z j).getD i 0) (by rw [getD_get _ _ _ (by omega)]; exact List.getElem_mem _))
            have e : ((at8 (((Z j).take (L j)).map toF) i).toNat : Int) = (Z j).getD i 0 := by
              unfold at8
              rw [getD_get _ _ _ (by rw [hlen]; exact hi)]
              simp only [List.getElem_map, List.getElem_take]
              rw [getD_get _ _ _ (by omega)] at hb ⊢
              exact val_toF hb.1 hb.2
            rw [e]
      · by_cases hA : A j = none
        · have := h6 hA; omega
        · exact hC j hjl hA
end Go.Proofs.YtoalbopcapgojaaDoor

/- How a program, and a step, come in; facts for the frames of the laws; nothing of the program is proved here. -/
namespace Go.Proofs.YtoalbopcapgojaaDoor
open Go.ChangeShapes Go.WideShapes Go.ChangeAt Go.RowKit Gf Go.Joins
set_option linter.unusedVariables false
set_option maxRecDepth 20000
theorem cellsSt : Tryd.prog.cellsOf 48 = 4 := by kernel_rfl
theorem bytesSt : Tryd.prog.bytesOf 48 = 32 := by kernel_rfl
theorem cellsPr : Tryd.prog.cellsOf 25 = 4 := by kernel_rfl
theorem add_add9 {b off j q : Nat} : ((⟨b, off, none⟩ : Addr).add j).add q = ⟨b, off + j + q, none⟩ := by rw [add_off, add_off]
/-- a step's numbers are in their bounds -/
def StB (s : Stp) : Prop := (-9223372036854775808 ≤ s.op ∧ s.op ≤ 9223372036854775807) ∧ (-9223372036854775808 ≤ s.dst ∧ s.dst ≤ 9223372036854775807) ∧ (-9223372036854775808 ≤ s.src ∧ s.src ≤ 9223372036854775807)
theorem openStep {H : Type} {enc : TypeId × Value → H} {W : World} {cs : List Value} {y : DataW H × List MemPlace} {n : Nat}
    (h : DataW.trod enc Tryd.prog W 0 (fun _ => true) true n 48 cs = some y) :
    ∃ s : Stp, cs = stpL s ∧ StB s := by
  obtain ⟨y0, y1, y2, y3, n', hy, hl, e0, e1, e2, e3⟩ := trod_struct4 Tryd.underlying48 h
  rw [cellsSt] at hl
  match cs, hl with
  | [v0, v1, v2, v3], _ =>
    have k0 : Tryd.prog.cellsOf 3 = 1 := cellsInt
    have k1 : Tryd.prog.cellsOf 5 = 1 := by kernel_rfl
    simp only [k0, k1, List.drop_zero, List.drop_succ_cons, List.take_succ_cons, List.take_zero] at e0 e1 e2 e3
    obtain ⟨a, s0, _, w0⟩ := DataW.trod_int Tryd.underlying3 e0
    obtain ⟨b, s1, _, w1⟩ := DataW.trod_int Tryd.underlying3 e1
    obtain ⟨c, s2, _, w2⟩ := DataW.trod_int Tryd.underlying3 e2
    obtain ⟨d, s3, _, w3⟩ := DataW.trod_int Tryd.underlying5 e3
    obtain ⟨f, rfl⟩ := exists_F (bounds_u8 w3).1 (bounds_u8 w3).2
    simp only [List.cons.injEq, and_true] at s0 s1 s2 s3
    subst s0 s1 s2 s3
    exact ⟨⟨a, b, c, f⟩, rfl, bounds_i64 w0, bounds_i64 w1, bounds_i64 w2⟩
theorem openSteps_cell {H : Type} {enc : TypeId × Value → H} {W : World} {v : Value} {y : DataW H × List MemPlace} {n : Nat}
    (h : DataW.trod enc Tryd.prog W 0 (fun _ => true) true n 23 [v] = some y) (hw : ∀ n ∈ DataW.weights Tryd.prog 23 y.1, n ≤ reachBytes) :
    ∃ a l cap ss, v = .slice a l cap ∧ l = List.length ss ∧ StpW W a ss ∧ l ≤ cap ∧ cap ≤ 4398046510976 ∧ (a = none → cap = 0) ∧ ∀ s ∈ ss, StB s := by
  rcases DataW.trod_slice Tryd.underlying23 h with ⟨hcs, hx⟩ | ⟨ad, len, cap, elems, rest, n', _, hcs, hx, _, hlc, hcm, hel, hcell, hrest, _⟩
  · simp only [List.cons.injEq, and_true] at hcs
    exact ⟨none, 0, 0, [], hcs, rfl, .inl rfl, Nat.le_refl _, by omega, fun _ => rfl, fun s h => by cases h⟩
  · simp only [List.cons.injEq, and_true] at hcs
    subst hcs
    obtain ⟨hrl, _⟩ := hrest rfl
    rw [hx] at hw
    simp only [DataW.weights, Tryd.underlying23] at hw
    have hcap : cap ≤ 4398046510976 := by
      have := hw _ (List.mem_cons_self ..)
      rw [bytesSt] at this
      simp only [reachBytes, List.length_map] at this
      omega
    have hone : ∀ i, i < len → ∃ s : Stp, W.cells? 0 (ad.add (i * 4)) 4 = some (stpL s) ∧ StB s := fun i hi => by
      have h1 := hcell i hi
      rw [cellsSt, List.getElem?_eq_getElem (by omega)] at h1
      obtain ⟨cs, h2, h3⟩ := Option.bind_eq_some_iff.1 h1
      obtain ⟨s, e, r⟩ := openStep h3
      subst e
      exact ⟨s, h2, r⟩
    have hch : ∀ i : Nat, ∃ s : Stp, i < len → W.cells? 0 (ad.add (i * 4)) 4 = some (stpL s) ∧ StB s := fun i => by
      by_cases hi : i < len
      · obtain ⟨s, q⟩ := hone i hi
        exact ⟨s, fun _ => q⟩
      · exact ⟨⟨0, 0, 0, 0⟩, fun h => absurd h hi⟩
    obtain ⟨f, hf⟩ := Classical.axiomOfChoice hch
    refine ⟨some ad, len, cap, (List.range len).map f, rfl, by simp, ?_, hlc, hcap, (fun e => by cases e), fun s hs => by obtain ⟨i, hi, rfl⟩ := List.mem_map.1 hs; exact (hf i (List.mem_range.1 hi)).2⟩
    by_cases h0 : len = 0
    · left; simp [h0]
    · right
      have hc0 := (hf 0 (by omega)).1
      have hc1 := (World.cells?_some hc0).2.2 0 (by omega)
      rw [Nat.zero_mul] at hc1
      obtain ⟨b, off, rfl⟩ : ∃ b off, ad = ⟨b, off, none⟩ := addr_off (v := .int .i64 (f 0).op) (by
        have : (ad.add 0).add 0 = ad.add 0 := by unfold Addr.add; simp
        rw [← this]; exact hc1)
      refine ⟨b, off, rfl, fun j s hj => ?_⟩
      have hjl : j < len := by have := (List.getElem?_eq_some_iff.1 hj).1; simpa using this
      rw [List.getElem?_map, List.getElem?_range hjl] at hj
      have hfj : f j = s := Option.some.inj hj
      have hc := (hf j hjl).1
      rw [hfj] at hc
      have hq := (World.cells?_some hc).2.2
      have q0 := hq 0 (by omega)
      have q1 := hq 1 (by omega)
      have q2 := hq 2 (by omega)
      have q3 := hq 3 (by omega)
      rw [add_add9] at q0 q1 q2 q3
      exact ⟨q0, q1, q2, q3⟩
theorem openProg {H : Type} {enc : TypeId × Value → H} {W : World} {v : Value} {d : DataW H} {p : List MemPlace} {base : Nat} {ts : List TypeId} {ds : List (DataW H)} {j : Nat}
    (hv : Value.okWide Tryd.prog W .any base 25 v) (h : DataW.Trod enc Tryd.prog W 0 (fun _ => true) true 25 v d p)
    (hsz : (DataW.weightsEach Tryd.prog ts ds).all (· ≤ reachBytes) = true) (ht : ts[j]? = some 25) (hd : ds[j]? = some d) :
    ∃ (ia oa sa : Option Addr) (il ic ol oc sl sc : Nat) (rg : Int) (ins outs : List Int) (ss : List Stp), v = .agg #[.slice ia il ic, .slice oa ol oc, .int .i64 rg, .slice sa sl sc] ∧
      (-9223372036854775808 ≤ rg ∧ rg ≤ 9223372036854775807) ∧ PrgW W ia oa sa il ic ol oc sl sc ins outs ss ∧ ic ≤ 17592186043904 ∧ oc ≤ 17592186043904 ∧ sc ≤ 4398046510976 := by
  obtain ⟨v0, v1, v2, v3, y0, y1, y2, y3, n', rfl, rfl, _, e0, e1, e2, e3⟩ := open_agg4 Tryd.underlying25 (by kernel_rfl) cellsPr hv h
  obtain ⟨rg, s2, _, w2⟩ := DataW.trod_int Tryd.underlying3 e2
  have hw : ∀ n ∈ DataW.weights Tryd.prog 25 (.agg [y0.1, y1.1, y2.1, y3.1]), n ≤ reachBytes := fun n hn => by
    simpa using List.all_eq_true.1 hsz _ (DataW.weights_mem_each ht hd n hn)
  simp only [DataW.weights, Tryd.underlying25] at hw
  obtain ⟨ia, il, ic, ins, s0, q1, q2, q3, q4, q5, _⟩ := openInts_cell e0 (fun n hn => hw n (by simp [DataW.weightsEach, hn]))
  obtain ⟨oa, ol, oc, outs, s1, o1, o2, o3, o4, o5, _⟩ := openInts_cell e1 (fun n hn => hw n (by simp [DataW.weightsEach, hn]))
  obtain ⟨sa, sl, sc, ss, s3, t1, t2, t3, t4, t5, _⟩ := openSteps_cell e3 (fun n hn => hw n (by simp [DataW.weightsEach, hn]))
  simp only [List.cons.injEq, and_true] at s2
  subst s0 s1 s2 s3
  exact ⟨ia, oa, sa, il, ic, ol, oc, sl, sc, rg, ins, outs, ss, rfl, bounds_i64 w2, ⟨q1, o1, t1, by omega, by omega, by omega, q3, o3, t3, q5, o5, t5, q2, o2, t2⟩, q4, o4, t4⟩
/-- a step alone -/
theorem openStp {H : Type} {enc : TypeId × Value → H} {W : World} {v : Value} {d : DataW H} {p : List MemPlace} {base : Nat}
    (hv : Value.okWide Tryd.prog W .any base 48 v) (h : DataW.Trod enc Tryd.prog W 0 (fun _ => true) true 48 v d p) :
    ∃ (zo zd zs : Int) (zf : F), v = .agg #[.int .i64 zo, .int .i64 zd, .int .i64 zs, .int .u8 (zf.toNat : Int)] ∧ StB ⟨zo, zd, zs, zf⟩ := by
  obtain ⟨v0, v1, v2, v3, y0, y1, y2, y3, n', rfl, rfl, _, e0, e1, e2, e3⟩ := open_agg4 Tryd.underlying48 (by kernel_rfl) cellsSt hv h
  obtain ⟨a, s0, _, w0⟩ := DataW.trod_int Tryd.underlying3 e0
  obtain ⟨b, s1, _, w1⟩ := DataW.trod_int Tryd.underlying3 e1
  obtain ⟨c, s2, _, w2⟩ := DataW.trod_int Tryd.underlying3 e2
  obtain ⟨d, s3, _, w3⟩ := DataW.trod_int Tryd.underlying5 e3
  obtain ⟨f, rfl⟩ := exists_F (bounds_u8 w3).1 (bounds_u8 w3).2
  simp only [List.cons.injEq, and_true] at s0 s1 s2 s3
  subst s0 s1 s2 s3
  exact ⟨a, b, c, f, rfl, bounds_i64 w0, bounds_i64 w1, bounds_i64 w2⟩
end Go.Proofs.YtoalbopcapgojaaDoor

/- The errors' variables, by the rows' condition, where tables stand ahead of them; nothing of the program is proved here. -/
namespace Go.Proofs.YtoalbopcapgojaaDoor
open Go.RowKit Gf
set_option linter.unusedVariables false
set_option maxRecDepth 20000
theorem laidMet_drop {P : Program} {w : World} : ∀ (n : Nat) (laid : List (String × DataW Unit)), laidMet P laid w → laidMet P (laid.drop n) w
  | 0, _, h => h
  | n + 1, [], h => h
  | n + 1, _ :: r, h => laidMet_drop n r h.tail
theorem errs_of_laid_drop {W : World} {laid : List (String × DataW Unit)} {gs : List Nat} (n : Nat) (h : laidMetH Tryd.prog laid W) (hp : (laid.all fun x => x.2.handleName?.isNone) = true)
    (hn : (laid.drop n).map (fun x => Tryd.prog.globalNamed x.1) = gs.map some) (ht : ∀ g ∈ gs, (Tryd.prog.globals[g]?).map (·.type) = some 29) (hd : ∀ x ∈ laid.drop n, ∃ text, x.2 = errD text) : ∃ es, ErrsAt W gs es := by
  rw [MakeChecks.laidMetH_plain _ _ _ hp] at h
  have hp2 : ((laid.drop n).all fun x => x.2.handleName?.isNone) = true := List.all_eq_true.2 fun x hx => List.all_eq_true.1 hp x (List.mem_of_mem_drop hx)
  have h2 : laidMetH Tryd.prog (laid.drop n) W := by
    rw [MakeChecks.laidMetH_plain _ _ _ hp2]
    exact laidMet_drop n laid h
  exact errs_of_laid h2 hp2 hn ht hd
end Go.Proofs.YtoalbopcapgojaaDoor

/- The library's contracts that the program leans on, laid at this program in plain words. -/
namespace Go.Proofs.YtoalbopcapgojaaDoor
open Go.Shelf
set_option linter.unusedVariables false
set_option maxRecDepth 20000
def Tryd.joinA9_ren : Go.Shelf.Ren := ⟨fun | 156 => 44 | 165 => 69 | 166 => 70 | 169 => 71 | 240 => 92 | 241 => 93 | 276 => 102 | 277 => 103 | n => n, fun | 31 => 93 | 9 => 9 | 3 => 3 | 4 => 4 | 0 => 0 | 20 => 20 | 72 => 131 | 76 => 133 | 70 => 129 | 37 => 31 | 75 => 29 | 127 => 144 | 164 => 148 | 5 => 5 | 80 => 135 | n => n, fun | n => n⟩
theorem Tryd.joinA9 : Go.Proofs.Lays.n156 Tryd.prog Tryd.joinA9_ren := {
  mixed := by kernel_rfl
  f156 := Tryd.func44.trans (congrArg some (by kernel_rfl))
  f165 := Tryd.func69.trans (congrArg some (by kernel_rfl))
  f166 := Tryd.func70.trans (congrArg some (by kernel_rfl))
  f169 := Tryd.func71.trans (congrArg some (by kernel_rfl))
  f240 := Tryd.func92.trans (congrArg some (by kernel_rfl))
  f241 := Tryd.func93.trans (congrArg some (by kernel_rfl))
  f276 := Tryd.func102.trans (congrArg some (by kernel_rfl))
  f277 := Tryd.func103.trans (congrArg some (by kernel_rfl))
  t0 := Tryd.underlying0
  a0 := Tryd.isAgg0
  z0 := Tryd.sizeOf0
  v0 := Tryd.zeroValue0
  t3 := Tryd.underlying3
  a3 := Tryd.isAgg3
  z3 := Tryd.sizeOf3
  v3 := Tryd.zeroValue3
  t4 := Tryd.underlying4
  a4 := Tryd.isAgg4
  z4 := Tryd.sizeOf4
  v4 := Tryd.zeroValue4
  t9 := Tryd.underlying9
  a9 := Tryd.isAgg9
  z9 := Tryd.sizeOf9
  v9 := Tryd.zeroValue9
  t20 := Tryd.underlying20
  a20 := Tryd.isAgg20
  z20 := Tryd.sizeOf20
  v20 := Tryd.zeroValue20
  t31 := Tryd.underlying93
  a31 := Tryd.isAgg93
  z31 := Tryd.sizeOf93
  v31 := Tryd.zeroValue93
  t37 := Tryd.underlying31
  a37 := Tryd.isAgg31
  z37 := Tryd.sizeOf31
  v37 := Tryd.zeroValue31
  t70 := Tryd.underlying129
  a70 := Tryd.isAgg129
  z70 := Tryd.sizeOf129
  v70 := Tryd.zeroValue129
  t72 := Tryd.underlying131
  a72 := Tryd.isAgg131
  z72 := Tryd.sizeOf131
  v72 := Tryd.zeroValue131
  t75 := Tryd.underlying29
  a75 := Tryd.isAgg29
  z75 := Tryd.sizeOf29
  v75 := Tryd.zeroValue29
  t76 := Tryd.underlying133
  a76 := Tryd.isAgg133
  z76 := Tryd.sizeOf133
  v76 := Tryd.zeroValue133
  t127 := Tryd.underlying144
  a127 := Tryd.isAgg144
  z127 := Tryd.sizeOf144
  v127 := Tryd.zeroValue144
  t164 := Tryd.underlying148
  a164 := Tryd.isAgg148
  z164 := Tryd.sizeOf148
  v164 := Tryd.zeroValue148 }
def Tryd.itoaA_ren : Go.Shelf.Ren := ⟨fun | 171 => 68 | 243 => 91 | 246 => 101 | 283 => 105 | 284 => 106 | 285 => 107 | 286 => 108 | 129 => 113 | 317 => 112 | 318 => 114 | 319 => 115 | 320 => 116 | 337 => 118 | 338 => 119 | n => n, fun | 3 => 3 | 9 => 9 | 2 => 2 | 4 => 4 | 171 => 153 | 0 => 0 | 53 => 154 | 37 => 31 | 5 => 5 | 173 => 157 | 212 => 164 | 51 => 165 | 20 => 20 | 213 => 166 | 46 => 161 | 232 => 170 | 233 => 171 | n => n, fun | 17 => 26 | 18 => 27 | 19 => 28 | n => n⟩
theorem Tryd.itoaA : Go.Proofs.LaysM.n171 Tryd.prog Tryd.itoaA_ren := {
  mixed := by kernel_rfl
  f129 := Tryd.func113.trans (congrArg some (by kernel_rfl))
  f171 := Tryd.func68.trans (congrArg some (by kernel_rfl))
  f243 := Tryd.func91.trans (congrArg some (by kernel_rfl))
  f246 := Tryd.func101.trans (congrArg some (by kernel_rfl))
  f283 := Tryd.func105.trans (congrArg some (by kernel_rfl))
  f284 := Tryd.func106.trans (congrArg some (by kernel_rfl))
  f285 := Tryd.func107.trans (congrArg some (by kernel_rfl))
  f286 := Tryd.func108.trans (congrArg some (by kernel_rfl))
  f317 := Tryd.func112.trans (congrArg some (by kernel_rfl))
  f318 := Tryd.func114.trans (congrArg some (by kernel_rfl))
  f319 := Tryd.func115.trans (congrArg some (by kernel_rfl))
  f320 := Tryd.func116.trans (congrArg some (by kernel_rfl))
  f337 := Tryd.func118.trans (congrArg some (by kernel_rfl))
  f338 := Tryd.func119.trans (congrArg some (by kernel_rfl))
  t0 := Tryd.underlying0
  a0 := Tryd.isAgg0
  z0 := Tryd.sizeOf0
  v0 := Tryd.zeroValue0
  t2 := Tryd.underlying2
  a2 := Tryd.isAgg2
  z2 := Tryd.sizeOf2
  v2 := Tryd.zeroValue2
  t3 := Tryd.underlying3
  a3 := Tryd.isAgg3
  z3 := Tryd.sizeOf3
  v3 := Tryd.zeroValue3
  t4 := Tryd.underlying4
  a4 := Tryd.isAgg4
  z4 := Tryd.sizeOf4
  v4 := Tryd.zeroValue4
  t5 := Tryd.underlying5
  a5 := Tryd.isAgg5
  z5 := Tryd.sizeOf5
  v5 := Tryd.zeroValue5
  t9 := Tryd.underlying9
  a9 := Tryd.isAgg9
  z9 := Tryd.sizeOf9
  v9 := Tryd.zeroValue9
  t20 := Tryd.underlying20
  a20 := Tryd.isAgg20
  z20 := Tryd.sizeOf20
  v20 := Tryd.zeroValue20
  t37 := Tryd.underlying31
  a37 := Tryd.isAgg31
  z37 := Tryd.sizeOf31
  v37 := Tryd.zeroValue31
  t46 := Tryd.underlying161
  a46 := Tryd.isAgg161
  z46 := Tryd.sizeOf161
  v46 := Tryd.zeroValue161
  t51 := Tryd.underlying165
  a51 := Tryd.isAgg165
  z51 := Tryd.sizeOf165
  v51 := Tryd.zeroValue165
  t53 := Tryd.underlying154
  a53 := Tryd.isAgg154
  z53 := Tryd.sizeOf154
  v53 := Tryd.zeroValue154
  t171 := Tryd.underlying153
  a171 := Tryd.isAgg153
  z171 := Tryd.sizeOf153
  v171 := Tryd.zeroValue153
  t173 := Tryd.underlying157
  a173 := Tryd.isAgg157
  z173 := Tryd.sizeOf157
  v173 := Tryd.zeroValue157
  t212 := Tryd.underlying164
  a212 := Tryd.isAgg164
  z212 := Tryd.sizeOf164
  v212 := Tryd.zeroValue164
  t213 := Tryd.underlying166
  a213 := Tryd.isAgg166
  z213 := Tryd.sizeOf166
  t232 := Tryd.underlying170
  a232 := Tryd.isAgg170
  z232 := Tryd.sizeOf170
  v232 := Tryd.zeroValue170
  t233 := Tryd.underlying171
  a233 := Tryd.isAgg171
  z233 := Tryd.sizeOf171
  v233 := Tryd.zeroValue171
  g17 := by kernel_rfl
  g18 := by kernel_rfl
  g19 := by kernel_rfl
  i0 := by kernel_rfl
  i2 := by kernel_rfl
  i3 := by kernel_rfl
  i4 := by kernel_rfl
  i5 := by kernel_rfl
  i9 := by kernel_rfl
  i20 := by kernel_rfl
  i37 := by kernel_rfl
  i46 := by kernel_rfl
  i51 := by kernel_rfl
  i53 := by kernel_rfl
  i171 := by kernel_rfl
  i173 := by kernel_rfl
  i212 := by kernel_rfl
  i232 := by kernel_rfl
  i233 := by kernel_rfl
  m17 := by kernel_rfl
  m18 := by kernel_rfl
  m19 := by kernel_rfl }
end Go.Proofs.YtoalbopcapgojaaDoor

/- What Check and Group of package base answer, and the document's own Legal and Group, of all numbers. -/
namespace Go.Proofs.YtoalbopcapgojaaDoor
open Go.RowKit Gf
set_option linter.unusedVariables false
set_option maxRecDepth 20000
/-- legal numbers of shards -/
def LegalP (k r : Int) : Prop := 1 ≤ k ∧ 2 ≤ r ∧ k + r ≤ 16
instance (k r : Int) : Decidable (LegalP k r) := inferInstanceAs (Decidable (_ ∧ _))
theorem legal_nat {k r : Int} (h : LegalP k r) : ∃ a b : Nat, k = a ∧ r = b ∧ 1 ≤ a ∧ 2 ≤ b ∧ a + b ≤ 16 := by
  obtain ⟨h1, h2, h3⟩ := h
  exact ⟨k.toNat, r.toNat, by omega, by omega, by omega, by omega, by omega⟩
/-- how many data shards a group has at most -/
def groupN (k r : Nat) : Nat := (k + (r - 1) - 1) / (r - 1)
theorem groupN_a : ∀ k < 15, ∀ r < 17, 1 ≤ k → 2 ≤ r → 1 ≤ groupN k r ∧ k ≤ groupN k r * (r - 1) := by decide +kernel
theorem groupN_b : ∀ k < 15, ∀ r < 17, 1 ≤ k → 2 ≤ r → (groupN k r - 1) * (r - 1) < k ∧ groupN k r ≤ 16 := by decide +kernel
theorem groupN_least {k r : Nat} (h1 : 1 ≤ k) (h2 : 2 ≤ r) (h3 : k + r ≤ 16) : 1 ≤ groupN k r ∧ k ≤ groupN k r * (r - 1) ∧ (groupN k r - 1) * (r - 1) < k ∧ groupN k r ≤ 16 :=
  let a := groupN_a k (by omega) r (by omega) h1 h2; let b := groupN_b k (by omega) r (by omega) h1 h2; ⟨a.1, a.2, b.1, b.2⟩
end Go.Proofs.YtoalbopcapgojaaDoor

/- What the small functions of package half answer: there, placeOf, number, find, carrier, carrying, Of, Split, Carrier; and the document's own Carrier; nothing that was there turns. -/
namespace Go.Proofs.YtoalbopcapgojaaDoor
open Go.RowKit Gf
set_option linter.unusedVariables false
set_option maxRecDepth 20000
/-- the parity that carries a data shard -/
def carN (g j : Nat) : Nat := j / g + 1
theorem carN_le {g j : Nat} : carN g j ≤ j + 1 := by
  have := Nat.div_le_self j g
  simp only [carN]; omega
end Go.Proofs.YtoalbopcapgojaaDoor

/- What find, Of, Split and Carrier of package half answer, at all numbers; nothing that was there turns. -/
namespace Go.Proofs.YtoalbopcapgojaaDoor
open Go.RowKit Gf
set_option linter.unusedVariables false
set_option maxRecDepth 20000
end Go.Proofs.YtoalbopcapgojaaDoor

/- What small numbers in decimal, and names of halves, answer: the library's Itoa, nameOf, Name, Parse of package half, the document's own Number and Name; nothing that was there turns. -/
namespace Go.Proofs.YtoalbopcapgojaaDoor
open Go.RowKit Gf
set_option linter.unusedVariables false
set_option maxRecDepth 20000
/-- a number below a hundred in decimal -/
def numB (n : Nat) : List UInt8 := if n < 10 then [UInt8.ofNat (48 + n)] else [UInt8.ofNat (48 + n / 10), UInt8.ofNat (48 + n % 10)]
/-- bytes as a string -/
def strB (l : List UInt8) : ByteArray := ⟨l.toArray⟩
theorem numB_dec {n : Nat} (h : n < 100) : Lib.decDigits n = numB n := by
  by_cases h1 : n < 10
  · rw [Lib.decDigits_one h1, numB, if_pos h1]
  · rw [Lib.decDigits_two h1 h, numB, if_neg h1]
theorem small_ba (x : ByteArray) (l : List UInt8) (h : x.data.toList = l) : x = strB l := by
  subst h
  cases x
  simp [strB]
theorem extr_data (x : ByteArray) (i j : Nat) : (x.extract i j).data.toList = (x.data.toList.drop i).take (j - i) := by
  simp [ByteArray.data_extract]
set_option maxHeartbeats 2000000 in
set_option maxRecDepth 100000 in
theorem small_F (i : Nat) (h : i < 100) (w : World) : Calls Tryd.prog 105 #[.int .i64 i] w fun e w' => e = .returned (.string (strB (numB i))) ∧ w = w' := by
  rw [← numB_dec h]
  go_enter Tryd.func105, Tryd.ntmps105
  go_name_bytes_deep 45 SM hSM
  have eSM : SM = Lib.smalls := by rw [← hSM]; decide +kernel
  subst eSM
  clear hSM
  go_name_bytes_deep 30 DG hDG
  have eDG : DG = Lib.digits36 := by rw [← hDG]; decide +kernel
  subst eDG
  clear hDG
  by_cases h10 : i < 10
  · have hsl : ∀ w, (Instr.slice 9 (.string Lib.digits36) (some (.int .i64 (i : Int))) (some (.int .i64 ((i : Int) + 1))) none).run Tryd.prog w = .ok (.string (Lib.digits36.extract i (i + 1))) w := fun w => by
      rw [run_slice_string w 9 Lib.digits36 .i64 .i64 _ _ Tryd.underlying9 (by omega) (by omega) (by rw [Lib.digits36_size]; omega), show ((i : Int)).toNat = i by omega, show ((i : Int) + 1).toNat = i + 1 by omega]
    go_wp2
    go_ret
    refine ⟨?_, rfl⟩
    show Ending.returned (Value.string (Lib.digits36.extract i (i + 1))) = _
    rw [small_ba (Lib.digits36.extract i (i + 1)) (Lib.decDigits i) (by rw [extr_data]; exact Lib.digits36_piece h10)]
  · have hsl : ∀ w, (Instr.slice 9 (.string Lib.smalls) (some (.int .i64 ((i : Int) * 2))) (some (.int .i64 ((i : Int) * 2 + 2))) none).run Tryd.prog w = .ok (.string (Lib.smalls.extract (i * 2) (i * 2 + 2))) w := fun w => by
      rw [run_slice_string w 9 Lib.smalls .i64 .i64 _ _ Tryd.underlying9 (by omega) (by omega) (by rw [Lib.smalls_size]; omega), show ((i : Int) * 2).toNat = i * 2 by omega, show ((i : Int) * 2 + 2).toNat = i * 2 + 2 by omega]
    go_wp2
    go_ret
    refine ⟨?_, rfl⟩
    show Ending.returned (Value.string (Lib.smalls.extract (i * 2) (i * 2 + 2))) = _
    rw [small_ba (Lib.smalls.extract (i * 2) (i * 2 + 2)) (Lib.decDigits i) (by rw [extr_data]; exact Lib.smalls_piece h10 h)]
set_option maxRecDepth 100000 in
theorem itoa_F (i : Nat) (h : i < 100) (w : World) : Calls Tryd.prog 68 #[.int .i64 i] w fun e w' => e = .returned (.string (strB (numB i))) ∧ w = w' := by
  go_enter Tryd.func68, Tryd.ntmps68
  go_wp2_with (first
    | (go_at_call 105; refine (small_F i h _).mono ?_; rintro e w' ⟨rfl, rfl⟩)
    | go_in)
  go_ret
  exact ⟨rfl, rfl⟩
/-- a half's name -/
def nameB (k h : Nat) : List UInt8 := (if h / 2 < k then 100 :: numB (h / 2) else 112 :: numB (h / 2 - k)) ++ [if h % 2 = 0 then 97 else 98]
theorem ab0 : (⟨#[97, 98]⟩ : ByteArray).extract 0 1 = strB [97] := by decide +kernel
theorem ab1 : (⟨#[97, 98]⟩ : ByteArray).extract 1 2 = strB [98] := by decide +kernel
theorem strB_app (a b : List UInt8) : strB a ++ strB b = strB (a ++ b) := by
  apply ByteArray.ext
  simp [strB]
theorem strB_size (l : List UInt8) : (strB l).size = l.length := by simp [strB, ByteArray.size]
theorem numB_size (n : Nat) : (strB (numB n)).size ≤ 2 := by
  rw [strB_size, numB]
  split <;> simp
theorem strB_one (c : UInt8) : (⟨#[c]⟩ : ByteArray) = strB [c] := rfl
theorem strB_nil : (⟨#[]⟩ : ByteArray) = strB [] := rfl
theorem strB_inj {a b : List UInt8} (h : strB a = strB b) : a = b := by
  have := congrArg (fun x => x.data.toList) h
  simpa [strB] using this
def dig (d : Nat) : UInt8 := UInt8.ofNat (48 + d)
theorem numB_one {n : Nat} (h : n < 10) : numB n = [dig n] := if_pos h
theorem numB_two {n : Nat} (h : ¬ n < 10) : numB n = [dig (n / 10), dig (n % 10)] := if_neg h
theorem strB_list (l : List UInt8) : (strB l).toList = l := by simp [strB]
theorem strB_some {l : List UInt8} (h : l ≠ []) : (strB l).toList.isEmpty = false := by rw [strB_list]; cases l with | nil => exact absurd rfl h | cons => rfl
theorem numB_ne (n : Nat) : numB n ≠ [] := by rw [numB]; split <;> simp
def emptyN : Value → Nat | .string b => if b.size = 0 then 1 else 0 | _ => 0
theorem vf_digit {d : Nat} (h : d < 10) : Value.int .u8 (48 + (d : Int)) = vf (dig d) := by
  have : (UInt8.ofNat (48 + d)).toNat = 48 + d := by rw [UInt8.toNat_ofNat']; omega
  simp only [vf, dig, this]
  simp
theorem conv_digit {d : Nat} (h : d < 10) (w : World) : (convert 31 9 (.slice (some ⟨w.heap.size, 0, none⟩) 1 1)).run Tryd.prog (w.alloc (.cells #[.int .u8 (48 + (d : Int))] 5)) = .ok (.string (strB [dig d])) (w.alloc (.cells #[.int .u8 (48 + (d : Int))] 5)) := by
  rw [vf_digit h]
  exact conv8 (xs := [dig d]) rfl (row8_own (heap_alloc_last w (.cells (vfs [dig d]) 5)))
set_option maxHeartbeats 1000000 in
/-- the document's own number in decimal -/
theorem rnumber_F (n : Nat) (w : World) (h : n < 100) : Calls Tryd.prog 46 #[.int .i64 n] w fun e w' => e = .returned (.string (strB (numB n))) ∧ Below w.heap.size w w' := by
  obtain ⟨q, d, hd, hq, e1, e2, en⟩ : ∃ q d : Nat, d < 10 ∧ q < 10 ∧ (n : Int) % 10 = d ∧ (n : Int) / 10 = q ∧ n = 10 * q + d := ⟨n / 10, n % 10, by omega, by omega, by omega, by omega, by omega⟩
  have HE : Hid _ := en
  clear en
  go_enter Tryd.func46, Tryd.ntmps46
  go_wp2
  go_loopw [0, 3] (fun v s wr => Below w.heap.size w wr ∧ (v = .int .i64 n ∧ s = .string ⟨#[]⟩ ∨ 1 ≤ q ∧ v = .int .i64 q ∧ s = .string (strB [dig d]) ∨ v = .int .i64 0 ∧ s = .string (strB (numB n)))) (fun v s wr => (intOf v).toNat + emptyN s)
  case atStart => exact ⟨Below.refl _ _, .inl ⟨rfl, rfl⟩⟩
  case round =>
    obtain ⟨hb, ⟨rfl, rfl⟩ | ⟨h10, rfl, rfl⟩ | ⟨rfl, rfl⟩⟩ := hrel
    · have HB : Hid _ := hb
      clear hb
      have hcv := conv_digit hd wr
      go_wp2
      have hB2 := HB.out.alloc HB.out.size (.cells #[.int .u8 (48 + (d : Int))] 5)
      have hst : strB [dig d] ++ ⟨#[]⟩ = strB [dig d] := strB_app [dig d] []
      rw [hst]
      by_cases hq0 : q = 0
      · subst hq0
        have hn : n = d := by have := HE.out; omega
        refine ⟨⟨hB2, .inr (.inr ⟨rfl, ?_⟩)⟩, ?_⟩
        · rw [numB_one (by omega), hn]
        · simp [intOf, emptyN, strB_size, strB_nil]
      · refine ⟨⟨hB2, .inr (.inl ⟨by omega, rfl, rfl⟩)⟩, ?_⟩
        have := HE.out
        simp [intOf, emptyN, strB_size, strB_nil]; omega
    · have HB : Hid _ := hb
      clear hb
      have hcv := conv_digit hq wr
      have hse := strB_some (show [dig d] ≠ [] by simp)
      have e3 : (q : Int) % 10 = q := by omega
      have e4 : (q : Int) / 10 = 0 := by omega
      go_wp2
      have hB2 := HB.out.alloc HB.out.size (.cells #[.int .u8 (48 + (q : Int))] 5)
      have hst : strB [dig q] ++ strB [dig d] = strB [dig q, dig d] := strB_app [dig q] [dig d]
      rw [hst]
      have hn := HE.out
      refine ⟨⟨hB2, .inr (.inr ⟨rfl, ?_⟩)⟩, ?_⟩
      · rw [numB_two (by omega), show n / 10 = q by omega, show n % 10 = d by omega]
      · simp [intOf, emptyN, strB_size]; omega
    · have HB : Hid _ := hb
      clear hb
      have hse := strB_some (numB_ne n)
      go_wp2
      go_ret
      exact ⟨rfl, HB.out⟩
end Go.Proofs.YtoalbopcapgojaaDoor

/- The document's own numbers in decimal, of any size. -/
namespace Go.Proofs.YtoalbopcapgojaaDoor
open Go.RowKit Gf
set_option linter.unusedVariables false
set_option maxRecDepth 20000
set_option linter.unusedSimpArgs false
theorem dec_step {m : Nat} (h : 10 ≤ m) : Lib.decDigits m = Lib.decDigits (m / 10) ++ [dig (m % 10)] := by
  rw [Lib.decDigits, dif_neg (by omega)]
  rfl
theorem dec_one {m : Nat} (h : m < 10) : Lib.decDigits m = [dig m] := Lib.decDigits_one h
theorem dec_len (m : Nat) : (Lib.decDigits m).length ≤ m + 1 := by
  induction m using Nat.strongRecOn with
  | _ m ih =>
    by_cases h : m < 10
    · rw [dec_one h]; simp
    · rw [dec_step (by omega), List.length_append]
      have := ih (m / 10) (by omega)
      simp only [List.length_cons, List.length_nil]
      omega
set_option maxHeartbeats 2000000 in
/-- the document's own number in decimal -/
theorem rnumber9_F (n : Nat) (w : World) (h : n < 4611686018427387904) : Calls Tryd.prog 46 #[.int .i64 n] w fun e w' => e = .returned (.string (strB (Lib.decDigits n))) ∧ Below w.heap.size w w' := by
  have hn9 : (n : Int) ≤ 4611686018427387904 := by omega
  go_enter Tryd.func46, Tryd.ntmps46
  go_wp2
  go_loopw [0, 3] (fun v s wr => Below w.heap.size w wr ∧ ∃ (m : Nat) (l : List UInt8), m ≤ n ∧ v = .int .i64 m ∧ s = .string (strB l) ∧ ((l = [] ∧ m = n) ∨ (l ≠ [] ∧ m = 0 ∧ l = Lib.decDigits n) ∨ (l ≠ [] ∧ 1 ≤ m ∧ Lib.decDigits m ++ l = Lib.decDigits n))) (fun v s wr => (intOf v).toNat + emptyN s)
  case atStart => exact ⟨Below.refl _ _, n, [], Nat.le_refl _, rfl, rfl, .inl ⟨rfl, rfl⟩⟩
  case round =>
    obtain ⟨hb, m, l, hm, rfl, rfl, hc⟩ := hrel
    have HB : Hid _ := hb
    have HC : Hid ((l = [] ∧ m = n) ∨ (l ≠ [] ∧ m = 0 ∧ l = Lib.decDigits n) ∨ (l ≠ [] ∧ 1 ≤ m ∧ Lib.decDigits m ++ l = Lib.decDigits n)) := hc
    clear hb hc
    by_cases hfin : l ≠ [] ∧ m = 0
    · have hl : l = Lib.decDigits n := by
        rcases HC.out with ⟨h1, _⟩ | ⟨_, _, h2⟩ | ⟨_, h1, _⟩
        · exact absurd h1 hfin.1
        · exact h2
        · omega
      have hse := strB_some hfin.1
      obtain ⟨_, rfl⟩ := hfin
      have HL : Hid _ := hl
      clear hl
      go_wp2
      go_ret
      exact ⟨by rw [HL.out]; rfl, HB.out⟩
    · have hgo : Lib.decDigits m ++ l = Lib.decDigits n := by
        rcases HC.out with ⟨h1, h2⟩ | ⟨h1, h2, _⟩ | ⟨_, _, h2⟩
        · rw [h1, h2, List.append_nil]
        · exact absurd ⟨h1, h2⟩ hfin
        · exact h2
      have hwhy : l = [] ∨ 1 ≤ m := by
        by_cases e : l = []
        · exact .inl e
        · exact .inr (Nat.pos_of_ne_zero fun h0 => hfin ⟨e, h0⟩)
      have HGO : Hid (Lib.decDigits m ++ l = Lib.decDigits n) := hgo
      have HW : Hid (l = [] ∨ 1 ≤ m) := hwhy
      clear hgo hwhy hfin
      obtain ⟨q, dd, hd, e1, e2, en⟩ : ∃ q dd : Nat, dd < 10 ∧ (m : Int) % 10 = dd ∧ (m : Int) / 10 = q ∧ m = 10 * q + dd := ⟨m / 10, m % 10, by omega, by omega, by omega, by omega⟩
      have HE : Hid (m = 10 * q + dd) := en
      have hcv := conv_digit hd wr
      have hlen : (strB [dig dd]).size + (strB l).size ≤ 4611686018427387906 := by
        have h1 := congrArg List.length HGO.out
        have h2 := dec_len n
        rw [List.length_append] at h1
        rw [strB_size, strB_size]
        simp only [List.length_cons, List.length_nil]
        omega
      have hst : strB [dig dd] ++ strB l = strB (dig dd :: l) := strB_app [dig dd] l
      have HQ : Hid (q ≤ n ∧ ((dig dd :: l) ≠ [] ∧ q = 0 ∧ (dig dd :: l) = Lib.decDigits n ∨ (dig dd :: l) ≠ [] ∧ 1 ≤ q ∧ Lib.decDigits q ++ (dig dd :: l) = Lib.decDigits n)) := by
        refine ⟨by omega, ?_⟩
        by_cases hq : q = 0
        · refine .inl ⟨by simp, hq, ?_⟩
          rw [← HGO.out, dec_one (by omega), show m = dd by omega]
          rfl
        · refine .inr ⟨by simp, by omega, ?_⟩
          rw [← HGO.out, dec_step (m := m) (by omega), show m / 10 = q by omega, show m % 10 = dd by omega, List.append_assoc]
          rfl
      clear en
      by_cases h0 : l = []
      · subst h0
        have hse : (strB ([] : List UInt8)).toList.isEmpty = true := by rw [strB_list]; rfl
        go_wp2
        have hB2 := HB.out.alloc HB.out.size (.cells #[.int .u8 (48 + (dd : Int))] 5)
        exact ⟨⟨hB2, q, dig dd :: [], HQ.out.1, by first | rfl | go_num, by first | rfl | rw [hst], .inr HQ.out.2⟩, by have := HE.out; simp [intOf, emptyN, strB_size, hst] <;> omega⟩
      · have hse := strB_some h0
        have hm1 : 1 ≤ m := HW.out.resolve_left h0
        go_wp2
        have hB2 := HB.out.alloc HB.out.size (.cells #[.int .u8 (48 + (dd : Int))] 5)
        exact ⟨⟨hB2, q, dig dd :: l, HQ.out.1, by first | rfl | go_num, by first | rfl | rw [hst], .inr HQ.out.2⟩, by have := HE.out; simp [intOf, emptyN, strB_size, hst] <;> omega⟩
end Go.Proofs.YtoalbopcapgojaaDoor

/- Texts of package prog: what stands in the surroundings (the error, the table of powers), numbers in decimal, lists of texts that grow, pieces. -/
namespace Go.Proofs.YtoalbopcapgojaaDoor
open Go.RowKit Go.Shelf Gf
set_option linter.unusedVariables false
set_option maxRecDepth 20000
set_option linter.unusedSimpArgs false
theorem Tryd.joinX9 : Go.Proofs.Builder.Extra Tryd.prog Tryd.joinA9_ren := {
  sizeBuilder := by kernel_rfl
  liesBuilder := by kernel_rfl
  t5 := Tryd.underlying5
  a5 := Tryd.isAgg5
  z5 := Tryd.sizeOf5
  v5 := Tryd.zeroValue5
  infoByte := by kernel_rfl
  cellsByte := by kernel_rfl
  sizeByte := by kernel_rfl
  neB5 := by decide }
/-- the table of powers of ten -/
def TabW (w : World) : Prop := Lib.TabIs Tryd.prog w "internal/strconv.uint64pow10" .u64 Lib.pow10Tab
theorem tabW_below {w w' : World} (h : TabW w) (hb : Below w.heap.size w w') : TabW w' := by
  have hg : Tryd.prog.globalNamed "internal/strconv.uint64pow10" = some 26 := by kernel_rfl
  unfold TabW Lib.TabIs World.var? at h ⊢
  rw [hg] at h ⊢
  simp only [Option.bind_some] at h ⊢
  have hlt : 26 < w.heap.size := by
    rcases Nat.lt_or_ge 26 w.heap.size with h' | h'
    · exact h'
    · rw [Array.getElem?_eq_none h'] at h; cases h
  rw [hb.block _ hlt]
  exact h
/-- what calls of package prog lean on: the error and the table -/
structure EnvP (w : World) (s : Addr) : Prop where
  err : w.cell? ⟨0, 0, none⟩ = some (errAt s)
  tab : TabW w
theorem EnvP.below {w w' : World} {s : Addr} (h : EnvP w s) (hb : Below w.heap.size w w') : EnvP w' s := ⟨cell_later hb h.err, tabW_below h.tab hb⟩
theorem strB_data9 (l : List UInt8) : (strB l).data.toList = l := by simp [strB]
theorem itoa9_F (n : Nat) (hn : n ≤ 1000000) (w : World) (ht : TabW w) : Calls Tryd.prog 68 #[.int .i64 n] w fun e w' => e = .returned (.string (strB (Lib.decDigits n))) ∧ Below w.heap.size w w' := by
  refine (Any.strconv_Itoa Tryd.itoaA (n : Int) (by omega) (by omega) w ht).mono ?_
  rintro e w' ⟨rfl, k, os, rfl⟩
  have e1 : Lib.itoa (n : Int) = Lib.decDigits n := by rw [Lib.itoa, if_neg (by omega), Int.toNat_natCast]
  rw [e1]
  exact ⟨rfl, ⟨rfl, rfl, rfl, by show w.heap.size ≤ (w.heap ++ os).size; rw [Array.size_append]; omega, fun j hj => by
    show (w.heap ++ os)[j]? = w.heap[j]?
    rw [Array.getElem?_append_left hj]⟩⟩
theorem join9_F (bk o c : Nat) (xs : List (List UInt8)) (sep : List UInt8) (w : World)
    (hcells : ∀ (j : Nat) x, xs[j]? = some x → w.cell? ⟨bk, o + j, none⟩ = some (.string (strB x))) (hbk : bk < w.heap.size) (hN : xs.length ≤ 140737488355328) (hcap : xs.length ≤ c) (hlen : (Lib.join xs sep).length ≤ 140737488355328) :
    Calls Tryd.prog 44 #[.slice (some ⟨bk, o, none⟩) xs.length c, .string (strB sep)] w fun e w' => e = .returned (.string (strB (Lib.join xs sep))) ∧ Below w.heap.size w w' := by
  have e1 : (xs.map strB).map (·.data.toList) = xs := by
    rw [List.map_map]
    conv => rhs; rw [← List.map_id xs]
    apply List.map_congr_left
    intro x _
    exact strB_data9 x
  have h := Any.strings_Join Tryd.joinA9 Tryd.joinX9 bk o c (xs.map strB) (strB sep) w (fun j x hx => by
    rw [List.getElem?_map, Option.map_eq_some_iff] at hx
    obtain ⟨y, hy, rfl⟩ := hx
    exact hcells j y hy) hbk (by rwa [List.length_map]) (by rwa [List.length_map]) (by rw [e1, strB_data9]; exact hlen)
  rw [e1, strB_data9, List.length_map] at h
  exact h
theorem infoZ : ∃ i, Tryd.prog.info? 9 = some i ∧ i.size = 1 ∧ i.bytes = 16 ∧ i.zero = some (.string ⟨#[]⟩) := by
  have hi : (Tryd.prog.info? 9).map (fun i => (i.size, i.bytes, i.zero)) = some (1, 16, some (.string ⟨#[]⟩)) := by kernel_rfl
  cases hq : Tryd.prog.info? 9 with
  | none => simp [hq] at hi
  | some i =>
    simp only [hq, Option.map_some, Option.some.injEq, Prod.mk.injEq] at hi
    exact ⟨i, rfl, hi.1, hi.2.1, hi.2.2⟩
def zvs (xs : List (List UInt8)) : List Value := xs.map fun x => .string (strB x)
theorem zvs_len (xs : List (List UInt8)) : (zvs xs).length = xs.length := by simp [zvs]
/-- one text more behind a list of texts of one's own -/
theorem appendZ {w : World} {B n b c : Nat} {v : Value} {x : List UInt8} {xs : List (List UInt8)} (ty : TypeId) (ho : w.ownsRow B 9 1 v n (zvs xs)) (hx : w.cell? ⟨b, 0, none⟩ = some (.string (strB x))) (hn : n ≤ 1000000) (hB : B ≤ w.heap.size) :
    ∃ g cap w', (Builtin.append_ #[93, 93] ty #[v, .slice (some ⟨b, 0, none⟩) 1 c]).run Tryd.prog w = .ok (.slice (some ⟨g, 0, none⟩) (n + 1) cap) w' ∧
      w'.ownsRow B 9 1 (.slice (some ⟨g, 0, none⟩) (n + 1) cap) (n + 1) (zvs (xs ++ [x])) ∧ w.grownBy w' v.ownBlock ∧ (v.ownBlock = some g ∨ g = w.heap.size) ∧ g < w'.heap.size := by
  obtain ⟨i, hi, h2, h3, h4⟩ := infoZ
  have e : zvs (xs ++ [x]) = zvs xs ++ [.string (strB x)] := by simp [zvs]
  rw [e]
  exact run_append_lies (P := Tryd.prog) w 93 ty B 9 i _ 1 16 Tryd.underlying93 hi h4 h2 h3 rfl (by decide) v n (zvs xs) ho ⟨b, 0, none⟩ 1 c [.string (strB x)] rfl (news_one hx) (by simp [Value.oneCell']) (by decide) (by simp only [maxLen]; omega) (by omega) hB _ rfl
/-- a new block of texts is a list of one's own -/
theorem ownsZ_new {w : World} {g n : Nat} {xs : List (List UInt8)} (h : w.heap[g]? = some (.cells (zvs xs).toArray 9 (0, 0))) (hn : n = xs.length) (hm : n ≤ 1000) {B : Nat} (hB : B ≤ g) : w.ownsRow B 9 1 (.slice (some ⟨g, 0, none⟩) n n) n (zvs xs) := by
  subst hn
  refine ⟨by rw [zvs_len, Nat.mul_one], .inr ⟨g, xs.length, _, rfl, hB, h, Nat.le_refl _, by simp only [maxLen]; omega, by simp [zvs_len], ?_⟩⟩
  rw [Nat.mul_one, List.toList_toArray]
  exact List.take_of_length_le (by rw [zvs_len]; exact Nat.le_refl _)
theorem ownsZ_cells {w : World} {B n : Nat} {v : Value} {xs : List (List UInt8)} (ho : w.ownsRow B 9 1 v n (zvs xs)) (h1 : 1 ≤ n) : ∃ g cap, v = .slice (some ⟨g, 0, none⟩) n cap ∧ n ≤ cap ∧ n = xs.length ∧ g < w.heap.size ∧ ∀ (j : Nat) x, xs[j]? = some x → w.cell? ⟨g, 0 + j, none⟩ = some (.string (strB x)) := by
  have hl := ho.1
  rw [zvs_len, Nat.mul_one] at hl
  rcases ho.2 with ⟨_, e⟩ | ⟨g, cap, cur, rfl, hB, hg, hle, h5, h6, h7⟩
  · omega
  · refine ⟨g, cap, rfl, hle, hl.symm, ltHeap hg, fun j x hx => ?_⟩
    have hj : j < n := by rw [← hl]; exact (List.getElem?_eq_some_iff.1 hx).1
    refine cellAt hg (0 + j) _ ?_
    rw [Nat.zero_add, ← Array.getElem?_toList, ← List.getElem?_take_of_lt (show j < n * 1 by omega), h7, zvs, List.getElem?_map, hx]
    rfl
/-- a piece: a word, and numbers behind it -/
def numT (x : Int) : List UInt8 := 32 :: Lib.decDigits x.toNat
def pieceB (wd : List UInt8) (ns : List Int) : List UInt8 := wd ++ ns.flatMap numT
theorem piece_join (wd : List UInt8) (ns : List Int) : Lib.join (wd :: ns.map fun x => Lib.decDigits x.toNat) [32] = pieceB wd ns := by
  rw [Lib.join_cons, Lib.joinTail, pieceB, List.map_map, List.flatMap]
  rfl
theorem dec_short {n : Nat} (h : n < 1000) : (Lib.decDigits n).length ≤ 3 := by
  by_cases h1 : n < 10
  · rw [dec_one h1]; simp
  · rw [dec_step (by omega), List.length_append]
    by_cases h2 : n / 10 < 10
    · rw [dec_one h2]; simp
    · rw [dec_step (by omega), List.length_append, dec_one (by omega)]; simp
theorem pieceB_len {wd : List UInt8} : ∀ {ns : List Int}, (∀ x ∈ ns, 0 ≤ x ∧ x < 1000) → (pieceB wd ns).length ≤ wd.length + 4 * ns.length
  | [], _ => by simp [pieceB]
  | x :: ns, h => by
    have h1 := pieceB_len (wd := wd) (ns := ns) (fun y hy => h y (List.mem_cons_of_mem _ hy))
    have h2 := h x List.mem_cons_self
    have h3 := dec_short (n := x.toNat) (by omega)
    simp only [pieceB, List.flatMap_cons, List.length_append, numT, List.length_cons] at h1 ⊢
    omega
set_option maxHeartbeats 8000000 in
theorem piece_F (wd : List UInt8) (l cap : Nat) (a : Option Addr) (ns : List Int) (w : World) (ht : TabW w) (hl : l = ns.length) (hl9 : l ≤ 64) (hcap : l ≤ cap) (hX : RowI w a ns) (hr : ∀ x ∈ ns, 0 ≤ x ∧ x < 1000) (hwd : wd.length ≤ 64) :
    Calls Tryd.prog 42 #[.string (strB wd), .slice a l cap] w fun e w' => e = .returned (.string (strB (pieceB wd ns))) ∧ Below w.heap.size w w' := by
  have HT : Hid (TabW w) := ht
  have HL : Hid (l = ns.length) := hl
  have HX : Hid (RowI w a ns) := hX
  have HR : Hid (∀ x ∈ ns, 0 ≤ x ∧ x < 1000) := hr
  have HWD : Hid (wd.length ≤ 64) := hwd
  have HO0 : Hid ((w.alloc (.cells #[.string (strB wd)] 9)).ownsRow w.heap.size 9 1 (.slice (some ⟨w.heap.size, 0, none⟩) 1 1) 1 (zvs [wd])) := ownsZ_new (n := 1) (xs := [wd]) (heap_alloc_last w (.cells #[.string (strB wd)] 9)) rfl (show (1 : Nat) ≤ 1000 by omega) (Nat.le_refl _)
  have HB0 : Hid (Below w.heap.size w (w.alloc (.cells #[.string (strB wd)] 9))) := (Below.refl _ w).alloc (Nat.le_refl _) _
  clear ht hl hX hr hwd
  go_enter Tryd.func42, Tryd.ntmps42
  go_wp2
  go_loopw [12, 5] (fun i v wr => ∃ j : Nat, j ≤ l ∧ i = .int .i64 j ∧ Below w.heap.size w wr ∧ wr.ownsRow w.heap.size 9 1 v (j + 1) (zvs (wd :: (ns.take j).map fun x => Lib.decDigits x.toNat))) (fun i _ _ => l - (intOf i).toNat)
  case atStart => exact ⟨0, by omega, rfl, HB0.out, HO0.out⟩
  case round =>
    obtain ⟨j, hj, rfl, hb, ho⟩ := hrel
    have HB : Hid (Below w.heap.size w wr) := hb
    have HO : Hid (wr.ownsRow w.heap.size 9 1 _ (j + 1) (zvs (wd :: (ns.take j).map fun x => Lib.decDigits x.toNat))) := ho
    clear hb ho
    by_cases hlt : j < l
    · have hin : j < ns.length := by rw [← HL.out]; exact hlt
      obtain ⟨b, off, rfl, hbl, hc⟩ := rowI_cell (rowI_below HX.out HB.out) hin
      have c1 := hc j hin
      rw [show ns.getD j 0 = ns[j] by simp [List.getD, hin]] at c1
      obtain ⟨x, hx⟩ := Int.eq_ofNat_of_zero_le (HR.out _ (List.getElem_mem hin)).1
      have hx9 : x < 1000 := by have := (HR.out _ (List.getElem_mem hin)).2; omega
      have HTK : Hid (ns.take (j + 1) = ns.take j ++ [(x : Int)]) := by show _ = _; rw [← hx]; exact List.take_succ_eq_append_getElem hin
      rw [hx] at c1
      clear hc hx hin
      go_wp2_with fail
      refine Calls.mono (itoa9_F x (by omega) _ (tabW_below HT.out HB.out)) ?_
      rintro e w2 ⟨rfl, hb2⟩
      have HB2 : Hid (Below w.heap.size w w2) := HB.out.trans (hb2.mono HB.out.size)
      have HO2 : Hid _ := own_below HO.out hb2
      have hB3 := HB2.out.alloc HB2.out.size (.cells #[.string (strB (Lib.decDigits x))] 9)
      have ho3 := own_below HO2.out ((Below.refl _ w2).alloc (Nat.le_refl _) (.cells #[.string (strB (Lib.decDigits x))] 9))
      have hc3 := cellAt (heap_alloc_last w2 (.cells #[.string (strB (Lib.decDigits x))] 9)) 0 _ rfl
      obtain ⟨g, cp, w4, hap, ho4, hg4, hor, hlt4⟩ := appendZ (c := 1) 93 ho3 hc3 (by omega) hB3.size
      have HB4 : Hid (Below w.heap.size w w4) := below_own hB3 ho3 hg4 hB3.size
      have HO4 : Hid (w4.ownsRow w.heap.size 9 1 (.slice (some ⟨g, 0, none⟩) (j + 1 + 1) cp) (j + 1 + 1) (zvs (wd :: (ns.take (j + 1)).map fun x => Lib.decDigits x.toNat))) := by
        rw [HTK.out]
        have e : (wd :: (ns.take j ++ [(x : Int)]).map fun x => Lib.decDigits x.toNat) = (wd :: (ns.take j).map fun x => Lib.decDigits x.toNat) ++ [Lib.decDigits x] := by simp
        rw [e]; exact ho4
      have HAP : Hid _ := hap
      clear hb2 hB3 ho3 hc3 ho4 hg4 hor hap
      go_wp2_with (at_builtin; refine wpList_append_run rfl _ _ 93 rfl _ _ _ _ rfl rfl HAP.out ?_)
      exact ⟨⟨j + 1, by omega, by go_num, HB4.out, HO4.out⟩, by simp [intOf]; omega⟩
    · obtain rfl : j = l := by omega
      have hfull : ns.take j = ns := by rw [HL.out, List.take_length]
      have ho := HO.out
      rw [hfull] at ho
      obtain ⟨g, cp, rfl, hcp, hln, hgl, hcells⟩ := ownsZ_cells ho (by omega)
      have HJ : Hid _ := join9_F g 0 cp (wd :: ns.map fun x => Lib.decDigits x.toNat) [32] wr hcells hgl (by rw [← hln]; omega) (by rw [← hln]; exact hcp) (by
        rw [piece_join]
        have := pieceB_len (wd := wd) HR.out
        have := HWD.out
        have := HL.out
        omega)
      rw [piece_join, ← hln] at HJ
      clear hfull ho hcells hln hcp
      go_wp2_with fail
      refine Calls.mono HJ.out ?_
      rintro e w2 ⟨rfl, hb2⟩
      have HB2 : Hid (Below w.heap.size w w2) := HB.out.trans (hb2.mono HB.out.size)
      clear hb2
      go_wp2
      go_ret
      exact ⟨rfl, HB2.out⟩
end Go.Proofs.YtoalbopcapgojaaDoor

/- What the rows' conditions say of the table of powers and of the errors, for the statements of stage 9; nothing of the program is proved here. -/
namespace Go.Proofs.YtoalbopcapgojaaDoor
open Go.RowKit Gf
set_option linter.unusedVariables false
set_option maxRecDepth 20000
theorem tab_of_laid {W : World} {laid rest : List (String × DataW Unit)} (n : Nat) (h : laidMetH Tryd.prog laid W) (hp : (laid.all fun x => x.2.handleName?.isNone) = true)
    (hd : laid.drop n = ("internal/strconv.uint64pow10", Lib.tabData .u64 Lib.pow10Tab) :: rest) : TabW W := by
  rw [MakeChecks.laidMetH_plain _ _ _ hp] at h
  have h2 := laidMet_drop n laid h
  rw [hd] at h2
  exact Lib.tabIs_of_head (g := 26) (t := 164) (e := 154) (n := 20) (by kernel_rfl) (by kernel_rfl) Tryd.underlying164 Tryd.underlying154 (by kernel_rfl) (by kernel_rfl) h2
def gsProg : List Nat := [4, 0]
def ofProg (es : List Addr) : Addr := es.getD 1 ⟨0, 0, none⟩
theorem envP_of {w : World} {es : List Addr} (h : ErrsAt w gsProg es) (ht : TabW w) : EnvP w (ofProg es) := by
  have hl : es.length = 2 := h.1.symm
  match es, hl with
  | [a, b], _ => exact ⟨(h.2.2 1 _ b rfl rfl).1, ht⟩
end Go.Proofs.YtoalbopcapgojaaDoor

/- What Text of package prog answers of programs in form. -/
namespace Go.Proofs.YtoalbopcapgojaaDoor
open Go.RowKit Gf
set_option linter.unusedVariables false
set_option maxRecDepth 20000
set_option linter.unusedSimpArgs false
def wordB (op : Int) : List UInt8 := if op = 1 then [108, 111, 97, 100] else if op = 2 then [122, 101, 114, 111] else if op = 3 then [109, 117, 108] else if op = 4 then [97, 100, 100] else [115, 116, 111, 114, 101]
def numsL (f so : Bool) (dst src c : Int) : List Int := dst :: ((if f then [c] else []) ++ (if so then [src] else []))
def numsS (s : Stp) : List Int := numsL (decide (s.op = 3 ∨ s.op = 4)) (decide (s.op = 1 ∨ s.op = 4 ∨ s.op = 5)) s.dst s.src (s.c.toNat : Int)
def stepB (s : Stp) : List UInt8 := pieceB (wordB s.op) (numsS s)
def headsB (ins outs : List Int) (rg : Int) : List (List UInt8) := [pieceB [105, 110] ins, pieceB [111, 117, 116] outs, pieceB [114, 101, 103, 115] [rg]]
def textP (ins outs : List Int) (rg : Int) (ss : List Stp) : List UInt8 := Lib.join (headsB ins outs rg ++ ss.map stepB) [59, 32]
theorem op_word {op : Int} {s : ByteArray} {f so an as9 ou : Bool} {n m : Nat} (h : 1 ≤ op ∧ op ≤ 5) (hO : OpF op s f so an as9 ou n m) : s = strB (wordB op) := by
  have h2 : (opcN op)[0]? = some (.string s) := by rw [hO.cells]; rfl
  have : op = 1 ∨ op = 2 ∨ op = 3 ∨ op = 4 ∨ op = 5 := by omega
  rcases this with rfl | rfl | rfl | rfl | rfl <;>
  · have h3 := Option.some.inj h2
    injection h3 with h4
    rw [← h4]; rfl
theorem wordB_len (op : Int) : (wordB op).length ≤ 5 := by
  unfold wordB; repeat' split
  all_goals decide
theorem numsL_len (f so : Bool) (dst src c : Int) : (numsL f so dst src c).length ≤ 3 := by cases f <;> cases so <;> simp [numsL]
theorem okS_nums {ni no : Nat} {rg : Int} {s : Stp} (h : OkS ni no rg s) (h1 : ni ≤ 32) (h2 : no ≤ 32) (h3 : rg ≤ 64) : ∀ x ∈ numsS s, 0 ≤ x ∧ x < 1000 := by
  have hc : s.c.toNat < 256 := s.c.toNat_lt
  intro x hx
  simp only [numsS, numsL, List.mem_cons, List.mem_append] at hx
  unfold OkS at h
  rcases hx with rfl | hx | hx
  · omega
  · split at hx
    · simp only [List.mem_singleton] at hx; omega
    · cases hx
  · split at hx
    · rename_i h5
      have := of_decide_eq_true h5
      simp only [List.mem_singleton] at hx; omega
    · cases hx
theorem stepB_len {ni no : Nat} {rg : Int} {s : Stp} (h : OkS ni no rg s) (h1 : ni ≤ 32) (h2 : no ≤ 32) (h3 : rg ≤ 64) : (stepB s).length ≤ 17 := by
  have := pieceB_len (wd := wordB s.op) (okS_nums h h1 h2 h3)
  have := wordB_len s.op
  have : (numsS s).length ≤ 3 := numsL_len _ _ _ _ _
  unfold stepB
  omega
theorem joinTail_len (sep : List UInt8) (k : Nat) : ∀ (r : List (List UInt8)), (∀ x ∈ r, x.length ≤ k) → (Lib.joinTail sep r).length ≤ r.length * (sep.length + k)
  | [], _ => by simp [Lib.joinTail]
  | x :: r, h => by
    have h1 := joinTail_len sep k r (fun y hy => h y (List.mem_cons_of_mem _ hy))
    have h2 := h x List.mem_cons_self
    simp only [Lib.joinTail, List.map_cons, List.flatten_cons, List.length_append, List.length_cons, Nat.succ_mul] at h1 ⊢
    omega
theorem goodH_mem {n : Nat} {xs : List Int} (h : GoodH n xs) : ∀ x ∈ xs, 0 ≤ x ∧ x < n := by
  obtain ⟨ns, rfl, h1, h2⟩ := goodH_nats h
  intro x hx
  simp only [natJ8, List.mem_map] at hx
  obtain ⟨y, hy, rfl⟩ := hx
  have := h2 y hy
  omega
theorem heads_len {ins outs : List Int} {rg : Int} {ss : List Stp} (hF : InF ins outs rg ss) : ∀ x ∈ headsB ins outs rg, x.length ≤ 140 := by
  have h1 := pieceB_len (wd := [105, 110]) (ns := ins) (fun x hx => by have := goodH_mem hF.1 x hx; omega)
  have h2 := pieceB_len (wd := [111, 117, 116]) (ns := outs) (fun x hx => by have := goodH_mem hF.2.1 x hx; omega)
  have h3 := pieceB_len (wd := [114, 101, 103, 115]) (ns := [rg]) (fun x hx => by simp only [List.mem_singleton] at hx; have := hF.2.2.1; omega)
  have h4 := goodH_len hF.1
  have h5 := goodH_len hF.2.1
  intro x hx
  simp only [headsB, List.mem_cons, List.not_mem_nil, or_false] at hx
  simp only [List.length_cons, List.length_nil] at h1 h2 h3
  rcases hx with rfl | rfl | rfl <;> omega
theorem textP_len {ins outs : List Int} {rg : Int} {ss : List Stp} (hF : InF ins outs rg ss) : (textP ins outs rg ss).length ≤ 1000000 := by
  have hall : ∀ x ∈ headsB ins outs rg ++ ss.map stepB, x.length ≤ 140 := fun x hx => by
    rw [List.mem_append] at hx
    rcases hx with hx | hx
    · exact heads_len hF x hx
    · obtain ⟨s, hs, rfl⟩ := List.mem_map.1 hx
      have := stepB_len (hF.2.2.2.2.1 s hs) (goodH_len hF.1) (goodH_len hF.2.1) hF.2.2.1.2
      omega
  have h4 := hF.2.2.2.1
  unfold textP
  rw [headsB, List.cons_append, Lib.join_cons, List.length_append]
  have h0 := hall _ (by rw [headsB]; exact List.mem_cons_self)
  have h1 := joinTail_len [59, 32] 140 ([pieceB [111, 117, 116] outs, pieceB [114, 101, 103, 115] [rg]] ++ ss.map stepB) (fun x hx => hall x (by rw [headsB, List.cons_append]; exact List.mem_cons_of_mem _ hx))
  simp only [List.length_append, List.length_cons, List.length_nil, List.length_map] at h1
  omega
theorem ownsI_new {w : World} {g : Nat} {x : Int} (h : w.heap[g]? = some (.cells #[.int .i64 x] 3 (0, 0))) {B : Nat} (hB : B ≤ g) : w.ownsRow B 3 1 (.slice (some ⟨g, 0, none⟩) 1 1) 1 (([x] : List Int).map (Value.int .i64)) :=
  ⟨rfl, .inr ⟨g, 1, _, rfl, hB, h, Nat.le_refl _, by decide, rfl, rfl⟩⟩
theorem own_drew {w : World} {B size n : Nat} {v : Value} {e : TypeId} {xs : List Value} (h : w.ownsRow B e size v n xs) : w.drew.ownsRow B e size v n xs := h
theorem own_slice9 {w : World} {B n : Nat} {v : Value} {xs : List Value} (ho : w.ownsRow B 3 1 v n xs) : ∃ a cap, v = .slice a n cap ∧ n ≤ cap ∧ True := by
  rcases ho.2 with ⟨rfl, rfl⟩ | ⟨g, cap, cur, rfl, hB, hg, hle, _⟩
  · exact ⟨none, 0, rfl, Nat.le_refl _, trivial⟩
  · exact ⟨_, cap, rfl, hle, trivial⟩
set_option maxHeartbeats 8000000 in
theorem numbers_F (wd : List UInt8) (f9 so an as9 ou : Bool) (n9 m9 : Nat) (op dst src : Int) (c : F) (w : World) :
    Calls Tryd.prog 43 #[.agg #[.string (strB wd), .bool f9, .bool so, .bool an, .bool as9, .bool ou, .func (.func n9) #[] #[], .func (.func m9) #[] #[]], .agg #[.int .i64 op, .int .i64 dst, .int .i64 src, .int .u8 (c.toNat : Int)]] w fun e w' => ∃ g m cap, e = .returned (.slice (some ⟨g, 0, none⟩) m cap) ∧ m = (numsL f9 so dst src (c.toNat : Int)).length ∧ m ≤ cap ∧ RowI w' (some ⟨g, 0, none⟩) (numsL f9 so dst src (c.toNat : Int)) ∧ Below w.heap.size w w' := by
  have hA := holds_new (holds_new (holds_new (holds_nil w) #[.string (strB wd), .bool f9, .bool so, .bool an, .bool as9, .bool ou, .func (.func n9) #[] #[], .func (.func m9) #[] #[]] 85) #[.int .i64 op, .int .i64 dst, .int .i64 src, .int .u8 (c.toNat : Int)] 48) #[.int .i64 dst] 3
  simp only [World.size_alloc] at hA
  have hB : Below w.heap.size w (((w.alloc (.cells #[.string (strB wd), .bool f9, .bool so, .bool an, .bool as9, .bool ou, .func (.func n9) #[] #[], .func (.func m9) #[] #[]] 85)).alloc (.cells #[.int .i64 op, .int .i64 dst, .int .i64 src, .int .u8 (c.toNat : Int)] 48)).alloc (.cells #[.int .i64 dst] 3)) := (((Below.refl _ w).alloc (Nat.le_refl _) _).alloc (by simp) _).alloc (by simp; omega) _
  obtain ⟨W, hW⟩ : ∃ W, W = (((w.alloc (.cells #[.string (strB wd), .bool f9, .bool so, .bool an, .bool as9, .bool ou, .func (.func n9) #[] #[], .func (.func m9) #[] #[]] 85)).alloc (.cells #[.int .i64 op, .int .i64 dst, .int .i64 src, .int .u8 (c.toNat : Int)] 48)).alloc (.cells #[.int .i64 dst] 3)) := ⟨_, rfl⟩
  rw [← hW] at hA hB
  have hWs : W.heap.size = w.heap.size + 1 + 1 + 1 := by rw [hW]; simp
  have ho := ownsI_new (holds_at hA 0 rfl) (show w.heap.size ≤ w.heap.size + 1 + 1 by omega)
  have HW : Hid _ := hW
  have HA : Hid _ := hA
  have HB : Hid _ := hB
  have HO : Hid (W.ownsRow w.heap.size 3 1 (.slice (some ⟨w.heap.size + 1 + 1, 0, none⟩) 1 1) 1 (([dst] : List Int).map (Value.int .i64))) := ho
  have h1 : c.toNat < 256 := c.toNat_lt
  obtain ⟨cv, hcv⟩ : ∃ cv : Int, cv = (c.toNat : Int) := ⟨_, rfl⟩
  rw [← hcv] at HW ⊢
  have hc0 : 0 ≤ cv := by omega
  have hc1 : cv < 256 := by omega
  rw [← hcv] at HA
  clear hW hA hB ho hcv h1
  have k1 := cellAt (holds_at HA.out 2 rfl) 1 _ rfl
  have k2 := cellAt (holds_at HA.out 2 rfl) 2 _ rfl
  have k3 := cellAt (holds_at HA.out 1 rfl) 3 _ rfl
  have k4 := cellAt (holds_at HA.out 1 rfl) 2 _ rfl
  have K2 : ∀ o, (W.alloc o).cell? ⟨w.heap.size, 2, none⟩ = some (.bool so) := fun o => cellAt (heap_later (holds_at HA.out 2 rfl) ((Below.refl _ W).alloc (Nat.le_refl _) o)) 2 _ rfl
  go_enter Tryd.func43, Tryd.ntmps43
  cases f9
  · cases so
    · go_wp2
      rw [← HW.out]
      go_wp2
      go_ret
      exact ⟨_, _, _, rfl, rfl, Nat.le_refl _, rowI_own HO.out, HB.out⟩
    · have hb3 := HB.out.alloc HB.out.size (.cells #[.int .i64 src] 3)
      have ho3 := own_below HO.out ((Below.refl _ W).alloc (Nat.le_refl _) (.cells #[.int .i64 src] 3))
      have hc3 := cellAt (heap_alloc_last W (.cells #[.int .i64 src] 3)) 0 _ rfl
      obtain ⟨g, cp, w4, hap, ho4, hg4, hor, hlt4⟩ := appendI (c := 1) 22 ho3 hc3 (by omega) hb3.size
      rw [hWs] at hap
      have HB4 : Hid (Below w.heap.size w w4) := below_own hb3 ho3 hg4 hb3.size
      have HO4 : Hid _ := ho4
      have HAP : Hid _ := hap
      clear hb3 ho3 hc3 ho4 hg4 hor hap
      go_wp2_with (at_builtin; rw [← HW.out]; refine wpList_append_run rfl _ _ 22 rfl _ _ _ _ rfl rfl HAP.out ?_)
      go_ret
      obtain ⟨g5, cp5, e5, h5, _⟩ := own_slice9 HO4.out
      cases e5
      exact ⟨_, _, _, rfl, rfl, h5, rowI_own (ns := [dst, src]) HO4.out, HB4.out⟩
  · have hb3 := HB.out.alloc HB.out.size (.cells #[.int .i64 cv] 3)
    have ho3 := own_below HO.out ((Below.refl _ W).alloc (Nat.le_refl _) (.cells #[.int .i64 cv] 3))
    have hc3 := cellAt (heap_alloc_last W (.cells #[.int .i64 cv] 3)) 0 _ rfl
    obtain ⟨g, cp, w4, hap, ho4, hg4, hor, hlt4⟩ := appendI (c := 1) 22 ho3 hc3 (by omega) hb3.size
    rw [hWs] at hap
    have HB4 : Hid (Below w.heap.size w w4) := below_own hb3 ho3 hg4 hb3.size
    have HO4 : Hid _ := ho4
    have HAP : Hid _ := hap
    have hA4 : Holds (W.alloc (.cells #[.int .i64 cv] 3)) _ := holds_alloc HA.out _
    have q2 := cellAt (own_other ho3 hg4 (holds_at hA4 2 rfl) (by decide)) 2 _ rfl
    have q4 := cellAt (own_other ho3 hg4 (holds_at hA4 1 rfl) (by decide)) 2 _ rfl
    clear hb3 ho3 hc3 ho4 hg4 hor hap hA4 K2
    cases so
    · go_wp2_with (at_builtin; rw [← HW.out]; refine wpList_append_run rfl _ _ 22 rfl _ _ _ _ rfl rfl HAP.out ?_)
      go_ret
      obtain ⟨g5, cp5, e5, h5, _⟩ := own_slice9 HO4.out
      cases e5
      exact ⟨_, _, _, rfl, rfl, h5, rowI_own (ns := [dst, cv]) HO4.out, HB4.out⟩
    · have hb5 := HB4.out.alloc HB4.out.size (.cells #[.int .i64 src] 3)
      have ho5 := own_below HO4.out ((Below.refl _ w4).alloc (Nat.le_refl _) (.cells #[.int .i64 src] 3))
      have hc5 := cellAt (heap_alloc_last w4 (.cells #[.int .i64 src] 3)) 0 _ rfl
      obtain ⟨g6, cp6, w6, hap6, ho6, hg6, hor6, hlt6⟩ := appendI (c := 1) 22 ho5 hc5 (by omega) hb5.size
      have HB6 : Hid (Below w.heap.size w w6) := below_own hb5 ho5 hg6 hb5.size
      have HO6 : Hid _ := ho6
      have HAP6 : Hid _ := hap6
      clear hb5 ho5 hc5 ho6 hg6 hor6 hap6
      go_wp2_with (at_builtin; first | (rw [← HW.out]; refine wpList_append_run rfl _ _ 22 rfl _ _ _ _ rfl rfl HAP.out ?_) | (refine wpList_append_run rfl _ _ 22 rfl _ _ _ _ rfl rfl HAP6.out ?_))
      go_ret
      obtain ⟨g5, cp5, e5, h5, _⟩ := own_slice9 HO6.out
      cases e5
      exact ⟨_, _, _, rfl, rfl, h5, rowI_own (ns := [dst, cv, src]) HO6.out, HB6.out⟩
set_option maxRecDepth 100000 in
set_option maxHeartbeats 16000000 in
theorem text_ok (ia oa sa : Option Addr) (il ic ol oc sl sc rg : Nat) (ins outs : List Int) (ss : List Stp) (w : World) (s : Addr) (hP : PrgW w ia oa sa il ic ol oc sl sc ins outs ss) (hE : EnvP w s) (hF : InF ins outs rg ss) :
    Calls Tryd.prog 13 #[.agg #[.slice ia il ic, .slice oa ol oc, .int .i64 rg, .slice sa sl sc]] w fun e w' => e = .returned (.tuple #[.string (strB (textP ins outs rg ss)), .nilIface]) ∧ Below w.heap.size w w' := by
  have hil32 : il ≤ 32 := by rw [hP.eil]; exact goodH_len hF.1
  have hol32 : ol ≤ 32 := by rw [hP.eol]; exact goodH_len hF.2.1
  have hrgn : rg ≤ 64 := by have := hF.2.2.1.2; omega
  have hsl9 : sl ≤ 4096 := by rw [hP.esl]; exact hF.2.2.2.1
  have hcsl := hP.csl
  have hcil := hP.cil
  have hcol := hP.col
  have HP : Hid _ := hP
  have HF : Hid (InF ins outs rg ss) := hF
  have HIL : Hid (il = ins.length) := hP.eil
  have HOL : Hid (ol = outs.length) := hP.eol
  have HSL : Hid (sl = ss.length) := hP.esl
  have hb0 : Below w.heap.size w (w.alloc (.cells #[.slice ia il ic, .slice oa ol oc, .int .i64 rg, .slice sa sl sc] 25)) := (Below.refl _ w).alloc (Nat.le_refl _) _
  have HC : Hid _ := pcheck_ok ia oa sa il ic ol oc sl sc ins outs rg ss _ s (hP.below hb0) (cell_later hb0 hE.err) hF
  have hA0 := holds_new (holds_nil w) #[.slice ia il ic, .slice oa ol oc, .int .i64 rg, .slice sa sl sc] 25
  have HA0 : Hid _ := hA0
  have HB0 : Hid _ := hb0
  have HE : Hid (EnvP w s) := hE
  have HRI : Hid (∀ x ∈ ins, 0 ≤ x ∧ x < 1000) := fun x hx => by have := goodH_mem hF.1 x hx; omega
  have HRO : Hid (∀ x ∈ outs, 0 ≤ x ∧ x < 1000) := fun x hx => by have := goodH_mem hF.2.1 x hx; omega
  have HRR : Hid (∀ x ∈ ([(rg : Int)] : List Int), 0 ≤ x ∧ x < 1000) := fun x hx => by simp only [List.mem_singleton] at hx; omega
  clear hP hF hb0 hA0 hE
  go_enter Tryd.func13, Tryd.ntmps13
  go_wp2_with fail
  refine Calls.mono HC.out ?_
  rintro e W ⟨rfl, hb1⟩
  have HW : Hid (Below w.heap.size w W) := HB0.out.trans (hb1.mono HB0.out.size)
  have HA : Hid _ := holds_later HA0.out hb1
  have HT : Hid (TabW W) := tabW_below HE.out.tab HW.out
  have HI : Hid (RowI W ia ins) := rowI_below HP.out.I HW.out
  have HO : Hid (RowI W oa outs) := rowI_below HP.out.O HW.out
  clear hb1 HA0 HB0 HC
  have P0 : Hid (∀ u, Below W.heap.size W u → u.cell? ⟨w.heap.size, 0, none⟩ = some (.slice ia il ic)) := fun u hu => cellAt (heap_later (holds_at HA.out 0 rfl) hu) 0 _ rfl
  have P1 : Hid (∀ u, Below W.heap.size W u → u.cell? ⟨w.heap.size, 1, none⟩ = some (.slice oa ol oc)) := fun u hu => cellAt (heap_later (holds_at HA.out 0 rfl) hu) 1 _ rfl
  have P2 : Hid (∀ u, Below W.heap.size W u → u.cell? ⟨w.heap.size, 2, none⟩ = some (.int .i64 rg)) := fun u hu => cellAt (heap_later (holds_at HA.out 0 rfl) hu) 2 _ rfl
  go_upto_region 4 with fail
  go_cut [5] (fun v wx => ∃ g n, v = .slice (some ⟨g, 0, none⟩) 3 n ∧ Below W.heap.size W wx ∧ wx.ownsRow W.heap.size 9 1 (.slice (some ⟨g, 0, none⟩) 3 n) 3 (zvs (headsB ins outs rg)))
  case first =>
    have hS0 : Below W.heap.size W W.drew := Below.drew (Below.refl _ W)
    refine wp_region_noPanic ?_
    refine wp_region_held_drew (S := fun u => Below W.heap.size W u) (by kernel_rfl) ?_ (fun hHeld => ?_)
    · exact hS0
    refine wpAnyH_take (i := 0) (oi := { dst := some 15, op := Op.fieldAddr 25 (Operand.tmp 1) 0, type := 0, pos := "prog.go:234", after := #[], guard := none }) (v := ?_) rfl (by kernel_rfl) (by kernel_rfl) (by kernel_rfl) (fun _ _ _ h => h) (Or.inl ⟨by rfl, ?_⟩) hHeld ?_
    rotate_left
    · intro u hSw
      go_simp
      try with_reducible rfl
    try simp only [Act.put, List.setIfInBounds_toArray, List.set_cons_zero, List.set_cons_succ]
    refine wpAnyH_take (i := 1) (oi := { dst := some 16, op := Op.load 22 (Operand.tmp 15), type := 22, pos := "prog.go:234", after := #[{ on := 0, ground := Ground.data }], guard := none }) (v := ?_) rfl (by kernel_rfl) (by kernel_rfl) (by kernel_rfl) (fun _ _ _ h => h) (Or.inl ⟨by rfl, ?_⟩) hHeld ?_
    rotate_left
    · intro u hSw
      have k9 := P0.out u hSw
      go_simp
      try with_reducible rfl
    try simp only [Act.put, List.setIfInBounds_toArray, List.set_cons_zero, List.set_cons_succ]
    refine wpAnyH_take (i := 3) (oi := { dst := some 18, op := Op.fieldAddr 25 (Operand.tmp 1) 1, type := 0, pos := "prog.go:234", after := #[], guard := none }) (v := ?_) rfl (by kernel_rfl) (by kernel_rfl) (by kernel_rfl) (fun _ _ _ h => h) (Or.inl ⟨by rfl, ?_⟩) hHeld ?_
    rotate_left
    · intro u hSw
      go_simp
      try with_reducible rfl
    try simp only [Act.put, List.setIfInBounds_toArray, List.set_cons_zero, List.set_cons_succ]
    refine wpAnyH_take (i := 4) (oi := { dst := some 19, op := Op.load 22 (Operand.tmp 18), type := 22, pos := "prog.go:234", after := #[{ on := 3, ground := Ground.data }], guard := none }) (v := ?_) rfl (by kernel_rfl) (by kernel_rfl) (by kernel_rfl) (fun _ _ _ h => h) (Or.inl ⟨by rfl, ?_⟩) hHeld ?_
    rotate_left
    · intro u hSw
      have k9 := P1.out u hSw
      go_simp
      try with_reducible rfl
    try simp only [Act.put, List.setIfInBounds_toArray, List.set_cons_zero, List.set_cons_succ]
    refine wpAnyH_take (i := 6) (oi := { dst := some 21, op := Op.fieldAddr 25 (Operand.tmp 1) 2, type := 0, pos := "prog.go:234", after := #[], guard := none }) (v := ?_) rfl (by kernel_rfl) (by kernel_rfl) (by kernel_rfl) (fun _ _ _ h => h) (Or.inl ⟨by rfl, ?_⟩) hHeld ?_
    rotate_left
    · intro u hSw
      go_simp
      try with_reducible rfl
    try simp only [Act.put, List.setIfInBounds_toArray, List.set_cons_zero, List.set_cons_succ]
    refine wpAnyH_take (i := 7) (oi := { dst := some 22, op := Op.load 3 (Operand.tmp 21), type := 3, pos := "prog.go:234", after := #[{ on := 6, ground := Ground.data }], guard := none }) (v := ?_) rfl (by kernel_rfl) (by kernel_rfl) (by kernel_rfl) (fun _ _ _ h => h) (Or.inl ⟨by rfl, ?_⟩) hHeld ?_
    rotate_left
    · intro u hSw
      have k9 := P2.out u hSw
      go_simp
      try with_reducible rfl
    try simp only [Act.put, List.setIfInBounds_toArray, List.set_cons_zero, List.set_cons_succ]
    refine wpAnyH_ready (rs := [2, 8]) (by kernel_rfl) (by simp) ?_
    refine (AllReadyH.cons (o := { dst := some 17, op := Op.call { callee := Callee.value (Operand.func 42), args := #[Operand.const (Value.string { data := #[105, 110] }), Operand.tmp 16], argTypes := #[9, 22] }, type := 9, pos := "prog.go:235", after := #[{ on := 1, ground := Ground.data }], guard := none }) rfl (fun K hK => ?_) (AllReadyH.cons (o := { dst := some 23, op := Op.buildSlice 22 1 #[(0, Operand.tmp 22)], type := 22, pos := "prog.go:234", after := #[{ on := 7, ground := Ground.data }], guard := none }) rfl (fun K hK => ?_) AllReadyH.nil))
    · go_simp
      refine Calls.mono (piece_F [105, 110] il ic (ia) ins _ (tabW_below HT.out (by assumption)) HIL.out (by omega) hcil (rowI_below HI.out (by assumption)) HRI.out (by decide)) ?_
      rintro e w1p ⟨rfl, hbw1p⟩
      have hSw1p : Below W.heap.size W w1p := Below.trans ‹Below W.heap.size W _› (Below.mono hbw1p (below_size ‹Below W.heap.size W _›))
      clear hbw1p
      go_wp2_with fail
      refine hK.out _ _ ?_ (fun hHeld => ?_)
      · exact hSw1p
      clear hK K
      try simp only [Act.put, List.setIfInBounds_toArray, List.set_cons_zero, List.set_cons_succ]
      refine wpAnyH_ready (rs := [5, 8]) (by kernel_rfl) (by simp) ?_
      refine (AllReadyH.cons (o := { dst := some 20, op := Op.call { callee := Callee.value (Operand.func 42), args := #[Operand.const (Value.string { data := #[111, 117, 116] }), Operand.tmp 19], argTypes := #[9, 22] }, type := 9, pos := "prog.go:236", after := #[{ on := 4, ground := Ground.data }, { on := 2, ground := Ground.chain }], guard := none }) rfl (fun K hK => ?_) (AllReadyH.cons (o := { dst := some 23, op := Op.buildSlice 22 1 #[(0, Operand.tmp 22)], type := 22, pos := "prog.go:234", after := #[{ on := 7, ground := Ground.data }], guard := none }) rfl (fun K hK => ?_) AllReadyH.nil))
      · go_simp
        refine Calls.mono (piece_F [111, 117, 116] ol oc (oa) outs _ (tabW_below HT.out (by assumption)) HOL.out (by omega) hcol (rowI_below HO.out (by assumption)) HRO.out (by decide)) ?_
        rintro e w2p ⟨rfl, hbw2p⟩
        have hSw2p : Below W.heap.size W w2p := Below.trans ‹Below W.heap.size W _› (Below.mono hbw2p (below_size ‹Below W.heap.size W _›))
        clear hbw2p
        go_wp2_with fail
        refine hK.out _ _ ?_ (fun hHeld => ?_)
        · exact hSw2p
        clear hK K
        try simp only [Act.put, List.setIfInBounds_toArray, List.set_cons_zero, List.set_cons_succ]
        refine wpAnyH_ready (rs := [8]) (by kernel_rfl) (by simp) ?_
        refine (AllReadyH.cons (o := { dst := some 23, op := Op.buildSlice 22 1 #[(0, Operand.tmp 22)], type := 22, pos := "prog.go:234", after := #[{ on := 7, ground := Ground.data }], guard := none }) rfl (fun K hK => ?_) AllReadyH.nil)
        have hSb : Below W.heap.size W (w2p.alloc (.cells #[.int .i64 rg] 3)) := (hSw2p).alloc (below_size hSw2p) _
        have hR8 : RowI (w2p.alloc (.cells #[.int .i64 rg] 3)) (some ⟨w2p.heap.size, 0, none⟩) [(rg : Int)] := .inr ⟨w2p.heap.size, 0, rfl, fun j n hj => by
          match j, hj with
          | 0, hj => cases hj; exact cellAt (heap_alloc_last w2p (.cells #[.int .i64 (rg : Int)] 3)) 0 _ rfl
          | j + 1, hj => cases hj⟩
        go_simp
        refine hK.out _ _ ?_ (fun hHeld => ?_)
        · exact hSb
        clear hK K
        try simp only [Act.put, List.setIfInBounds_toArray, List.set_cons_zero, List.set_cons_succ]
        refine wpAnyH_ready (rs := [9]) (by kernel_rfl) (by simp) ?_
        refine (AllReadyH.cons (o := { dst := some 24, op := Op.call { callee := Callee.value (Operand.func 42), args := #[Operand.const (Value.string { data := #[114, 101, 103, 115] }), Operand.tmp 23], argTypes := #[9, 22] }, type := 9, pos := "prog.go:237", after := #[{ on := 8, ground := Ground.data }, { on := 5, ground := Ground.chain }], guard := none }) rfl (fun K hK => ?_) AllReadyH.nil)
        go_simp
        refine Calls.mono (piece_F [114, 101, 103, 115] 1 1 (some ⟨w2p.heap.size, 0, none⟩) [(rg : Int)] _ (tabW_below HT.out (by assumption)) rfl (by decide) (Nat.le_refl _) hR8 HRR.out (by decide)) ?_
        rintro e w3p ⟨rfl, hbw3p⟩
        have hSw3p : Below W.heap.size W w3p := Below.trans ‹Below W.heap.size W _› (Below.mono hbw3p (below_size ‹Below W.heap.size W _›))
        have hR8 := rowI_below hR8 hbw3p
        clear hbw3p
        go_wp2_with fail
        refine hK.out _ _ ?_ (fun hHeld => ?_)
        · exact hSw3p
        clear hK K
        try simp only [Act.put, List.setIfInBounds_toArray, List.set_cons_zero, List.set_cons_succ]
        refine wpAnyH_ready (rs := [10]) (by kernel_rfl) (by simp) ?_
        refine (AllReadyH.cons (o := { dst := some 25, op := Op.buildSlice 93 3 #[(0, Operand.tmp 17), (1, Operand.tmp 20), (2, Operand.tmp 24)], type := 93, pos := "prog.go:234", after := #[{ on := 2, ground := Ground.data }, { on := 5, ground := Ground.data }, { on := 9, ground := Ground.data }], guard := none }) rfl (fun K hK => ?_) AllReadyH.nil)
        go_simp
        refine hK.out _ _ ?_ (fun hHeld => ?_)
        · exact Below.alloc hSw3p (below_size hSw3p) _
        clear hK K
        try simp only [Act.put, List.setIfInBounds_toArray, List.set_cons_zero, List.set_cons_succ]
        refine wpAnyH_take (i := 11) (oi := { dst := some 5, op := Op.assign (Operand.tmp 25), type := 93, pos := "prog.go:234", after := #[{ on := 10, ground := Ground.data }, { on := 9, ground := Ground.chain }, { on := 0, ground := Ground.phase }, { on := 1, ground := Ground.phase }, { on := 2, ground := Ground.phase }, { on := 3, ground := Ground.phase }, { on := 4, ground := Ground.phase }, { on := 5, ground := Ground.phase }, { on := 6, ground := Ground.phase }, { on := 7, ground := Ground.phase }, { on := 8, ground := Ground.phase }, { on := 9, ground := Ground.phase }, { on := 10, ground := Ground.phase }], guard := none }) (v := ?_) rfl (by kernel_rfl) (by kernel_rfl) (by kernel_rfl) (fun _ _ _ h => h) (Or.inl ⟨by rfl, ?_⟩) hHeld ?_
        rotate_left
        · intro u hSw
          go_simp
          try with_reducible rfl
        try simp only [Act.put, List.setIfInBounds_toArray, List.set_cons_zero, List.set_cons_succ]
        refine wpAnyH_done (by kernel_rfl) ?_ _
        refine NoPanic.normal ?_
        go_wp2
        go_meet
        exact ⟨w3p.heap.size, 3, rfl, Below.alloc hSw3p (below_size hSw3p) _, ownsZ_new (n := 3) (xs := headsB ins outs rg) (heap_alloc_last w3p (.cells #[.string (strB (pieceB [105, 110] ins)), .string (strB (pieceB [111, 117, 116] outs)), .string (strB (pieceB [114, 101, 103, 115] [(rg : Int)]))] 9)) rfl (show (3 : Nat) ≤ 1000 by omega) (below_size hSw3p)⟩
      · have hSb : Below W.heap.size W (w1p.alloc (.cells #[.int .i64 rg] 3)) := (hSw1p).alloc (below_size hSw1p) _
        have hR8 : RowI (w1p.alloc (.cells #[.int .i64 rg] 3)) (some ⟨w1p.heap.size, 0, none⟩) [(rg : Int)] := .inr ⟨w1p.heap.size, 0, rfl, fun j n hj => by
          match j, hj with
          | 0, hj => cases hj; exact cellAt (heap_alloc_last w1p (.cells #[.int .i64 (rg : Int)] 3)) 0 _ rfl
          | j + 1, hj => cases hj⟩
        go_simp
        refine hK.out _ _ ?_ (fun hHeld => ?_)
        · exact hSb
        clear hK K
        try simp only [Act.put, List.setIfInBounds_toArray, List.set_cons_zero, List.set_cons_succ]
        refine wpAnyH_ready (rs := [5]) (by kernel_rfl) (by simp) ?_
        refine (AllReadyH.cons (o := { dst := some 20, op := Op.call { callee := Callee.value (Operand.func 42), args := #[Operand.const (Value.string { data := #[111, 117, 116] }), Operand.tmp 19], argTypes := #[9, 22] }, type := 9, pos := "prog.go:236", after := #[{ on := 4, ground := Ground.data }, { on := 2, ground := Ground.chain }], guard := none }) rfl (fun K hK => ?_) AllReadyH.nil)
        go_simp
        refine Calls.mono (piece_F [111, 117, 116] ol oc (oa) outs _ (tabW_below HT.out (by assumption)) HOL.out (by omega) hcol (rowI_below HO.out (by assumption)) HRO.out (by decide)) ?_
        rintro e w2p ⟨rfl, hbw2p⟩
        have hSw2p : Below W.heap.size W w2p := Below.trans ‹Below W.heap.size W _› (Below.mono hbw2p (below_size ‹Below W.heap.size W _›))
        have hR8 := rowI_below hR8 hbw2p
        clear hbw2p
        go_wp2_with fail
        refine hK.out _ _ ?_ (fun hHeld => ?_)
        · exact hSw2p
        clear hK K
        try simp only [Act.put, List.setIfInBounds_toArray, List.set_cons_zero, List.set_cons_succ]
        refine wpAnyH_ready (rs := [9]) (by kernel_rfl) (by simp) ?_
        refine (AllReadyH.cons (o := { dst := some 24, op := Op.call { callee := Callee.value (Operand.func 42), args := #[Operand.const (Value.string { data := #[114, 101, 103, 115] }), Operand.tmp 23], argTypes := #[9, 22] }, type := 9, pos := "prog.go:237", after := #[{ on := 8, ground := Ground.data }, { on := 5, ground := Ground.chain }], guard := none }) rfl (fun K hK => ?_) AllReadyH.nil)
        go_simp
        refine Calls.mono (piece_F [114, 101, 103, 115] 1 1 (some ⟨w1p.heap.size, 0, none⟩) [(rg : Int)] _ (tabW_below HT.out (by assumption)) rfl (by decide) (Nat.le_refl _) hR8 HRR.out (by decide)) ?_
        rintro e w3p ⟨rfl, hbw3p⟩
        have hSw3p : Below W.heap.size W w3p := Below.trans ‹Below W.heap.size W _› (Below.mono hbw3p (below_size ‹Below W.heap.size W _›))
        have hR8 := rowI_below hR8 hbw3p
        clear hbw3p
        go_wp2_with fail
        refine hK.out _ _ ?_ (fun hHeld => ?_)
        · exact hSw3p
        clear hK K
        try simp only [Act.put, List.setIfInBounds_toArray, List.set_cons_zero, List.set_cons_succ]
        refine wpAnyH_ready (rs := [10]) (by kernel_rfl) (by simp) ?_
        refine (AllReadyH.cons (o := { dst := some 25, op := Op.buildSlice 93 3 #[(0, Operand.tmp 17), (1, Operand.tmp 20), (2, Operand.tmp 24)], type := 93, pos := "prog.go:234", after := #[{ on := 2, ground := Ground.data }, { on := 5, ground := Ground.data }, { on := 9, ground := Ground.data }], guard := none }) rfl (fun K hK => ?_) AllReadyH.nil)
        go_simp
        refine hK.out _ _ ?_ (fun hHeld => ?_)
        · exact Below.alloc hSw3p (below_size hSw3p) _
        clear hK K
        try simp only [Act.put, List.setIfInBounds_toArray, List.set_cons_zero, List.set_cons_succ]
        refine wpAnyH_take (i := 11) (oi := { dst := some 5, op := Op.assign (Operand.tmp 25), type := 93, pos := "prog.go:234", after := #[{ on := 10, ground := Ground.data }, { on := 9, ground := Ground.chain }, { on := 0, ground := Ground.phase }, { on := 1, ground := Ground.phase }, { on := 2, ground := Ground.phase }, { on := 3, ground := Ground.phase }, { on := 4, ground := Ground.phase }, { on := 5, ground := Ground.phase }, { on := 6, ground := Ground.phase }, { on := 7, ground := Ground.phase }, { on := 8, ground := Ground.phase }, { on := 9, ground := Ground.phase }, { on := 10, ground := Ground.phase }], guard := none }) (v := ?_) rfl (by kernel_rfl) (by kernel_rfl) (by kernel_rfl) (fun _ _ _ h => h) (Or.inl ⟨by rfl, ?_⟩) hHeld ?_
        rotate_left
        · intro u hSw
          go_simp
          try with_reducible rfl
        try simp only [Act.put, List.setIfInBounds_toArray, List.set_cons_zero, List.set_cons_succ]
        refine wpAnyH_done (by kernel_rfl) ?_ _
        refine NoPanic.normal ?_
        go_wp2
        go_meet
        exact ⟨w3p.heap.size, 3, rfl, Below.alloc hSw3p (below_size hSw3p) _, ownsZ_new (n := 3) (xs := headsB ins outs rg) (heap_alloc_last w3p (.cells #[.string (strB (pieceB [105, 110] ins)), .string (strB (pieceB [111, 117, 116] outs)), .string (strB (pieceB [114, 101, 103, 115] [(rg : Int)]))] 9)) rfl (show (3 : Nat) ≤ 1000 by omega) (below_size hSw3p)⟩
    · have hSb : Below W.heap.size W (W.alloc (.cells #[.int .i64 rg] 3)).drew := ((Below.refl W.heap.size W).alloc (Nat.le_refl _) _).drew
      have hR8 : RowI (W.alloc (.cells #[.int .i64 rg] 3)).drew (some ⟨W.heap.size, 0, none⟩) [(rg : Int)] := .inr ⟨W.heap.size, 0, rfl, fun j n hj => by
        match j, hj with
        | 0, hj => cases hj; exact cellAt (heap_alloc_last W (.cells #[.int .i64 (rg : Int)] 3)) 0 _ rfl
        | j + 1, hj => cases hj⟩
      go_simp
      refine hK.out _ _ ?_ (fun hHeld => ?_)
      · exact hSb
      clear hK K
      try simp only [Act.put, List.setIfInBounds_toArray, List.set_cons_zero, List.set_cons_succ]
      refine wpAnyH_ready (rs := [2]) (by kernel_rfl) (by simp) ?_
      refine (AllReadyH.cons (o := { dst := some 17, op := Op.call { callee := Callee.value (Operand.func 42), args := #[Operand.const (Value.string { data := #[105, 110] }), Operand.tmp 16], argTypes := #[9, 22] }, type := 9, pos := "prog.go:235", after := #[{ on := 1, ground := Ground.data }], guard := none }) rfl (fun K hK => ?_) AllReadyH.nil)
      go_simp
      refine Calls.mono (piece_F [105, 110] il ic (ia) ins _ (tabW_below HT.out (by assumption)) HIL.out (by omega) hcil (rowI_below HI.out (by assumption)) HRI.out (by decide)) ?_
      rintro e w1p ⟨rfl, hbw1p⟩
      have hSw1p : Below W.heap.size W w1p := Below.trans ‹Below W.heap.size W _› (Below.mono hbw1p (below_size ‹Below W.heap.size W _›))
      have hR8 := rowI_below hR8 hbw1p
      clear hbw1p
      go_wp2_with fail
      refine hK.out _ _ ?_ (fun hHeld => ?_)
      · exact hSw1p
      clear hK K
      try simp only [Act.put, List.setIfInBounds_toArray, List.set_cons_zero, List.set_cons_succ]
      refine wpAnyH_ready (rs := [5]) (by kernel_rfl) (by simp) ?_
      refine (AllReadyH.cons (o := { dst := some 20, op := Op.call { callee := Callee.value (Operand.func 42), args := #[Operand.const (Value.string { data := #[111, 117, 116] }), Operand.tmp 19], argTypes := #[9, 22] }, type := 9, pos := "prog.go:236", after := #[{ on := 4, ground := Ground.data }, { on := 2, ground := Ground.chain }], guard := none }) rfl (fun K hK => ?_) AllReadyH.nil)
      go_simp
      refine Calls.mono (piece_F [111, 117, 116] ol oc (oa) outs _ (tabW_below HT.out (by assumption)) HOL.out (by omega) hcol (rowI_below HO.out (by assumption)) HRO.out (by decide)) ?_
      rintro e w2p ⟨rfl, hbw2p⟩
      have hSw2p : Below W.heap.size W w2p := Below.trans ‹Below W.heap.size W _› (Below.mono hbw2p (below_size ‹Below W.heap.size W _›))
      have hR8 := rowI_below hR8 hbw2p
      clear hbw2p
      go_wp2_with fail
      refine hK.out _ _ ?_ (fun hHeld => ?_)
      · exact hSw2p
      clear hK K
      try simp only [Act.put, List.setIfInBounds_toArray, List.set_cons_zero, List.set_cons_succ]
      refine wpAnyH_ready (rs := [9]) (by kernel_rfl) (by simp) ?_
      refine (AllReadyH.cons (o := { dst := some 24, op := Op.call { callee := Callee.value (Operand.func 42), args := #[Operand.const (Value.string { data := #[114, 101, 103, 115] }), Operand.tmp 23], argTypes := #[9, 22] }, type := 9, pos := "prog.go:237", after := #[{ on := 8, ground := Ground.data }, { on := 5, ground := Ground.chain }], guard := none }) rfl (fun K hK => ?_) AllReadyH.nil)
      go_simp
      refine Calls.mono (piece_F [114, 101, 103, 115] 1 1 (some ⟨W.heap.size, 0, none⟩) [(rg : Int)] _ (tabW_below HT.out (by assumption)) rfl (by decide) (Nat.le_refl _) hR8 HRR.out (by decide)) ?_
      rintro e w3p ⟨rfl, hbw3p⟩
      have hSw3p : Below W.heap.size W w3p := Below.trans ‹Below W.heap.size W _› (Below.mono hbw3p (below_size ‹Below W.heap.size W _›))
      have hR8 := rowI_below hR8 hbw3p
      clear hbw3p
      go_wp2_with fail
      refine hK.out _ _ ?_ (fun hHeld => ?_)
      · exact hSw3p
      clear hK K
      try simp only [Act.put, List.setIfInBounds_toArray, List.set_cons_zero, List.set_cons_succ]
      refine wpAnyH_ready (rs := [10]) (by kernel_rfl) (by simp) ?_
      refine (AllReadyH.cons (o := { dst := some 25, op := Op.buildSlice 93 3 #[(0, Operand.tmp 17), (1, Operand.tmp 20), (2, Operand.tmp 24)], type := 93, pos := "prog.go:234", after := #[{ on := 2, ground := Ground.data }, { on := 5, ground := Ground.data }, { on := 9, ground := Ground.data }], guard := none }) rfl (fun K hK => ?_) AllReadyH.nil)
      go_simp
      refine hK.out _ _ ?_ (fun hHeld => ?_)
      · exact Below.alloc hSw3p (below_size hSw3p) _
      clear hK K
      try simp only [Act.put, List.setIfInBounds_toArray, List.set_cons_zero, List.set_cons_succ]
      refine wpAnyH_take (i := 11) (oi := { dst := some 5, op := Op.assign (Operand.tmp 25), type := 93, pos := "prog.go:234", after := #[{ on := 10, ground := Ground.data }, { on := 9, ground := Ground.chain }, { on := 0, ground := Ground.phase }, { on := 1, ground := Ground.phase }, { on := 2, ground := Ground.phase }, { on := 3, ground := Ground.phase }, { on := 4, ground := Ground.phase }, { on := 5, ground := Ground.phase }, { on := 6, ground := Ground.phase }, { on := 7, ground := Ground.phase }, { on := 8, ground := Ground.phase }, { on := 9, ground := Ground.phase }, { on := 10, ground := Ground.phase }], guard := none }) (v := ?_) rfl (by kernel_rfl) (by kernel_rfl) (by kernel_rfl) (fun _ _ _ h => h) (Or.inl ⟨by rfl, ?_⟩) hHeld ?_
      rotate_left
      · intro u hSw
        go_simp
        try with_reducible rfl
      try simp only [Act.put, List.setIfInBounds_toArray, List.set_cons_zero, List.set_cons_succ]
      refine wpAnyH_done (by kernel_rfl) ?_ _
      refine NoPanic.normal ?_
      go_wp2
      go_meet
      exact ⟨w3p.heap.size, 3, rfl, Below.alloc hSw3p (below_size hSw3p) _, ownsZ_new (n := 3) (xs := headsB ins outs rg) (heap_alloc_last w3p (.cells #[.string (strB (pieceB [105, 110] ins)), .string (strB (pieceB [111, 117, 116] outs)), .string (strB (pieceB [114, 101, 103, 115] [(rg : Int)]))] 9)) rfl (show (3 : Nat) ≤ 1000 by omega) (below_size hSw3p)⟩

  case rest =>
  obtain ⟨g0, n0, rfl, hbc, hoc⟩ := hcut
  have HBC : Hid (Below W.heap.size W wc) := hbc
  have HOC : Hid (wc.ownsRow W.heap.size 9 1 (.slice (some ⟨g0, 0, none⟩) 3 n0) 3 (zvs (headsB ins outs rg))) := hoc
  have p3 := cellAt (heap_later (holds_at HA.out 0 rfl) hbc) 3 _ rfl
  clear hbc hoc P0 P1 P2
  go_wp2
  clear p3
  go_loopw [29, 5] (fun i v wr => ∃ (j g cp : Nat), j ≤ sl ∧ i = .int .i64 j ∧ v = .slice (some ⟨g, 0, none⟩) (3 + j) cp ∧ Below W.heap.size W wr ∧ wr.ownsRow W.heap.size 9 1 (.slice (some ⟨g, 0, none⟩) (3 + j) cp) (3 + j) (zvs (headsB ins outs rg ++ (ss.take j).map stepB))) (fun i _ _ => sl - (intOf i).toNat)
  case atStart => exact ⟨0, g0, n0, Nat.zero_le _, rfl, rfl, HBC.out, by rw [List.take_zero, List.map_nil, List.append_nil]; exact HOC.out⟩
  case round =>
    obtain ⟨j, g, cp, hj, rfl, rfl, hbr, hor⟩ := hrel
    have HBR : Hid (Below W.heap.size W wr) := hbr
    have HOR : Hid (wr.ownsRow W.heap.size 9 1 (.slice (some ⟨g, 0, none⟩) (3 + j) cp) (3 + j) (zvs (headsB ins outs rg ++ (ss.take j).map stepB))) := hor
    clear hbr hor
    by_cases hlj : j < sl
    · have hjs : j < ss.length := by rw [← HSL.out]; exact hlj
      obtain ⟨b, off, hsa, hc⟩ := stpW_get (stpW_below HP.out.S (HW.out.trans (HBR.out.mono HW.out.size))) hjs
      obtain ⟨c0, c1, c2, c3⟩ := hc j hjs
      obtain ⟨⟨op, dst, src, c⟩, hs⟩ : ∃ s, ss[j] = s := ⟨_, rfl⟩
      rw [hs] at c0 c1 c2 c3
      simp only at c0 c1 c2 c3
      have hget : ss[j]? = some ⟨op, dst, src, c⟩ := by rw [List.getElem?_eq_getElem hjs, hs]
      have HTK : Hid (ss.take (j + 1) = ss.take j ++ [⟨op, dst, src, c⟩]) := by show _ = _; rw [List.take_add_one, hget]; rfl
      have hok : OkS il ol rg ⟨op, dst, src, c⟩ := by rw [HIL.out, HOL.out]; exact HF.out.2.2.2.2.1 _ (List.mem_of_getElem? hget)
      have hop : 1 ≤ op ∧ op ≤ 5 := by unfold OkS at hok; simp only at hok; omega
      have HO0 : Hid (okN op = true) := decide_eq_true hop
      obtain ⟨s9, f9, so, an, as9, ou, n9, m9, hO, hmm⟩ := op_some hop
      obtain rfl := op_word hop hO
      have HNB : Hid (pieceB (wordB op) (numsL f9 so dst src (c.toNat : Int)) = stepB ⟨op, dst, src, c⟩) := by show _ = _; rw [hO.f, hO.so]; rfl
      have HNR : Hid (∀ x ∈ numsL f9 so dst src (c.toNat : Int), 0 ≤ x ∧ x < 1000) := by
        have := okS_nums hok (by omega) (by omega) (by omega)
        rw [hO.f, hO.so]; exact this
      have HO1 : Hid _ := hO.cells
      obtain ⟨wd, hwd⟩ : ∃ wd, wd = wordB op := ⟨_, rfl⟩
      have HWL : Hid (wd.length ≤ 64) := by have := wordB_len op; show _ ≤ _; rw [hwd]; omega
      rw [← hwd] at HNB HO1
      subst hsa
      clear hc hs hget hjs hok hop hO hmm hwd
      have HB1 : Hid (Below W.heap.size W (wr.alloc (.cells #[.int .i64 op, .int .i64 dst, .int .i64 src, .int .u8 (c.toNat : Int)] 48))) := HBR.out.alloc HBR.out.size _
      have HS1 : Hid _ := heap_alloc_last wr (.cells #[.int .i64 op, .int .i64 dst, .int .i64 src, .int .u8 (c.toNat : Int)] 48)
      have HR1 : Hid _ := own_below HOR.out ((Below.refl _ wr).alloc (Nat.le_refl _) (.cells #[.int .i64 op, .int .i64 dst, .int .i64 src, .int .u8 (c.toNat : Int)] 48))
      go_wp2_with fail
      refine Calls.mono (find_F op _) ?_
      rw [HO0.out, HO1.out]
      rintro e w2 ⟨rfl, hb2⟩
      have hB2 : Below W.heap.size W w2 := HB1.out.trans (hb2.mono HB1.out.size)
      have hs2 := heap_later HS1.out hb2
      have q0 := cellAt hs2 0 _ rfl
      obtain ⟨X, hX⟩ : ∃ X, X = w2.alloc (.cells #[.string (strB wd), .bool f9, .bool so, .bool an, .bool as9, .bool ou, .func (.func n9) #[] #[], .func (.func m9) #[] #[]] 85) := ⟨_, rfl⟩
      have hbX : Below w2.heap.size w2 X := by rw [hX]; exact (Below.refl _ _).alloc (Nat.le_refl _) _
      have HBX : Hid (Below W.heap.size W X) := hB2.trans (hbX.mono hB2.size)
      have hox := own_below (own_below HR1.out hb2) hbX
      have HOX : Hid (X.ownsRow W.heap.size 9 1 (.slice (some ⟨g, 0, none⟩) (3 + j) cp) (3 + j) (zvs (headsB ins outs rg ++ (ss.take j).map stepB))) := hox
      have hob : X.heap[w2.heap.size]? = some (.cells #[.string (strB wd), .bool f9, .bool so, .bool an, .bool as9, .bool ou, .func (.func n9) #[] #[], .func (.func m9) #[] #[]] 85 (0, 0)) := by rw [hX]; exact heap_alloc_last _ _
      have hsb := heap_later hs2 hbX
      obtain ⟨gc, hgc⟩ : ∃ cs : Array Value, X.heap[g]? = some (.cells cs 9 (0, 0)) := by
        rcases hox.2 with ⟨e, _⟩ | ⟨g', cap, cur, e, _, h, _⟩
        · cases e
        · cases e; exact ⟨_, h⟩
      have HKO : Hid (∀ u, X.grownBy u (some g) → u.heap[w2.heap.size]? = some (.cells #[.string (strB wd), .bool f9, .bool so, .bool an, .bool as9, .bool ou, .func (.func n9) #[] #[], .func (.func m9) #[] #[]] 85 (0, 0))) := fun u hu => grown_keep hu hob (fun e => kind_ne hob hgc (by decide) (Option.some.inj e))
      have HKS : Hid (∀ u, X.grownBy u (some g) → u.heap[wr.heap.size]? = some (.cells #[.int .i64 op, .int .i64 dst, .int .i64 src, .int .u8 (c.toNat : Int)] 48 (0, 0))) := fun u hu => grown_keep hu hsb (fun e => kind_ne hsb hgc (by decide) (Option.some.inj e))
      have HXE : Hid _ := hX
      clear hb2 hB2 hs2 hbX hX hox hob hsb hgc c0 c1 c2 c3
      go_wp2
      rw [← HXE.out]
      clear HXE
      refine wp_region_noPanic ?_
      refine wp_region_held_drew (S := fun u => X.grownBy u (some g)) (by kernel_rfl) ?_ (fun hHeld => ?_)
      · exact grownBy_drew (World.grownBy.refl _ _)
      refine wpAnyH_take (i := 0) (oi := { dst := some 39, op := Op.move (Operand.tmp 5), type := 93, pos := "prog.go:241", after := #[], guard := none }) (v := ?_) rfl (by kernel_rfl) (by kernel_rfl) (by kernel_rfl) (fun _ _ _ h => h) (Or.inl ⟨by rfl, ?_⟩) hHeld ?_
      rotate_left
      · intro u hSw
        go_simp
        try with_reducible rfl
      try simp only [Act.put, List.setIfInBounds_toArray, List.set_cons_zero, List.set_cons_succ]
      refine wpAnyH_take (i := 1) (oi := { dst := some 40, op := Op.fieldAddr 85 (Operand.tmp 8) 0, type := 0, pos := "prog.go:241", after := #[], guard := none }) (v := ?_) rfl (by kernel_rfl) (by kernel_rfl) (by kernel_rfl) (fun _ _ _ h => h) (Or.inl ⟨by rfl, ?_⟩) hHeld ?_
      rotate_left
      · intro u hSw
        go_simp
        try with_reducible rfl
      try simp only [Act.put, List.setIfInBounds_toArray, List.set_cons_zero, List.set_cons_succ]
      refine wpAnyH_take (i := 2) (oi := { dst := some 41, op := Op.load 9 (Operand.tmp 40), type := 9, pos := "prog.go:241", after := #[{ on := 1, ground := Ground.data }], guard := none }) (v := ?_) rfl (by kernel_rfl) (by kernel_rfl) (by kernel_rfl) (fun _ _ _ h => h) (Or.inl ⟨by rfl, ?_⟩) hHeld ?_
      rotate_left
      · intro u hSw
        have k9 := cellAt (HKO.out u hSw) 0 _ rfl
        go_simp
        try with_reducible rfl
      try simp only [Act.put, List.setIfInBounds_toArray, List.set_cons_zero, List.set_cons_succ]
      refine wpAnyH_take (i := 3) (oi := { dst := some 42, op := Op.load 85 (Operand.tmp 8), type := 85, pos := "prog.go:241", after := #[], guard := none }) (v := ?_) rfl (by kernel_rfl) (by kernel_rfl) (by kernel_rfl) (fun _ _ _ h => h) (Or.inl ⟨by rfl, ?_⟩) hHeld ?_
      rotate_left
      · intro u hSw
        have k90 := cellAt (HKO.out u hSw) 0 _ rfl
        have k91 := cellAt (HKO.out u hSw) 1 _ rfl
        have k92 := cellAt (HKO.out u hSw) 2 _ rfl
        have k93 := cellAt (HKO.out u hSw) 3 _ rfl
        have k94 := cellAt (HKO.out u hSw) 4 _ rfl
        have k95 := cellAt (HKO.out u hSw) 5 _ rfl
        have k96 := cellAt (HKO.out u hSw) 6 _ rfl
        have k97 := cellAt (HKO.out u hSw) 7 _ rfl
        go_simp
        try with_reducible rfl
      try simp only [Act.put, List.setIfInBounds_toArray, List.set_cons_zero, List.set_cons_succ]
      refine wpAnyH_take (i := 4) (oi := { dst := some 43, op := Op.load 48 (Operand.tmp 7), type := 48, pos := "prog.go:241", after := #[], guard := none }) (v := ?_) rfl (by kernel_rfl) (by kernel_rfl) (by kernel_rfl) (fun _ _ _ h => h) (Or.inl ⟨by rfl, ?_⟩) hHeld ?_
      rotate_left
      · intro u hSw
        have k90 := cellAt (HKS.out u hSw) 0 _ rfl
        have k91 := cellAt (HKS.out u hSw) 1 _ rfl
        have k92 := cellAt (HKS.out u hSw) 2 _ rfl
        have k93 := cellAt (HKS.out u hSw) 3 _ rfl
        go_simp
        try with_reducible rfl
      try simp only [Act.put, List.setIfInBounds_toArray, List.set_cons_zero, List.set_cons_succ]
      refine wpAnyH_ready (rs := [5]) (by kernel_rfl) (by simp) ?_
      refine (AllReadyH.cons (o := { dst := some 44, op := Op.call { callee := Callee.value (Operand.func 43), args := #[Operand.tmp 42, Operand.tmp 43], argTypes := #[85, 48] }, type := 22, pos := "prog.go:241", after := #[{ on := 3, ground := Ground.data }, { on := 4, ground := Ground.data }], guard := none }) rfl (fun K hK => ?_) AllReadyH.nil)
      go_simp
      refine Calls.mono (numbers_F wd f9 so an as9 ou n9 m9 op dst src c _) ?_
      rintro e x1 ⟨g1, m1, c1, rfl, hm1, hmc1, hr1, hb1⟩
      have HM1 : Hid (m1 = (numsL f9 so dst src (c.toNat : Int)).length) := hm1
      have HR1 : Hid (RowI x1 (some ⟨g1, 0, none⟩) (numsL f9 so dst src (c.toNat : Int))) := hr1
      clear hm1 hr1
      have hS1 : X.grownBy x1 (some g) := grown_below (grownBy_drew (World.grownBy.refl _ _)) hb1
      have hB1 : Below W.heap.size W x1 := (HBX.out.drew).trans (hb1.mono HBX.out.size)
      go_wp2_with fail
      refine hK.out _ _ ?_ (fun hHeld => ?_)
      · exact hS1
      clear hK K
      try simp only [Act.put, List.setIfInBounds_toArray, List.set_cons_zero, List.set_cons_succ]
      refine wpAnyH_ready (rs := [6]) (by kernel_rfl) (by simp) ?_
      refine (AllReadyH.cons (o := { dst := some 45, op := Op.call { callee := Callee.value (Operand.func 42), args := #[Operand.tmp 41, Operand.tmp 44], argTypes := #[9, 22] }, type := 9, pos := "prog.go:241", after := #[{ on := 2, ground := Ground.data }, { on := 5, ground := Ground.data }, { on := 5, ground := Ground.chain }], guard := none }) rfl (fun K hK => ?_) AllReadyH.nil)
      go_simp
      refine Calls.mono (piece_F wd m1 c1 (some ⟨g1, 0, none⟩) (numsL f9 so dst src (c.toNat : Int)) _ (tabW_below HT.out hB1) HM1.out (by rw [HM1.out]; exact Nat.le_trans (numsL_len _ _ _ _ _) (by decide)) hmc1 HR1.out HNR.out HWL.out) ?_
      rintro e x2 ⟨rfl, hb2⟩
      have hS2 : X.grownBy x2 (some g) := grown_below hS1 hb2
      have hB2 : Below W.heap.size W x2 := hB1.trans (hb2.mono hB1.size)
      go_wp2_with fail
      refine hK.out _ _ ?_ (fun hHeld => ?_)
      · exact hS2
      clear hK K
      try simp only [Act.put, List.setIfInBounds_toArray, List.set_cons_zero, List.set_cons_succ]
      refine wpAnyH_ready (rs := [7]) (by kernel_rfl) (by simp) ?_
      refine (AllReadyH.cons (o := { dst := some 46, op := Op.buildSlice 93 1 #[(0, Operand.tmp 45)], type := 93, pos := "prog.go:241", after := #[{ on := 6, ground := Ground.data }], guard := none }) rfl (fun K hK => ?_) AllReadyH.nil)
      go_simp
      refine hK.out _ _ ?_ (fun hHeld => ?_)
      · exact grown_below hS2 ((Below.refl _ x2).alloc (Nat.le_refl _) _)
      clear hK K
      try simp only [Act.put, List.setIfInBounds_toArray, List.set_cons_zero, List.set_cons_succ]
      refine wpAnyH_ready (rs := [8]) (by kernel_rfl) (by simp) ?_
      refine (AllReadyH.cons (o := { dst := some 47, op := Op.call { callee := Callee.builtin Builtin.append, args := #[Operand.tmp 39, Operand.tmp 46], argTypes := #[93, 93] }, type := 93, pos := "prog.go:241", after := #[{ on := 0, ground := Ground.data }, { on := 7, ground := Ground.data }, { on := 6, ground := Ground.chain }], guard := none }) rfl (fun K hK => ?_) AllReadyH.nil)
      have ho2 := own_below (own_below (own_drew HOX.out) hb1) hb2
      have hb3 := hB2.alloc hB2.size (.cells #[.string (strB (pieceB wd (numsL f9 so dst src (c.toNat : Int))))] 9)
      have ho3 := own_below ho2 ((Below.refl _ x2).alloc (Nat.le_refl _) (.cells #[.string (strB (pieceB wd (numsL f9 so dst src (c.toNat : Int))))] 9))
      have hc3 := cellAt (heap_alloc_last x2 (.cells #[.string (strB (pieceB wd (numsL f9 so dst src (c.toNat : Int))))] 9)) 0 _ rfl
      obtain ⟨g4, cp4, x4, hap, ho4, hg4, hor4, hlt4⟩ := appendZ (c := 1) 93 ho3 hc3 (by omega) hb3.size
      have hb4 : Below W.heap.size W x4 := below_own hb3 ho3 hg4 hb3.size
      have hS4 : X.grownBy x4 (some g) := (grown_below hS2 ((Below.refl _ x2).alloc (Nat.le_refl _) _)).trans hg4
      refine wanted_append_run rfl _ _ 93 rfl _ _ _ _ rfl rfl hap ?_
      refine hK.out _ _ ?_ (fun hHeld => ?_)
      · exact hS4
      clear hK K
      try simp only [Act.put, List.setIfInBounds_toArray, List.set_cons_zero, List.set_cons_succ]
      refine wpAnyH_take (i := 9) (oi := { dst := some 5, op := Op.assign (Operand.tmp 47), type := 93, pos := "prog.go:241", after := #[{ on := 8, ground := Ground.data }, { on := 8, ground := Ground.chain }, { on := 0, ground := Ground.phase }, { on := 1, ground := Ground.phase }, { on := 2, ground := Ground.phase }, { on := 3, ground := Ground.phase }, { on := 4, ground := Ground.phase }, { on := 5, ground := Ground.phase }, { on := 6, ground := Ground.phase }, { on := 7, ground := Ground.phase }, { on := 8, ground := Ground.phase }], guard := none }) (v := ?_) rfl (by kernel_rfl) (by kernel_rfl) (by kernel_rfl) (fun _ _ _ h => h) (Or.inl ⟨by rfl, ?_⟩) hHeld ?_
      rotate_left
      · intro u hSw
        go_simp
        try with_reducible rfl
      try simp only [Act.put, List.setIfInBounds_toArray, List.set_cons_zero, List.set_cons_succ]
      refine wpAnyH_done (by kernel_rfl) ?_ _
      refine NoPanic.normal ?_

      have HB4 : Hid _ := hb4
      have HO4 : Hid (x4.ownsRow W.heap.size 9 1 (.slice (some ⟨g4, 0, none⟩) (3 + (j + 1)) cp4) (3 + (j + 1)) (zvs (headsB ins outs rg ++ (ss.take (j + 1)).map stepB))) := by
        rw [HTK.out, List.map_append, ← List.append_assoc]
        rw [HNB.out] at ho4
        exact ho4
      clear hb1 hb2 hS1 hS2 hB1 hB2 ho2 hb3 ho3 hc3 hap ho4 hg4 hor4 hb4 hS4 hmc1 q0
      go_wp2
      exact ⟨⟨j + 1, g4, cp4, by omega, by go_num, by rw [Nat.add_assoc], HB4.out, HO4.out⟩, by simp [intOf]; omega⟩
    · obtain rfl : j = sl := by omega
      have hfull : ss.take j = ss := by rw [HSL.out, List.take_length]
      have ho := HOR.out
      rw [hfull] at ho
      obtain ⟨g9, cp9, e9, hcp, hln, hgl, hcells⟩ := ownsZ_cells ho (by omega)
      cases e9
      have HJ : Hid _ := join9_F g 0 cp (headsB ins outs rg ++ ss.map stepB) [59, 32] wr hcells hgl (by rw [← hln]; omega) (by rw [← hln]; exact hcp) (Nat.le_trans (textP_len HF.out) (by decide))
      rw [← hln] at HJ
      clear hfull ho hcells hln hcp
      go_wp2_with fail
      refine Calls.mono HJ.out ?_
      rintro e w5 ⟨rfl, hb5⟩
      have HB5 : Hid (Below w.heap.size w w5) := (HW.out.trans (HBR.out.mono HW.out.size)).trans (hb5.mono (by have := HW.out.size; have := HBR.out.size; omega))
      clear hb5
      go_wp2
      go_ret2
      exact ⟨rfl, HB5.out⟩
end Go.Proofs.YtoalbopcapgojaaDoor

/- alive of stage 9: the chapter's first example. -/
namespace Go.Proofs.YtoalbopcapgojaaDoor
open Go.RowKit Gf
set_option linter.unusedVariables false
set_option maxRecDepth 20000
set_option linter.unusedSimpArgs false
theorem rowI_list9 {w : World} {g o : Nat} {cs : Array Value} {t : TypeId} {fr : Nat × Nat} {ns : List Int} (h : w.heap[g]? = some (.cells cs t fr)) (hn : ∀ j n, ns[j]? = some n → cs[o + j]? = some (.int .i64 n)) : RowI w (some ⟨g, o, none⟩) ns :=
  .inr ⟨g, o, rfl, fun j n hj => cellAt h (o + j) _ (hn j n hj)⟩
def smallS : List Stp := [⟨1, 0, 0, 0⟩, ⟨1, 1, 1, 0⟩, ⟨3, 0, 0, 3⟩, ⟨4, 0, 1, 7⟩, ⟨5, 0, 0, 0⟩]
theorem small_in : InF [2, 5] [0] 2 smallS := by
  refine ⟨?_, ?_, by omega, by decide, ?_, ?_⟩
  · exact goodH_of (n := 32) (ns := [2, 5]) (by decide) (by decide)
  · exact goodH_of (n := 32) (ns := [0]) (by decide) (by decide)
  · intro s hs
    simp only [smallS, List.mem_cons, List.not_mem_nil, or_false] at hs
    rcases hs with rfl | rfl | rfl | rfl | rfl <;> simp [OkS]
  · intro d hd
    obtain rfl : d = 0 := by simp only [List.length_cons, List.length_nil] at hd; omega
    rfl
theorem small_mean : meanL 2 1 smallS = [3, 7] := by decide +kernel
theorem small_text : textP [2, 5] [0] 2 smallS = [105, 110, 32, 50, 32, 53, 59, 32, 111, 117, 116, 32, 48, 59, 32, 114, 101, 103, 115, 32, 50, 59, 32, 108, 111, 97, 100, 32, 48, 32, 48, 59, 32, 108, 111, 97, 100, 32, 49, 32, 49, 59, 32, 109, 117, 108, 32, 48, 32, 51, 59, 32, 97, 100, 100, 32, 48, 32, 55, 32, 49, 59, 32, 115, 116, 111, 114, 101, 32, 48, 32, 48] := by
  have n0 : numT 0 = [32, 48] := by show 32 :: Lib.decDigits 0 = _; rw [dec_one (by omega)]; rfl
  have n1 : numT 1 = [32, 49] := by show 32 :: Lib.decDigits 1 = _; rw [dec_one (by omega)]; rfl
  have n2 : numT 2 = [32, 50] := by show 32 :: Lib.decDigits 2 = _; rw [dec_one (by omega)]; rfl
  have n3 : numT 3 = [32, 51] := by show 32 :: Lib.decDigits 3 = _; rw [dec_one (by omega)]; rfl
  have n5 : numT 5 = [32, 53] := by show 32 :: Lib.decDigits 5 = _; rw [dec_one (by omega)]; rfl
  have n7 : numT 7 = [32, 55] := by show 32 :: Lib.decDigits 7 = _; rw [dec_one (by omega)]; rfl
  have e3 : ((3 : F).toNat : Int) = 3 := rfl
  have e7 : ((7 : F).toNat : Int) = 7 := rfl
  simp [textP, headsB, smallS, stepB, pieceB, numsS, numsL, wordB, n0, n1, n2, n3, n5, n7, e3, e7, Lib.join_cons, Lib.joinTail]
set_option maxHeartbeats 4000000 in
theorem small9_F (w : World) : Calls Tryd.prog 33 #[] w fun e w' => ∃ ia oa sa, e = .returned (.agg #[.slice ia 2 2, .slice oa 1 1, .int .i64 2, .slice sa 5 5]) ∧ PrgW w' ia oa sa 2 2 1 1 5 5 [2, 5] [0] smallS ∧ Below w.heap.size w w' := by
  go_enter Tryd.func33, Tryd.ntmps33
  go_wp2
  have hA := holds_new (holds_new (holds_new (holds_new (holds_nil w) #[.slice (some ⟨w.heap.size + 1, 0, none⟩) 2 2, .slice (some ⟨w.heap.size + 1 + 1, 0, none⟩) 1 1, .int .i64 2, .slice (some ⟨w.heap.size + 1 + 1 + 1, 0, none⟩) 5 5] 25) #[.int .i64 2, .int .i64 5] 3) #[.int .i64 0] 3) #[.int .i64 1, .int .i64 0, .int .i64 0, .int .u8 0, .int .i64 1, .int .i64 1, .int .i64 1, .int .u8 0, .int .i64 3, .int .i64 0, .int .i64 0, .int .u8 3, .int .i64 4, .int .i64 0, .int .i64 1, .int .u8 7, .int .i64 5, .int .i64 0, .int .i64 0, .int .u8 0] 48
  have hB := ((((Below.refl _ w).alloc (Nat.le_refl _) (.cells #[.slice (some ⟨w.heap.size + 1, 0, none⟩) 2 2, .slice (some ⟨w.heap.size + 1 + 1, 0, none⟩) 1 1, .int .i64 2, .slice (some ⟨w.heap.size + 1 + 1 + 1, 0, none⟩) 5 5] 25)).alloc (by simp) (.cells #[.int .i64 2, .int .i64 5] 3)).alloc (by simp; omega) (.cells #[.int .i64 0] 3)).alloc (by simp; omega) (.cells #[.int .i64 1, .int .i64 0, .int .i64 0, .int .u8 0, .int .i64 1, .int .i64 1, .int .i64 1, .int .u8 0, .int .i64 3, .int .i64 0, .int .i64 0, .int .u8 3, .int .i64 4, .int .i64 0, .int .i64 1, .int .u8 7, .int .i64 5, .int .i64 0, .int .i64 0, .int .u8 0] 48)
  simp only [World.size_alloc] at hA
  generalize ((((w.alloc (.cells #[.slice (some ⟨w.heap.size + 1, 0, none⟩) 2 2, .slice (some ⟨w.heap.size + 1 + 1, 0, none⟩) 1 1, .int .i64 2, .slice (some ⟨w.heap.size + 1 + 1 + 1, 0, none⟩) 5 5] 25)).alloc (.cells #[.int .i64 2, .int .i64 5] 3)).alloc (.cells #[.int .i64 0] 3)).alloc (.cells #[.int .i64 1, .int .i64 0, .int .i64 0, .int .u8 0, .int .i64 1, .int .i64 1, .int .i64 1, .int .u8 0, .int .i64 3, .int .i64 0, .int .i64 0, .int .u8 3, .int .i64 4, .int .i64 0, .int .i64 1, .int .u8 7, .int .i64 5, .int .i64 0, .int .i64 0, .int .u8 0] 48)) = W at *
  have hk := holds_at hA 3 rfl
  have r0 := cellAt hk 0 _ rfl
  have r1 := cellAt hk 1 _ rfl
  have r2 := cellAt hk 2 _ rfl
  have r3 := cellAt hk 3 _ rfl
  have z := ltHeap hk
  refine bodyPost_ret (v := .agg #[.slice (some ⟨w.heap.size + 1, 0, none⟩) 2 2, .slice (some ⟨w.heap.size + 1 + 1, 0, none⟩) 1 1, .int .i64 2, .slice (some ⟨w.heap.size + 1 + 1 + 1, 0, none⟩) 5 5]) (by simp [results, Tryd.results33, go_sem, r0, r1, r2, r3, z]) rfl ⟨_, _, _, rfl, ⟨rfl, rfl, rfl, by decide, by decide, by decide, Nat.le_refl _, Nat.le_refl _, Nat.le_refl _, fun e => (by cases e), fun e => (by cases e), fun e => (by cases e), ?_, ?_, ?_⟩, hB⟩
  · exact rowI_list9 (holds_at hA 2 rfl) fun j n hj => by
      match j, hj with
      | 0, hj => cases hj; rfl
      | 1, hj => cases hj; rfl
      | j + 2, hj => cases hj
  · exact rowI_list9 (holds_at hA 1 rfl) fun j n hj => by
      match j, hj with
      | 0, hj => cases hj; rfl
      | j + 1, hj => cases hj
  · exact stpW_cells (o := 0) (holds_at hA 0 rfl) fun j hj => by rw [Nat.zero_add, ← List.getElem?_toArray]; rfl
def textC : ByteArray := { data := ([105, 110, 32, 50, 32, 53, 59, 32, 111, 117, 116, 32, 48, 59, 32, 114, 101, 103, 115, 32, 50, 59, 32, 108, 111, 97, 100, 32, 48, 32, 48, 59, 32, 108, 111, 97].append [100, 32, 49, 32, 49, 59, 32, 109, 117, 108, 32, 48, 32, 51, 59, 32, 97, 100, 100, 32, 48, 32, 55, 32, 49, 59, 32, 115, 116, 111, 114, 101, 32, 48, 32, 48]).toArray }
theorem textC_list : textC.toList = [105, 110, 32, 50, 32, 53, 59, 32, 111, 117, 116, 32, 48, 59, 32, 114, 101, 103, 115, 32, 50, 59, 32, 108, 111, 97, 100, 32, 48, 32, 48, 59, 32, 108, 111, 97, 100, 32, 49, 32, 49, 59, 32, 109, 117, 108, 32, 48, 32, 51, 59, 32, 97, 100, 100, 32, 48, 32, 55, 32, 49, 59, 32, 115, 116, 111, 114, 101, 32, 48, 32, 48] := by
  rw [show textC = strB [105, 110, 32, 50, 32, 53, 59, 32, 111, 117, 116, 32, 48, 59, 32, 114, 101, 103, 115, 32, 50, 59, 32, 108, 111, 97, 100, 32, 48, 32, 48, 59, 32, 108, 111, 97, 100, 32, 49, 32, 49, 59, 32, 109, 117, 108, 32, 48, 32, 51, 59, 32, 97, 100, 100, 32, 48, 32, 55, 32, 49, 59, 32, 115, 116, 111, 114, 101, 32, 48, 32, 48] from rfl, strB_list]
set_option maxHeartbeats 4000000 in
theorem alive9_ok (w : World) (s : Addr) (hE : EnvP w s) : Calls Tryd.prog 7 #[] w fun e w' => e = .returned (.bool true) ∧ Below w.heap.size w w' := by
  have HE : Hid (EnvP w s) := hE
  clear hE
  go_enter Tryd.func7, Tryd.ntmps7
  go_wp2_with fail
  refine Calls.mono (small9_F _) ?_
  rintro e w1 ⟨ia, oa, sa, rfl, hp1, hb1⟩
  have HB1 : Hid (Below w.heap.size w w1) := hb1
  have HP1 : Hid _ := hp1
  clear hp1 hb1
  go_wp2_with fail
  refine Calls.mono (meaning_ok ia oa sa 2 2 1 1 5 5 2 [2, 5] [0] smallS _ s HP1.out (cell_later HB1.out HE.out.err) small_in) ?_
  rintro e w2 ⟨g, m, rfl, hm, hg, hh, hb2⟩
  obtain rfl : m = 2 := hm
  have HB2 : Hid (Below w.heap.size w w2) := HB1.out.trans (hb2.mono HB1.out.size)
  have HG2 : Hid _ := hh
  have HKM : Hid _ := heap_alloc_last w2 (.cells #[.int .i64 1, .int .i64 2, .slice (some ⟨g, 0, none⟩) 2 2] 33)
  have HG3 : Hid _ := heap_later hh ((Below.refl _ w2).alloc (Nat.le_refl _) (.cells #[.int .i64 1, .int .i64 2, .slice (some ⟨g, 0, none⟩) 2 2] 33))
  have HB3 : Hid (Below w.heap.size w (w2.alloc (.cells #[.int .i64 1, .int .i64 2, .slice (some ⟨g, 0, none⟩) 2 2] 33))) := HB2.out.alloc HB2.out.size _
  clear hg hh hb2 HP1
  go_wp2_with fail
  refine Calls.mono (small9_F _) ?_
  rintro e w4 ⟨ia4, oa4, sa4, rfl, hp4, hb4⟩
  have HB4 : Hid (Below w.heap.size w w4) := HB3.out.trans (hb4.mono HB3.out.size)
  have HP4 : Hid _ := hp4
  have HKM4 : Hid _ := heap_later HKM.out hb4
  have HG4 : Hid _ := heap_later HG3.out hb4
  clear hp4 hb4
  go_wp2_with fail
  refine Calls.mono (text_ok ia4 oa4 sa4 2 2 1 1 5 5 2 [2, 5] [0] smallS _ s HP4.out (HE.out.below HB4.out) small_in) ?_
  rw [show strB (textP [2, 5] [0] ((2 : Nat) : Int) smallS) = textC from (congrArg strB small_text)]
  rintro e w5 ⟨rfl, hb5⟩
  have HB5 : Hid (Below w.heap.size w w5) := HB4.out.trans (hb5.mono HB4.out.size)
  have hk5 := heap_later HKM4.out hb5
  have hg5 := heap_later HG4.out hb5
  have m0 := cellAt hk5 0 _ rfl
  have m2 := cellAt hk5 2 _ rfl
  have hcv := conv8 (la := 2) (ca := 2) (xs := [3, 7]) rfl (row8_own (by rw [small_mean] at hg5; exact hg5))
  rw [show str8 [3, 7] = { data := #[3, 7] } by decide +kernel] at hcv
  have e1 : ((ByteArray.mk #[3, 7]).toList == (ByteArray.mk #[3, 7]).toList) = true := by decide +kernel
  have z5 := ltHeap hk5
  clear hb5 hk5 hg5
  go_wp2
  go_ret
  exact ⟨congrArg (fun b => Ending.returned (Value.bool b)) (beq_iff_eq.2 textC_list), HB5.out⟩
end Go.Proofs.YtoalbopcapgojaaDoor

/- What Trim of package prog answers of programs in form. -/
namespace Go.Proofs.YtoalbopcapgojaaDoor
open Go.RowKit Go.Shelf Gf
set_option linter.unusedVariables false
set_option maxRecDepth 20000
set_option linter.unusedSimpArgs false
theorem pbusy_F (sa : Option Addr) (sl sc ni no rg : Nat) (ss : List Stp) (w : World) (hsl : sl = ss.length) (hcs : sl ≤ sc) (hs9 : sl ≤ 4096) (hrg : rg ≤ 64) (hok : ∀ s ∈ ss, OkS ni no rg s) (hS : StpW w sa ss) :
    Calls Tryd.prog 41 #[.slice sa sl sc] w fun e w' => (∃ a m c, e = .returned (.slice a m c) ∧ m = (trimS ss).length ∧ w'.ownsRow (w.heap.size + 5) 48 4 (.slice a m c) m (stpsL (trimS ss))) ∧ Below w.heap.size w w' :=
  (callsIn_wide (n := 5)).1 (busy_in sa sl sc ni no rg ss w hsl hcs hs9 hrg hok hS)
theorem trim_in {ins outs : List Int} {rg : Int} {ss : List Stp} (h : InF ins outs rg ss) : InF ins outs rg (trimS ss) :=
  ⟨h.1, h.2.1, h.2.2.1, Nat.le_trans (trim_len _) h.2.2.2.1, fun s hs => h.2.2.2.2.1 s (trim_sub _ _ hs), fun d hd => (trim_outs (d : Int) ss).trans (h.2.2.2.2.2 d hd)⟩
theorem trim_mean (n no : Nat) (ss : List Stp) : meanL n no (trimS ss) = meanL n no ss := by
  unfold meanL meanRows meanR
  rw [run_trim]
theorem own_mono9 {w : World} {B B' size n : Nat} {v : Value} {e : TypeId} {xs : List Value} (h : w.ownsRow B e size v n xs) (hb : B' ≤ B) : w.ownsRow B' e size v n xs :=
  ⟨h.1, h.2.imp id fun ⟨g, cap, cur, h1, h2, h3⟩ => ⟨g, cap, cur, h1, Nat.le_trans hb h2, h3⟩⟩
theorem ownI_set {w : World} {B n g : Nat} {v u : Value} {xs : List Value} {e : TypeId} {size i : Nat} (ho : w.ownsRow B e size v n xs) (hg : g < B) : (w.setCell ⟨g, i, none⟩ u).ownsRow B e size v n xs :=
  ⟨ho.1, ho.2.imp id fun ⟨g', cap, cur, h1, h2, h3, h4⟩ => ⟨g', cap, cur, h1, h2, (heap_setCell_other _ _ _ _ (by show g' ≠ g; omega)).trans h3, h4⟩⟩
set_option maxRecDepth 100000 in
set_option maxHeartbeats 16000000 in
theorem trim_ok (ia oa sa : Option Addr) (il ic ol oc sl sc rg : Nat) (ins outs : List Int) (ss : List Stp) (w : World) (s : Addr) (hP : PrgW w ia oa sa il ic ol oc sl sc ins outs ss) (hs : w.cell? ⟨0, 0, none⟩ = some (errAt s)) (hF : InF ins outs rg ss) :
    Calls Tryd.prog 11 #[.agg #[.slice ia il ic, .slice oa ol oc, .int .i64 rg, .slice sa sl sc]] w fun e w' => ∃ a1 c1 a2 c2 a3 m c3 B2, e = .returned (.tuple #[.agg #[.slice a1 il c1, .slice a2 ol c2, .int .i64 rg, .slice a3 m c3], .nilIface]) ∧ PrgW w' a1 a2 a3 il c1 ol c2 m c3 ins outs (trimS ss) ∧
      w'.ownsRow w.heap.size 3 1 (.slice a1 il c1) il (ins.map (Value.int .i64)) ∧ w'.ownsRow B2 3 1 (.slice a2 ol c2) ol (outs.map (Value.int .i64)) ∧ w.heap.size ≤ B2 ∧ (∀ p, a1 = some p → p.block < B2) ∧ Below w.heap.size w w' := by
  have hil32 : il ≤ 32 := by rw [hP.eil]; exact goodH_len hF.1
  have hol32 : ol ≤ 32 := by rw [hP.eol]; exact goodH_len hF.2.1
  have hrgn : rg ≤ 64 := by have := hF.2.2.1.2; omega
  have hsl9 : sl ≤ 4096 := by rw [hP.esl]; exact hF.2.2.2.1
  have hcsl := hP.csl
  have hcil := hP.cil
  have hcol := hP.col
  have HIL : Hid (il = ins.length) := hP.eil
  have HOL : Hid (ol = outs.length) := hP.eol
  have HSL : Hid (sl = ss.length) := hP.esl
  have HNI : Hid (ia = none → ic = 0) := hP.inil
  have HNO : Hid (oa = none → oc = 0) := hP.onil
  have HF : Hid (InF ins outs rg ss) := hF
  have HOK : Hid (∀ s ∈ ss, OkS il ol rg s) := fun s h => by rw [HIL.out, HOL.out]; exact HF.out.2.2.2.2.1 s h
  have hb0 : Below w.heap.size w ((w.alloc (.cells #[.slice ia il ic, .slice oa ol oc, .int .i64 rg, .slice sa sl sc] 25)).alloc (.cells #[.slice none 0 0, .slice none 0 0, .int .i64 0, .slice none 0 0] 25)) := ((Below.refl _ w).alloc (Nat.le_refl _) _).alloc (by simp) _
  have HC : Hid _ := pcheck_ok ia oa sa il ic ol oc sl sc ins outs rg ss _ s (hP.below hb0) (cell_later hb0 hs) hF
  have hA0 := holds_new (holds_new (holds_nil w) #[.slice ia il ic, .slice oa ol oc, .int .i64 rg, .slice sa sl sc] 25) #[.slice none 0 0, .slice none 0 0, .int .i64 0, .slice none 0 0] 25
  simp only [World.size_alloc] at hA0
  have HA0 : Hid _ := hA0
  have HB0 : Hid _ := hb0
  have HI0 : Hid (RowI w ia ins) := hP.I
  have HO0 : Hid (RowI w oa outs) := hP.O
  have HS0 : Hid (StpW w sa ss) := hP.S
  clear hP hF hb0 hA0
  go_enter Tryd.func11, Tryd.ntmps11
  go_wp2_with fail
  refine Calls.mono HC.out ?_
  rintro e W ⟨rfl, hb1⟩
  have HW : Hid (Below w.heap.size w W) := HB0.out.trans (hb1.mono HB0.out.size)
  have HA : Hid _ := holds_later HA0.out hb1
  have HI : Hid (RowI W ia ins) := rowI_below HI0.out HW.out
  have HO : Hid (RowI W oa outs) := rowI_below HO0.out HW.out
  have HS : Hid (StpW W sa ss) := stpW_below HS0.out HW.out
  clear hb1 HA0 HB0 HC HI0 HO0 HS0
  obtain ⟨N, hN⟩ : ∃ N, N = w.heap.size := ⟨_, rfl⟩
  rw [← hN] at HA HW ⊢
  have HN : Hid (N = w.heap.size) := hN
  clear hN
  have HRES : Hid (W.heap[N + 1]? = some (.cells #[.slice none 0 0, .slice none 0 0, .int .i64 0, .slice none 0 0] 25 (0, 0))) := holds_at HA.out 0 rfl
  have HBX : Hid (∀ u, W.grownBy u (some (N + 1)) → u.heap[N]? = some (.cells #[.slice ia il ic, .slice oa ol oc, .int .i64 rg, .slice sa sl sc] 25 (0, 0))) := fun u hu => (hu.block N (ltHeap (holds_at HA.out 1 rfl)) (by simp)).trans (holds_at HA.out 1 rfl)
  go_wp2
  refine wp_region_noPanic ?_
  refine wp_region_held_drew (S := fun u => W.grownBy u (some (N + 1))) (by kernel_rfl) ?_ (fun hHeld => ?_)
  · exact grownBy_drew (World.grownBy.refl _ _)
  refine wpAnyH_take (i := 0) (oi := { dst := some 11, op := Op.fieldAddr 25 (Operand.tmp 1) 0, type := 0, pos := "prog.go:178", after := #[], guard := none }) (v := ?_) rfl (by kernel_rfl) (by kernel_rfl) (by kernel_rfl) (fun _ _ _ h => h) (Or.inl ⟨by rfl, ?_⟩) hHeld ?_
  rotate_left
  · intro u hSw
    go_simp
    try with_reducible rfl
  try simp only [Act.put, List.setIfInBounds_toArray, List.set_cons_zero, List.set_cons_succ]
  refine wpAnyH_take (i := 1) (oi := { dst := some 12, op := Op.load 22 (Operand.tmp 11), type := 22, pos := "prog.go:178", after := #[{ on := 0, ground := Ground.data }], guard := none }) (v := ?_) rfl (by kernel_rfl) (by kernel_rfl) (by kernel_rfl) (fun _ _ _ h => h) (Or.inl ⟨by rfl, ?_⟩) hHeld ?_
  rotate_left
  · intro u hSw
    have k9 := cellAt (HBX.out u hSw) 0 _ rfl
    go_simp
    try with_reducible rfl
  try simp only [Act.put, List.setIfInBounds_toArray, List.set_cons_zero, List.set_cons_succ]
  refine wpAnyH_take (i := 3) (oi := { dst := some 14, op := Op.fieldAddr 25 (Operand.tmp 1) 1, type := 0, pos := "prog.go:178", after := #[], guard := none }) (v := ?_) rfl (by kernel_rfl) (by kernel_rfl) (by kernel_rfl) (fun _ _ _ h => h) (Or.inl ⟨by rfl, ?_⟩) hHeld ?_
  rotate_left
  · intro u hSw
    go_simp
    try with_reducible rfl
  try simp only [Act.put, List.setIfInBounds_toArray, List.set_cons_zero, List.set_cons_succ]
  refine wpAnyH_take (i := 4) (oi := { dst := some 15, op := Op.load 22 (Operand.tmp 14), type := 22, pos := "prog.go:178", after := #[{ on := 3, ground := Ground.data }], guard := none }) (v := ?_) rfl (by kernel_rfl) (by kernel_rfl) (by kernel_rfl) (fun _ _ _ h => h) (Or.inl ⟨by rfl, ?_⟩) hHeld ?_
  rotate_left
  · intro u hSw
    have k9 := cellAt (HBX.out u hSw) 1 _ rfl
    go_simp
    try with_reducible rfl
  try simp only [Act.put, List.setIfInBounds_toArray, List.set_cons_zero, List.set_cons_succ]
  refine wpAnyH_take (i := 6) (oi := { dst := some 17, op := Op.fieldAddr 25 (Operand.tmp 1) 2, type := 0, pos := "prog.go:178", after := #[], guard := none }) (v := ?_) rfl (by kernel_rfl) (by kernel_rfl) (by kernel_rfl) (fun _ _ _ h => h) (Or.inl ⟨by rfl, ?_⟩) hHeld ?_
  rotate_left
  · intro u hSw
    go_simp
    try with_reducible rfl
  try simp only [Act.put, List.setIfInBounds_toArray, List.set_cons_zero, List.set_cons_succ]
  refine wpAnyH_take (i := 7) (oi := { dst := some 18, op := Op.load 3 (Operand.tmp 17), type := 3, pos := "prog.go:178", after := #[{ on := 6, ground := Ground.data }], guard := none }) (v := ?_) rfl (by kernel_rfl) (by kernel_rfl) (by kernel_rfl) (fun _ _ _ h => h) (Or.inl ⟨by rfl, ?_⟩) hHeld ?_
  rotate_left
  · intro u hSw
    have k9 := cellAt (HBX.out u hSw) 2 _ rfl
    go_simp
    try with_reducible rfl
  try simp only [Act.put, List.setIfInBounds_toArray, List.set_cons_zero, List.set_cons_succ]
  refine wpAnyH_take (i := 8) (oi := { dst := some 19, op := Op.fieldAddr 25 (Operand.tmp 1) 3, type := 0, pos := "prog.go:178", after := #[], guard := none }) (v := ?_) rfl (by kernel_rfl) (by kernel_rfl) (by kernel_rfl) (fun _ _ _ h => h) (Or.inl ⟨by rfl, ?_⟩) hHeld ?_
  rotate_left
  · intro u hSw
    go_simp
    try with_reducible rfl
  try simp only [Act.put, List.setIfInBounds_toArray, List.set_cons_zero, List.set_cons_succ]
  refine wpAnyH_take (i := 9) (oi := { dst := some 20, op := Op.load 23 (Operand.tmp 19), type := 23, pos := "prog.go:178", after := #[{ on := 8, ground := Ground.data }], guard := none }) (v := ?_) rfl (by kernel_rfl) (by kernel_rfl) (by kernel_rfl) (fun _ _ _ h => h) (Or.inl ⟨by rfl, ?_⟩) hHeld ?_
  rotate_left
  · intro u hSw
    have k9 := cellAt (HBX.out u hSw) 3 _ rfl
    go_simp
    try with_reducible rfl
  try simp only [Act.put, List.setIfInBounds_toArray, List.set_cons_zero, List.set_cons_succ]
  refine wpAnyH_ready (rs := [2]) (by kernel_rfl) (by simp) ?_
  refine (AllReadyH.cons (o := { dst := some 13, op := Op.call { callee := Callee.value (Operand.func 40), args := #[Operand.tmp 12], argTypes := #[22] }, type := 22, pos := "prog.go:179", after := #[{ on := 1, ground := Ground.data }], guard := none }) rfl (fun K hK => ?_) AllReadyH.nil)
  go_simp
  refine Calls.mono (clone_F il ic ia ins _ HIL.out (by omega) hcil HNI.out (rowI_below HI.out (Below.drew (Below.refl _ W)))) ?_
  rintro e x1 ⟨a1, k1, rfl, ho1, hb1⟩
  have hB1 : Below W.heap.size W x1 := (Below.drew (Below.refl _ W)).trans hb1
  have hS1 : W.grownBy x1 (some (N + 1)) := grown_below (grownBy_drew (World.grownBy.refl _ _)) hb1
  go_wp2_with fail
  refine hK.out _ _ ?_ (fun hHeld => ?_)
  · exact hS1
  clear hK K
  try simp only [Act.put, List.setIfInBounds_toArray, List.set_cons_zero, List.set_cons_succ]
  refine wpAnyH_ready (rs := [5]) (by kernel_rfl) (by simp) ?_
  refine (AllReadyH.cons (o := { dst := some 16, op := Op.call { callee := Callee.value (Operand.func 40), args := #[Operand.tmp 15], argTypes := #[22] }, type := 22, pos := "prog.go:180", after := #[{ on := 4, ground := Ground.data }, { on := 2, ground := Ground.chain }], guard := none }) rfl (fun K hK => ?_) AllReadyH.nil)
  go_simp
  refine Calls.mono (clone_F ol oc oa outs _ HOL.out (by omega) hcol HNO.out (rowI_below HO.out hB1)) ?_
  rintro e x2 ⟨a2, k2, rfl, ho2, hb2⟩
  have hB2 : Below W.heap.size W x2 := hB1.trans (hb2.mono hB1.size)
  have hS2 : W.grownBy x2 (some (N + 1)) := grown_below hS1 hb2
  go_wp2_with fail
  refine hK.out _ _ ?_ (fun hHeld => ?_)
  · exact hS2
  clear hK K
  try simp only [Act.put, List.setIfInBounds_toArray, List.set_cons_zero, List.set_cons_succ]
  refine wpAnyH_ready (rs := [10]) (by kernel_rfl) (by simp) ?_
  refine (AllReadyH.cons (o := { dst := some 21, op := Op.call { callee := Callee.value (Operand.func 41), args := #[Operand.tmp 20], argTypes := #[23] }, type := 23, pos := "prog.go:182", after := #[{ on := 9, ground := Ground.data }, { on := 5, ground := Ground.chain }], guard := none }) rfl (fun K hK => ?_) AllReadyH.nil)
  go_simp
  refine Calls.mono (pbusy_F sa sl sc il ol rg ss _ HSL.out hcsl hsl9 hrgn HOK.out (stpW_below HS.out hB2)) ?_
  rintro e x3 ⟨⟨a3, m3, k3, rfl, hm3, ho3⟩, hb3⟩
  have hB3 : Below W.heap.size W x3 := hB2.trans (hb3.mono hB2.size)
  have hS3 : W.grownBy x3 (some (N + 1)) := grown_below hS2 hb3
  have HM3 : Hid (m3 = (trimS ss).length) := hm3
  clear hm3
  go_wp2_with fail
  refine hK.out _ _ ?_ (fun hHeld => ?_)
  · exact hS3
  clear hK K
  try simp only [Act.put, List.setIfInBounds_toArray, List.set_cons_zero, List.set_cons_succ]
  refine wpAnyH_take (i := 11) (oi := { dst := some 22, op := Op.build 25 #[(0, Operand.tmp 13), (1, Operand.tmp 16), (2, Operand.tmp 18), (3, Operand.tmp 21)], type := 25, pos := "prog.go:178", after := #[{ on := 2, ground := Ground.data }, { on := 5, ground := Ground.data }, { on := 7, ground := Ground.data }, { on := 10, ground := Ground.data }], guard := none }) (v := ?_) rfl (by kernel_rfl) (by kernel_rfl) (by kernel_rfl) (fun _ _ _ h => h) (Or.inl ⟨by rfl, ?_⟩) hHeld ?_
  rotate_left
  · intro u hSw
    go_simp
    try with_reducible rfl
  try simp only [Act.put, List.setIfInBounds_toArray, List.set_cons_zero, List.set_cons_succ]
  refine wpAnyH_ready (rs := [12]) (by kernel_rfl) (by simp) ?_
  refine (AllReadyH.cons (o := { dst := none, op := Op.store 25 (Operand.tmp 2) (Operand.tmp 22), type := 0, pos := "prog.go:178", after := #[{ on := 11, ground := Ground.data }, { on := 10, ground := Ground.chain }, { on := 0, ground := Ground.phase }, { on := 1, ground := Ground.phase }, { on := 2, ground := Ground.phase }, { on := 3, ground := Ground.phase }, { on := 4, ground := Ground.phase }, { on := 5, ground := Ground.phase }, { on := 6, ground := Ground.phase }, { on := 7, ground := Ground.phase }, { on := 8, ground := Ground.phase }, { on := 9, ground := Ground.phase }, { on := 10, ground := Ground.phase }, { on := 11, ground := Ground.phase }], guard := none }) rfl (fun K hK => ?_) AllReadyH.nil)
  have hk3 := heap_later HRES.out hB3
  have d0 := cellAt hk3 0 _ rfl
  have d1 := cellAt hk3 1 _ rfl
  have d2 := cellAt hk3 2 _ rfl
  have d3 := cellAt hk3 3 _ rfl
  have e0 : x3.frozen? ⟨N + 1, 0, none⟩ = false := frozen_of_row _ _ _ _ _ hk3
  have e1 : x3.frozen? ⟨N + 1, 1, none⟩ = false := frozen_of_row _ _ _ _ _ hk3
  have e2 : x3.frozen? ⟨N + 1, 2, none⟩ = false := frozen_of_row _ _ _ _ _ hk3
  have e3 : x3.frozen? ⟨N + 1, 3, none⟩ = false := frozen_of_row _ _ _ _ _ hk3
  go_simp
  refine hK.out _ _ ?_ (fun hHeld => ?_)
  · exact grownBy_setCell (grownBy_setCell (grownBy_setCell (grownBy_setCell hS3 _) _) _) _
  clear hK K
  try simp only [Act.put, List.setIfInBounds_toArray, List.set_cons_zero, List.set_cons_succ]
  refine wpAnyH_take (i := 13) (oi := { dst := some 3, op := Op.assign (Operand.const Value.nilIface), type := 29, pos := "prog.go:178", after := #[{ on := 12, ground := Ground.chain }, { on := 0, ground := Ground.phase }, { on := 1, ground := Ground.phase }, { on := 2, ground := Ground.phase }, { on := 3, ground := Ground.phase }, { on := 4, ground := Ground.phase }, { on := 5, ground := Ground.phase }, { on := 6, ground := Ground.phase }, { on := 7, ground := Ground.phase }, { on := 8, ground := Ground.phase }, { on := 9, ground := Ground.phase }, { on := 10, ground := Ground.phase }, { on := 11, ground := Ground.phase }, { on := 12, ground := Ground.phase }], guard := none }) (v := ?_) rfl (by kernel_rfl) (by kernel_rfl) (by kernel_rfl) (fun _ _ _ h => h) (Or.inl ⟨by rfl, ?_⟩) hHeld ?_
  rotate_left
  · intro u hSw
    go_simp
    try with_reducible rfl
  try simp only [Act.put, List.setIfInBounds_toArray, List.set_cons_zero, List.set_cons_succ]
  refine wpAnyH_done (by kernel_rfl) ?_ _
  refine NoPanic.normal ?_
  have hz : N + 1 < W.heap.size := ltHeap HRES.out
  obtain ⟨Z, hZ⟩ : ∃ Z, Z = ((((x3.setCell ⟨N + 1, 0, none⟩ (.slice a1 il k1)).setCell ⟨N + 1, 1, none⟩ (.slice a2 ol k2)).setCell ⟨N + 1, 2, none⟩ (.int .i64 rg)).setCell ⟨N + 1, 3, none⟩ (.slice a3 m3 k3)) := ⟨_, rfl⟩
  have hset : ∀ {B n : Nat} {v : Value} {xs : List Value} {e : TypeId} {size : Nat}, N + 1 < B → x3.ownsRow B e size v n xs → Z.ownsRow B e size v n xs := fun h ho => by rw [hZ]; exact ownI_set (ownI_set (ownI_set (ownI_set ho h) h) h) h
  have ho1' := hset hz (own_below (own_below ho1 hb2) hb3)
  have ho2' := hset (by have := hB1.size; omega) (own_below ho2 hb3)
  have ho3' := hset (by have := hB2.size; omega) ho3
  have hkZ : Z.heap[N + 1]? = some (.cells #[.slice a1 il k1, .slice a2 ol k2, .int .i64 rg, .slice a3 m3 k3] 25 (0, 0)) := by
    rw [hZ, heap_setCell_same _ _ _ _ _ _ (heap_setCell_same _ _ _ _ _ _ (heap_setCell_same _ _ _ _ _ _ (heap_setCell_same _ _ _ _ _ _ (heap_later HRES.out hB3))))]
    rfl
  have hBZ : Below N w Z := by
    rw [hZ]
    have h0 := HW.out.trans (hB3.mono (by have := HW.out.size; omega))
    exact (((h0.setCell (by simp) _).setCell (by simp) _).setCell (by simp) _).setCell (by simp) _
  obtain ⟨r1, r2, r3, r4, r5⟩ := ownI_facts ho1'
  obtain ⟨t1, t2, t3, t4, t5⟩ := ownI_facts ho2'
  obtain ⟨a3', k3', e3', v1, v2, v3⟩ := stpW_own HM3.out ho3'
  cases e3'
  have HPW : Hid (PrgW Z a1 a2 a3 il k1 ol k2 m3 k3 ins outs (trimS ss)) := ⟨r4, t4, HM3.out, by omega, by omega, by rw [HM3.out]; have := trim_len ss; have := HSL.out; omega, r2, t2, v1, r3, t3, v2, r1, t1, v3⟩
  have HO1 : Hid (Z.ownsRow W.heap.size 3 1 (.slice a1 il k1) il (ins.map (Value.int .i64))) := ho1'
  have HO2 : Hid (Z.ownsRow x1.heap.size 3 1 (.slice a2 ol k2) ol (outs.map (Value.int .i64))) := ho2'
  have HLT : Hid (∀ p, a1 = some p → p.block < x1.heap.size) := fun p e => ((ownI_facts ho1).2.2.2.2 p e).1
  have HBZ : Hid _ := hBZ
  have hx1 : W.heap.size ≤ x1.heap.size := hB1.size
  have q0 := cellAt hkZ 0 _ rfl
  have q1 := cellAt hkZ 1 _ rfl
  have q2 := cellAt hkZ 2 _ rfl
  have q3 := cellAt hkZ 3 _ rfl
  have zz := ltHeap hkZ
  have HZE : Hid _ := hZ
  have hWs : w.heap.size ≤ W.heap.size := HW.out.size
  clear hkZ hBZ ho1' ho2' ho3' hset hZ r1 r2 r3 r4 r5 t1 t2 t3 t4 t5 v1 v2 v3 ho1 ho2 ho3 hb1 hb2 hb3 hB1 hB2 hB3 hS1 hS2 hS3 d0 d1 d2 d3 e0 e1 e2 e3 hk3
  rw [← HZE.out]
  go_wp2
  refine bodyPost_ret (v := .tuple #[.agg #[.slice a1 il k1, .slice a2 ol k2, .int .i64 rg, .slice a3 m3 k3], .nilIface]) (by simp [results, Tryd.results11, go_sem, q0, q1, q2, q3, zz]) rfl ⟨a1, k1, a2, k2, a3, m3, k3, x1.heap.size, rfl, HPW.out, own_mono9 HO1.out (by have := HN.out; omega), HO2.out, by have := HN.out; omega, HLT.out, by rw [← HN.out]; exact HBZ.out⟩
end Go.Proofs.YtoalbopcapgojaaDoor

/- What the document's own Same answers, of two programs. -/
namespace Go.Proofs.YtoalbopcapgojaaDoor
open Go.RowKit Gf
set_option linter.unusedVariables false
set_option maxRecDepth 20000
set_option linter.unusedSimpArgs false
theorem take_ne {α : Type} {xs ys : List α} {j : Nat} (hx : j < xs.length) (hy : j < ys.length) (h : xs[j] ≠ ys[j]) : xs ≠ ys := fun e => by subst e; exact h rfl
theorem take_snoc9 {α : Type} {xs ys : List α} {j : Nat} (hx : j < xs.length) (hy : j < ys.length) (h : xs[j] = ys[j]) (ht : xs.take j = ys.take j) : xs.take (j + 1) = ys.take (j + 1) := by
  rw [List.take_add_one, List.take_add_one, List.getElem?_eq_getElem hx, List.getElem?_eq_getElem hy, h, ht]
set_option maxRecDepth 100000 in
set_option maxHeartbeats 16000000 in
theorem sameP_F (ia oa sa ia2 oa2 sa2 : Option Addr) (il ic ol oc sl sc il2 ic2 ol2 oc2 sl2 sc2 : Nat) (ins outs ins2 outs2 : List Int) (rg rg2 : Int) (ss ss2 : List Stp) (w : World)
    (hil : il = ins.length) (hol : ol = outs.length) (hsl : sl = ss.length) (hil2 : il2 = ins2.length) (hol2 : ol2 = outs2.length) (hsl2 : sl2 = ss2.length)
    (hi9 : il ≤ 140737488355328) (ho9 : ol ≤ 140737488355328) (hs9 : sl ≤ 140737488355328)
    (hI : RowI w ia ins) (hO : RowI w oa outs) (hS : StpW w sa ss) (hI2 : RowI w ia2 ins2) (hO2 : RowI w oa2 outs2) (hS2 : StpW w sa2 ss2) :
    Calls Tryd.prog 14 #[.agg #[.slice ia il ic, .slice oa ol oc, .int .i64 rg, .slice sa sl sc], .agg #[.slice ia2 il2 ic2, .slice oa2 ol2 oc2, .int .i64 rg2, .slice sa2 sl2 sc2]] w fun e w' =>
      e = .returned (.bool (decide (ins = ins2 ∧ outs = outs2 ∧ rg = rg2 ∧ ss = ss2))) ∧ Below w.heap.size w w' := by
  obtain ⟨d, hd⟩ : ∃ d, d = decide (ins = ins2 ∧ outs = outs2 ∧ rg = rg2 ∧ ss = ss2) := ⟨_, rfl⟩
  have HY : Hid ((ins = ins2 ∧ outs = outs2 ∧ rg = rg2 ∧ ss = ss2) → d = true) := fun h => hd.trans (decide_eq_true h)
  have HN : Hid (¬ (ins = ins2 ∧ outs = outs2 ∧ rg = rg2 ∧ ss = ss2) → d = false) := fun h => hd.trans (decide_eq_false h)
  rw [← hd]
  clear hd
  have HIL : Hid (il = ins.length) := hil
  have HOL : Hid (ol = outs.length) := hol
  have HSL : Hid (sl = ss.length) := hsl
  have HIL2 : Hid (il2 = ins2.length) := hil2
  have HOL2 : Hid (ol2 = outs2.length) := hol2
  have HSL2 : Hid (sl2 = ss2.length) := hsl2
  have HB0 : Hid (Below w.heap.size w ((w.alloc (.cells #[.slice ia il ic, .slice oa ol oc, .int .i64 rg, .slice sa sl sc] 25)).alloc (.cells #[.slice ia2 il2 ic2, .slice oa2 ol2 oc2, .int .i64 rg2, .slice sa2 sl2 sc2] 25))) := ((Below.refl _ w).alloc (Nat.le_refl _) _).alloc (by simp) _
  have HI : Hid (RowI w ia ins) := hI
  have HO : Hid (RowI w oa outs) := hO
  have HS : Hid (StpW w sa ss) := hS
  have HI2 : Hid (RowI w ia2 ins2) := hI2
  have HO2 : Hid (RowI w oa2 outs2) := hO2
  have HS2 : Hid (StpW w sa2 ss2) := hS2
  have HA0 : Hid (Holds ((w.alloc (.cells #[.slice ia il ic, .slice oa ol oc, .int .i64 rg, .slice sa sl sc] 25)).alloc (.cells #[.slice ia2 il2 ic2, .slice oa2 ol2 oc2, .int .i64 rg2, .slice sa2 sl2 sc2] 25)) [(w.heap.size + 1, .cells #[.slice ia2 il2 ic2, .slice oa2 ol2 oc2, .int .i64 rg2, .slice sa2 sl2 sc2] 25), (w.heap.size, .cells #[.slice ia il ic, .slice oa ol oc, .int .i64 rg, .slice sa sl sc] 25)]) := by
    have h := holds_new (holds_new (holds_nil w) #[.slice ia il ic, .slice oa ol oc, .int .i64 rg, .slice sa sl sc] 25) #[.slice ia2 il2 ic2, .slice oa2 ol2 oc2, .int .i64 rg2, .slice sa2 sl2 sc2] 25
    simp only [World.size_alloc] at h
    exact h
  clear hil hol hsl hil2 hol2 hsl2 hI hO hS hI2 hO2 hS2
  go_enter Tryd.func14, Tryd.ntmps14
  by_cases n1 : il = il2
  rotate_left
  · have HF : Hid (d = false) := HN.out (fun h => n1 (by rw [HIL.out, HIL2.out, h.1]))
    have z1 : ((il : Int) != il2) = true := by rw [bne_iff_ne]; omega
    clear n1
    go_wp2
    go_ret
    exact ⟨by rw [HF.out]; rfl, HB0.out⟩
  subst n1
  by_cases n2 : ol = ol2
  rotate_left
  · have HF : Hid (d = false) := HN.out (fun h => n2 (by rw [HOL.out, HOL2.out, h.2.1]))
    have z1 : ((ol : Int) != ol2) = true := by rw [bne_iff_ne]; omega
    clear n2
    go_wp2
    go_ret
    exact ⟨by rw [HF.out]; rfl, HB0.out⟩
  subst n2
  by_cases n3 : rg = rg2
  rotate_left
  · have HF : Hid (d = false) := HN.out (fun h => n3 h.2.2.1)
    have z1 : (rg != rg2) = true := by rw [bne_iff_ne]; exact n3
    clear n3
    go_wp2
    go_ret
    exact ⟨by rw [HF.out]; rfl, HB0.out⟩
  subst n3
  by_cases n4 : sl = sl2
  rotate_left
  · have HF : Hid (d = false) := HN.out (fun h => n4 (by rw [HSL.out, HSL2.out, h.2.2.2]))
    have z1 : ((sl : Int) != sl2) = true := by rw [bne_iff_ne]; omega
    clear n4
    go_wp2
    go_ret
    exact ⟨by rw [HF.out]; rfl, HB0.out⟩
  subst n4
  go_wp2
  go_loopw [43] (fun i wr => ∃ j : Nat, j ≤ il ∧ i = .int .i64 j ∧ wr.heap = ((w.alloc (.cells #[.slice ia il ic, .slice oa ol oc, .int .i64 rg, .slice sa sl sc] 25)).alloc (.cells #[.slice ia2 il ic2, .slice oa2 ol oc2, .int .i64 rg, .slice sa2 sl sc2] 25)).heap ∧ Below w.heap.size w wr ∧ ins.take j = ins2.take j) (fun i _ => il - (intOf i).toNat)
  case atStart => exact ⟨0, by omega, rfl, rfl, HB0.out, rfl⟩
  case round =>
    obtain ⟨j, hj, rfl, hwr, hb, ht⟩ := hrel
    have HWR : Hid _ := hwr
    have HB : Hid (Below w.heap.size w wr) := hb
    have HT : Hid (ins.take j = ins2.take j) := ht
    have HH : Hid (Holds wr [(w.heap.size + 1, .cells #[.slice ia2 il ic2, .slice oa2 ol oc2, .int .i64 rg, .slice sa2 sl sc2] 25), (w.heap.size, .cells #[.slice ia il ic, .slice oa ol oc, .int .i64 rg, .slice sa sl sc] 25)]) := fun i p h => by rw [hwr]; exact HA0.out i p h
    clear hwr hb ht
    by_cases hlt : j < il
    · have h1 : j < ins.length := by rw [← HIL.out]; exact hlt
      have h2 : j < ins2.length := by rw [← HIL2.out]; exact hlt
      obtain ⟨b, off, rfl, _, hc⟩ := rowI_cell (rowI_below HI.out HB.out) h1
      obtain ⟨b2, off2, rfl, _, hc2⟩ := rowI_cell (rowI_below HI2.out HB.out) h2
      have c1 := hc j h1
      have c2 := hc2 j h2
      rw [show ins.getD j 0 = ins[j] by simp [List.getD, h1]] at c1
      rw [show ins2.getD j 0 = ins2[j] by simp [List.getD, h2]] at c2
      obtain ⟨x, hx⟩ : ∃ x, ins[j] = x := ⟨_, rfl⟩
      obtain ⟨y, hy⟩ : ∃ y, ins2[j] = y := ⟨_, rfl⟩
      rw [hx] at c1
      rw [hy] at c2
      have k1 : wr.cell? ⟨w.heap.size, 0, none⟩ = some (.slice (some ⟨b, off, none⟩) il ic) := cellAt (holds_at HH.out 1 rfl) 0 _ rfl
      have k2 : wr.cell? ⟨w.heap.size + 1, 0, none⟩ = some (.slice (some ⟨b2, off2, none⟩) il ic2) := cellAt (holds_at HH.out 0 rfl) 0 _ rfl
      by_cases e : x = y
      · subst e
        have HT2 : Hid (ins.take (j + 1) = ins2.take (j + 1)) := take_snoc9 h1 h2 (hx.trans hy.symm) HT.out
        clear hc hc2 hx hy h1 h2
        go_wp2
        go_region
        go_wp2
        exact ⟨⟨j + 1, by omega, by go_num, by first | exact HWR.out, by first | exact HB.out | exact HB.out.drew, HT2.out⟩, by simp [intOf]; omega⟩
      · have HF : Hid (d = false) := HN.out (fun h => take_ne h1 h2 (by rw [hx, hy]; exact e) h.1)
        have z1 : (x != y) = true := by rw [bne_iff_ne]; exact e
        clear hc hc2 hx hy h1 h2 e
        go_wp2
        go_region
        go_wp2
        go_ret
        exact ⟨by rw [HF.out]; rfl, by first | exact HB.out | exact HB.out.drew⟩
    · obtain rfl : il = j := by omega
      have HEI : Hid (ins = ins2) := by
        have h := HT.out
        rwa [List.take_of_length_le (by rw [← HIL.out]; exact Nat.le_refl _), List.take_of_length_le (by rw [← HIL2.out]; exact Nat.le_refl _)] at h
      have k1 : wr.cell? ⟨w.heap.size, 1, none⟩ = some (.slice oa ol oc) := cellAt (holds_at HH.out 1 rfl) 1 _ rfl
      clear hlt HT
      go_wp2
      clear k1
      obtain ⟨wo, hwo⟩ : ∃ wo, wo = wr := ⟨_, rfl⟩
      rw [← hwo] at HWR HB ⊢
      clear hwo HH
      go_loopw [61] (fun i wr => ∃ j : Nat, j ≤ ol ∧ i = .int .i64 j ∧ wr.heap = ((w.alloc (.cells #[.slice ia il ic, .slice oa ol oc, .int .i64 rg, .slice sa sl sc] 25)).alloc (.cells #[.slice ia2 il ic2, .slice oa2 ol oc2, .int .i64 rg, .slice sa2 sl sc2] 25)).heap ∧ Below w.heap.size w wr ∧ outs.take j = outs2.take j) (fun i _ => ol - (intOf i).toNat)
      case atStart => exact ⟨0, by omega, rfl, HWR.out, HB.out, rfl⟩
      case round =>
        obtain ⟨j, hj, rfl, hwr, hb, ht⟩ := hrel
        have HWR : Hid _ := hwr
        have HB : Hid (Below w.heap.size w wr) := hb
        have HT : Hid (outs.take j = outs2.take j) := ht
        have HH : Hid (Holds wr [(w.heap.size + 1, .cells #[.slice ia2 il ic2, .slice oa2 ol oc2, .int .i64 rg, .slice sa2 sl sc2] 25), (w.heap.size, .cells #[.slice ia il ic, .slice oa ol oc, .int .i64 rg, .slice sa sl sc] 25)]) := fun i p h => by rw [hwr]; exact HA0.out i p h
        clear hwr hb ht
        by_cases hlt : j < ol
        · have h1 : j < outs.length := by rw [← HOL.out]; exact hlt
          have h2 : j < outs2.length := by rw [← HOL2.out]; exact hlt
          obtain ⟨b, off, rfl, _, hc⟩ := rowI_cell (rowI_below HO.out HB.out) h1
          obtain ⟨b2, off2, rfl, _, hc2⟩ := rowI_cell (rowI_below HO2.out HB.out) h2
          have c1 := hc j h1
          have c2 := hc2 j h2
          rw [show outs.getD j 0 = outs[j] by simp [List.getD, h1]] at c1
          rw [show outs2.getD j 0 = outs2[j] by simp [List.getD, h2]] at c2
          obtain ⟨x, hx⟩ : ∃ x, outs[j] = x := ⟨_, rfl⟩
          obtain ⟨y, hy⟩ : ∃ y, outs2[j] = y := ⟨_, rfl⟩
          rw [hx] at c1
          rw [hy] at c2
          have k1 : wr.cell? ⟨w.heap.size, 1, none⟩ = some (.slice (some ⟨b, off, none⟩) ol oc) := cellAt (holds_at HH.out 1 rfl) 1 _ rfl
          have k2 : wr.cell? ⟨w.heap.size + 1, 1, none⟩ = some (.slice (some ⟨b2, off2, none⟩) ol oc2) := cellAt (holds_at HH.out 0 rfl) 1 _ rfl
          by_cases e : x = y
          · subst e
            have HT2 : Hid (outs.take (j + 1) = outs2.take (j + 1)) := take_snoc9 h1 h2 (hx.trans hy.symm) HT.out
            clear hc hc2 hx hy h1 h2
            go_wp2
            go_region
            go_wp2
            exact ⟨⟨j + 1, by omega, by go_num, by first | exact HWR.out, by first | exact HB.out | exact HB.out.drew, HT2.out⟩, by simp [intOf]; omega⟩
          · have HF : Hid (d = false) := HN.out (fun h => take_ne h1 h2 (by rw [hx, hy]; exact e) h.2.1)
            have z1 : (x != y) = true := by rw [bne_iff_ne]; exact e
            clear hc hc2 hx hy h1 h2 e
            go_wp2
            go_region
            go_wp2
            go_ret
            exact ⟨by rw [HF.out]; rfl, by first | exact HB.out | exact HB.out.drew⟩
        · obtain rfl : ol = j := by omega
          have HEO : Hid (outs = outs2) := by
            have h := HT.out
            rwa [List.take_of_length_le (by rw [← HOL.out]; exact Nat.le_refl _), List.take_of_length_le (by rw [← HOL2.out]; exact Nat.le_refl _)] at h
          have k1 : wr.cell? ⟨w.heap.size, 3, none⟩ = some (.slice sa sl sc) := cellAt (holds_at HH.out 1 rfl) 3 _ rfl
          clear hlt HT
          go_wp2
          clear k1
          obtain ⟨wp, hwp⟩ : ∃ wp, wp = wr := ⟨_, rfl⟩
          rw [← hwp] at HWR HB ⊢
          clear hwp HH
          go_loopw [79] (fun i wr => ∃ j : Nat, j ≤ sl ∧ i = .int .i64 j ∧ wr.heap = ((w.alloc (.cells #[.slice ia il ic, .slice oa ol oc, .int .i64 rg, .slice sa sl sc] 25)).alloc (.cells #[.slice ia2 il ic2, .slice oa2 ol oc2, .int .i64 rg, .slice sa2 sl sc2] 25)).heap ∧ Below w.heap.size w wr ∧ ss.take j = ss2.take j) (fun i _ => sl - (intOf i).toNat)
          case atStart => exact ⟨0, by omega, rfl, HWR.out, HB.out, rfl⟩
          case round =>
            obtain ⟨j, hj, rfl, hwr, hb, ht⟩ := hrel
            have HWR : Hid _ := hwr
            have HB : Hid (Below w.heap.size w wr) := hb
            have HT : Hid (ss.take j = ss2.take j) := ht
            have HH : Hid (Holds wr [(w.heap.size + 1, .cells #[.slice ia2 il ic2, .slice oa2 ol oc2, .int .i64 rg, .slice sa2 sl sc2] 25), (w.heap.size, .cells #[.slice ia il ic, .slice oa ol oc, .int .i64 rg, .slice sa sl sc] 25)]) := fun i p h => by rw [hwr]; exact HA0.out i p h
            clear hwr hb ht
            by_cases hlt : j < sl
            · have h1 : j < ss.length := by rw [← HSL.out]; exact hlt
              have h2 : j < ss2.length := by rw [← HSL2.out]; exact hlt
              obtain ⟨b, off, rfl, hc⟩ := stpW_get (stpW_below HS.out HB.out) h1
              obtain ⟨b2, off2, rfl, hc2⟩ := stpW_get (stpW_below HS2.out HB.out) h2
              obtain ⟨c0, c1, c2, c3⟩ := hc j h1
              obtain ⟨q0, q1, q2, q3⟩ := hc2 j h2
              obtain ⟨⟨xo, xd, xs, xc⟩, hx⟩ : ∃ x, ss[j] = x := ⟨_, rfl⟩
              obtain ⟨⟨yo, yd, ys, yc⟩, hy⟩ : ∃ y, ss2[j] = y := ⟨_, rfl⟩
              rw [hx] at c0 c1 c2 c3
              rw [hy] at q0 q1 q2 q3
              simp only at c0 c1 c2 c3 q0 q1 q2 q3
              have k1 : wr.cell? ⟨w.heap.size, 3, none⟩ = some (.slice (some ⟨b, off, none⟩) sl sc) := cellAt (holds_at HH.out 1 rfl) 3 _ rfl
              have k2 : wr.cell? ⟨w.heap.size + 1, 3, none⟩ = some (.slice (some ⟨b2, off2, none⟩) sl sc2) := cellAt (holds_at HH.out 0 rfl) 3 _ rfl
              by_cases e : (⟨xo, xd, xs, xc⟩ : Stp) = ⟨yo, yd, ys, yc⟩
              · obtain ⟨rfl, rfl, rfl, rfl⟩ := Stp.mk.inj e
                have HT2 : Hid (ss.take (j + 1) = ss2.take (j + 1)) := take_snoc9 h1 h2 (hx.trans hy.symm) HT.out
                clear hc hc2 hx hy h1 h2
                go_wp2
                go_region
                go_wp2
                exact ⟨⟨j + 1, by omega, by go_num, by first | exact HWR.out, by first | exact HB.out | exact HB.out.drew, HT2.out⟩, by simp [intOf]; omega⟩
              · have HF : Hid (d = false) := HN.out (fun h => take_ne h1 h2 (by rw [hx, hy]; exact e) h.2.2.2)
                have z1 : ¬ (xo = yo ∧ xd = yd ∧ xs = ys ∧ (xc.toNat : Int) = yc.toNat) := fun h => e (by
                  have h4 : xc = yc := UInt8.toNat_inj.1 (by omega)
                  rw [h.1, h.2.1, h.2.2.1, h4])
                have HF2 : Hid _ := HF.out
                clear hc hc2 hx hy h1 h2 e
                by_cases m0 : xo = yo
                rotate_left
                · clear z1
                  go_wp2
                  go_region
                  go_wp2
                  go_ret
                  exact ⟨by rw [HF.out]; rfl, by first | exact HB.out | exact HB.out.drew⟩
                by_cases m1 : xd = yd
                rotate_left
                · clear z1
                  go_wp2
                  go_region
                  go_wp2
                  go_ret
                  exact ⟨by rw [HF.out]; rfl, by first | exact HB.out | exact HB.out.drew⟩
                by_cases m2 : xs = ys
                rotate_left
                · clear z1
                  go_wp2
                  go_region
                  go_wp2
                  go_ret
                  exact ⟨by rw [HF.out]; rfl, by first | exact HB.out | exact HB.out.drew⟩
                have m3 : ¬ (xc.toNat : Int) = yc.toNat := fun h => z1 ⟨m0, m1, m2, h⟩
                clear z1
                go_wp2
                go_region
                go_wp2
                go_ret
                exact ⟨by rw [HF.out]; rfl, by first | exact HB.out | exact HB.out.drew⟩
            · obtain rfl : sl = j := by omega
              have HES : Hid (ss = ss2) := by
                have h := HT.out
                rwa [List.take_of_length_le (by rw [← HSL.out]; exact Nat.le_refl _), List.take_of_length_le (by rw [← HSL2.out]; exact Nat.le_refl _)] at h
              have HT9 : Hid (d = true) := HY.out ⟨HEI.out, HEO.out, by first | trivial | rfl, HES.out⟩
              clear hlt HT
              go_wp2
              go_ret
              exact ⟨by rw [HT9.out]; rfl, HB.out⟩
end Go.Proofs.YtoalbopcapgojaaDoor

/- The walk of the statement ProgTrims: it returns true of all programs. -/
namespace Go.Proofs.YtoalbopcapgojaaDoor
open Go.RowKit Gf
set_option linter.unusedVariables false
set_option maxRecDepth 20000
set_option linter.unusedSimpArgs false
theorem large_F (ia oa sa : Option Addr) (il ic ol oc sl sc : Nat) (rg : Int) (w : World) : Calls Tryd.prog 17 #[.agg #[.slice ia il ic, .slice oa ol oc, .int .i64 rg, .slice sa sl sc]] w fun e w' => e = .returned (.bool (decide (5000 < sl))) ∧ Below w.heap.size w w' := by
  have HB : Hid (Below w.heap.size w (w.alloc (.cells #[.slice ia il ic, .slice oa ol oc, .int .i64 rg, .slice sa sl sc] 25))) := (Below.refl _ w).alloc (Nat.le_refl _) _
  by_cases h : 5000 < sl
  · have E : Hid (decide (5000 < sl) = true) := decide_eq_true h
    go_enter Tryd.func17, Tryd.ntmps17
    go_wp2
    go_ret
    exact ⟨by rw [E.out]; show Ending.returned (Value.bool (decide ((5000 : Int) < (sl : Int)))) = _; rw [decide_eq_true (by have := of_decide_eq_true E.out; omega)], HB.out⟩
  · have E : Hid (decide (5000 < sl) = false) := decide_eq_false h
    go_enter Tryd.func17, Tryd.ntmps17
    go_wp2
    go_ret
    exact ⟨by rw [E.out]; show Ending.returned (Value.bool (decide ((5000 : Int) < (sl : Int)))) = _; rw [decide_eq_false (by have := of_decide_eq_false E.out; omega)], HB.out⟩
theorem PrgW.inForm {w : World} {ia oa sa : Option Addr} {il ic ol oc sl sc : Nat} {rg : Int} {ins outs : List Int} {ss : List Stp} (h : PrgW w ia oa sa il ic ol oc sl sc ins outs ss) :
    Calls Tryd.prog 15 #[.agg #[.slice ia il ic, .slice oa ol oc, .int .i64 rg, .slice sa sl sc]] w fun e w' => e = .returned (.bool (inFB ins outs rg ss)) ∧ Below w.heap.size w w' :=
  inForm_F ia oa sa il ic ol oc sl sc ins outs rg ss w h.eil h.eol h.esl h.i9 h.o9 h.s9 h.cil h.col h.I h.O h.S
end Go.Proofs.YtoalbopcapgojaaDoor

/- The walk of the statement ProgRenamed: it returns true of all programs and numbers. -/
namespace Go.Proofs.YtoalbopcapgojaaDoor
open Go.RowKit Gf
set_option linter.unusedVariables false
set_option maxRecDepth 20000
set_option linter.unusedSimpArgs false
theorem stps_dst (d : Int) : ∀ (ys : List Stp) (i : Nat) (s : Stp), ys[i]? = some s → (stpsL ys).set (i * 4 + 1) (.int .i64 d) = stpsL (ys.set i { s with dst := d })
  | y :: ys, 0, s, h => by
    obtain rfl : y = s := by simpa using h
    rfl
  | y :: ys, i + 1, s, h => by
    have ih := stps_dst d ys i s (by simpa using h)
    show (stpL y ++ stpsL ys).set _ _ = stpL y ++ stpsL (ys.set i _)
    rw [List.set_append_right _ _ (by show 4 ≤ _; omega), show (i + 1) * 4 + 1 - (stpL y).length = i * 4 + 1 by show _ - 4 = _; omega, ih]
theorem stps_src (d : Int) : ∀ (ys : List Stp) (i : Nat) (s : Stp), ys[i]? = some s → (stpsL ys).set (i * 4 + 2) (.int .i64 d) = stpsL (ys.set i { s with src := d })
  | y :: ys, 0, s, h => by
    obtain rfl : y = s := by simpa using h
    rfl
  | y :: ys, i + 1, s, h => by
    have ih := stps_src d ys i s (by simpa using h)
    show (stpL y ++ stpsL ys).set _ _ = stpL y ++ stpsL (ys.set i _)
    rw [List.set_append_right _ _ (by show 4 ≤ _; omega), show (i + 1) * 4 + 2 - (stpL y).length = i * 4 + 2 by show _ - 4 = _; omega, ih]
theorem ownT_cell {w : World} {B n g cap p : Nat} {xs : List Value} {v : Value} (ho : w.ownsRow B 48 4 (.slice (some ⟨g, 0, none⟩) n cap) n xs) : (w.setCell ⟨g, p, none⟩ v).ownsRow B 48 4 (.slice (some ⟨g, 0, none⟩) n cap) n (xs.set p v) := by
  refine ⟨by rw [List.length_set]; exact ho.1, ?_⟩
  rcases ho.2 with ⟨e, _⟩ | ⟨g', cap', cur, e, hB, hg, hle, h5, h6, h7⟩
  · cases e
  · cases e
    have h1 : (w.setCell ⟨g, p, none⟩ v).heap[g]? = some (.cells (cur.setIfInBounds p v) 48 (0, 0)) := heap_setCell_same _ _ _ _ _ _ hg
    refine .inr ⟨g, cap, _, rfl, hB, h1, hle, h5, by simp [h6], ?_⟩
    rw [Array.toList_setIfInBounds, List.take_set, h7]
/-- the copy, j of its steps being renamed -/
def renL (f : Int → Int) (ss : List Stp) (j : Nat) : List Stp := (ss.take j).map (renS f) ++ ss.drop j
theorem renL_at {f : Int → Int} {ss : List Stp} {j : Nat} {s : Stp} (h : ss[j]? = some s) : (renL f ss j)[j]? = some s := by
  have hj : j < ss.length := (List.getElem?_eq_some_iff.1 h).1
  rw [renL, List.getElem?_append_right (by rw [List.length_map, List.length_take]; omega), List.length_map, List.length_take, show j - min j ss.length = 0 by omega, List.getElem?_drop]
  exact h
theorem renL_next {f : Int → Int} {ss : List Stp} {j : Nat} {s : Stp} (h : ss[j]? = some s) : (renL f ss j).set j (renS f s) = renL f ss (j + 1) := by
  have hj : j < ss.length := (List.getElem?_eq_some_iff.1 h).1
  have hs : ss[j] = s := (List.getElem?_eq_some_iff.1 h).2
  have hl : ((ss.take j).map (renS f)).length = j := by rw [List.length_map, List.length_take]; omega
  rw [renL, renL, List.set_append_right _ _ (by rw [hl]; exact Nat.le_refl _), hl, Nat.sub_self, List.drop_eq_getElem_cons hj, List.set_cons_zero, List.take_add_one, h, List.map_append, List.append_assoc]
  rfl
theorem xch_range {a b n rg : Int} (ha : 0 ≤ a ∧ a < rg) (hb : 0 ≤ b ∧ b < rg) (hn : 0 ≤ n ∧ n < rg) : 0 ≤ xch a b n ∧ xch a b n < rg := by
  unfold xch; split
  · exact hb
  · split
    · exact ha
    · exact hn
theorem ren_in {ins outs : List Int} {rg a b : Int} {ss : List Stp} (h : InF ins outs rg ss) (ha : 0 ≤ a ∧ a < rg) (hb : 0 ≤ b ∧ b < rg) : InF ins outs rg (ss.map (renS (xch a b))) := by
  refine ⟨h.1, h.2.1, h.2.2.1, by rw [List.length_map]; exact h.2.2.2.1, fun s hs => ?_, fun d hd => ?_⟩
  · obtain ⟨t, ht, rfl⟩ := List.mem_map.1 hs
    have h5 := h.2.2.2.2.1 t ht
    unfold OkS at h5 ⊢
    unfold renS
    simp only
    rcases h5 with ⟨e, h1, h2, h3⟩ | ⟨e, h1, h2, h3⟩ | ⟨e, h1, h2⟩ | ⟨e, h1, h2⟩ | ⟨e, h1, h2, h3⟩
    · have := xch_range ha hb h1
      rw [e]; simp; exact ⟨this, h2, by simpa using h3⟩
    · have := xch_range ha hb h1
      rw [e]; simp; exact ⟨this, h2, by simpa using h3⟩
    · have := xch_range ha hb h1
      rw [e]; simp; exact ⟨this, h2⟩
    · have := xch_range ha hb h1
      have := xch_range ha hb h2
      rw [e]; simp; omega
    · have := xch_range ha hb h2
      rw [e]; simp; exact ⟨h1, this, by simpa using h3⟩
  · rw [← h.2.2.2.2.2 d hd, cntO, cntO, List.countP_map]
    apply List.countP_congr
    intro t ht
    simp only [Function.comp, renS]
    by_cases e : t.op = 5 <;> simp [e]
theorem ren_mean {a b : Int} (n no : Nat) (ss : List Stp) : meanL n no (ss.map (renS (xch a b))) = meanL n no ss := by
  unfold meanL meanRows meanR
  rw [run_ren unX (fun _ _ h => xch_inj h) ss (fun _ _ => 0) (fun _ _ => 0) (fun _ _ => 0) (fun _ => rfl)]
theorem prgW_of {w : World} {B g1 c1 g2 c2 g3 c3 il ol sl : Nat} {ins outs : List Int} {ss : List Stp} (h1 : w.ownsRow B 3 1 (.slice (some ⟨g1, 0, none⟩) il c1) il (ins.map (Value.int .i64))) (h2 : w.ownsRow B 3 1 (.slice (some ⟨g2, 0, none⟩) ol c2) ol (outs.map (Value.int .i64)))
    (h3 : w.ownsRow B 48 4 (.slice (some ⟨g3, 0, none⟩) sl c3) sl (stpsL ss)) (hs : sl = ss.length) (hi9 : il ≤ 4611686018427387904) (ho9 : ol ≤ 4611686018427387904) (hs9 : sl ≤ 4611686018427387904) : PrgW w (some ⟨g1, 0, none⟩) (some ⟨g2, 0, none⟩) (some ⟨g3, 0, none⟩) il c1 ol c2 sl c3 ins outs ss := by
  obtain ⟨r1, r2, r3, r4, _⟩ := ownI_facts h1
  obtain ⟨t1, t2, t3, t4, _⟩ := ownI_facts h2
  obtain ⟨v1, v2, _⟩ := ownT_row hs h3
  exact ⟨r4, t4, hs, hi9, ho9, hs9, r2, t2, v2, fun e => (by cases e), fun e => (by cases e), fun e => (by cases e), r1, t1, v1⟩
theorem own_drew9 {w : World} {B size n : Nat} {v : Value} {e : TypeId} {xs : List Value} (h : w.ownsRow B e size v n xs) : w.drew.ownsRow B e size v n xs := h
theorem own_by9 {w w2 : World} {B n g l cap size : Nat} {e : TypeId} {xs : List Value} (ho : w.ownsRow B e size (.slice (some ⟨g, 0, none⟩) l cap) n xs) (h : w2.heap[g]? = w.heap[g]?) : w2.ownsRow B e size (.slice (some ⟨g, 0, none⟩) l cap) n xs :=
  ⟨ho.1, ho.2.imp id fun ⟨g9, c9, u9, h1, h2, h3, h4⟩ => ⟨g9, c9, u9, h1, h2, by cases h1; exact h.trans h3, h4⟩⟩
theorem own_type9 {w : World} {B n g l cap size : Nat} {e : TypeId} {xs : List Value} (ho : w.ownsRow B e size (.slice (some ⟨g, 0, none⟩) l cap) n xs) : True ∧ ∃ cs : Array Value, w.heap[g]? = some (.cells cs e (0, 0)) := by
  rcases ho.2 with ⟨h, _⟩ | ⟨g', cap', cur, h, _, hg, _⟩
  · cases h
  · cases h; exact ⟨trivial, _, hg⟩
theorem mod_two {r : Nat} (hr0 : 1 ≤ r) (hr : r ≤ 64) (x : Int) : ∃ k : Nat, k < r ∧ wrap64 (x.tmod r + r) = x.tmod r + r ∧ (x.tmod r + r).tmod r = k := by
  have h1 := Int.tmod_lt_of_pos x (b := r) (by omega)
  have h2 := Int.tmod_lt_of_pos (-x) (b := r) (by omega)
  rw [Int.neg_tmod] at h2
  have hq : 0 ≤ x.tmod r + r := by omega
  have e0 : (x.tmod r + r).tmod r = (x.tmod r + r) % r := Int.tmod_eq_emod_of_nonneg hq
  have h3 : 0 ≤ (x.tmod r + r) % r := Int.emod_nonneg _ (by omega)
  have h4 : (x.tmod r + r) % r < r := Int.emod_lt_of_pos _ (by omega)
  obtain ⟨k, hk⟩ := Int.eq_ofNat_of_zero_le h3
  exact ⟨k, by omega, by unfold wrap64; omega, by rw [e0, hk]⟩
end Go.Proofs.YtoalbopcapgojaaDoor

/- Lists of steps put behind one's own list; two idle steps put into a program. -/
namespace Go.Proofs.YtoalbopcapgojaaDoor
open Go.RowKit Gf
set_option linter.unusedVariables false
set_option maxRecDepth 20000
set_option linter.unusedSimpArgs false
theorem appendT_none (w : World) (p : Addr) (n c : Nat) (a : Option Addr) (ca : Nat) (ty : TypeId) (hn : n ≤ c) :
    (Builtin.append_ #[23, 23] ty #[.slice (some p) n c, .slice a 0 ca]).run Tryd.prog w = .ok (.slice (some p) n c) w := by
  obtain ⟨i, hi, h1, h2, h3⟩ := infoT4
  cases a <;> simp [Builtin.append_, run_underlying Tryd.underlying23, sizeOf, typeInfo, hi, Builtin.lenOf, Builtin.firstCells, loadCells, loadCellsFrom, storeCells, hn]
theorem moreT {w : World} {B g0 n c0 m ca : Nat} {a : Option Addr} {xs ss : List Stp} (ty : TypeId) (ho : w.ownsRow B 48 4 (.slice (some ⟨g0, 0, none⟩) n c0) n (stpsL xs)) (hl : n = xs.length) (hm : m = ss.length) (hn : (n + m) * 32 ≤ 140737488355328) (hx : StpW w a ss) (hB : B ≤ w.heap.size) :
    ∃ g cap w', (Builtin.append_ #[23, 23] ty #[.slice (some ⟨g0, 0, none⟩) n c0, .slice a m ca]).run Tryd.prog w = .ok (.slice (some ⟨g, 0, none⟩) (n + m) cap) w' ∧
      w'.ownsRow B 48 4 (.slice (some ⟨g, 0, none⟩) (n + m) cap) (n + m) (stpsL (xs ++ ss)) ∧ w.grownBy w' (some g0) ∧ (g = g0 ∨ g = w.heap.size) := by
  by_cases h0 : m = 0
  · subst h0
    obtain rfl : ss = [] := List.eq_nil_of_length_eq_zero hm.symm
    refine ⟨g0, c0, w, appendT_none _ _ _ _ _ _ _ (ownT_row hl ho).2.1, ?_, World.grownBy.refl _ _, .inl rfl⟩
    rw [List.append_nil]; exact ho
  · obtain ⟨b, off, rfl⟩ : ∃ b off, a = some ⟨b, off, none⟩ := by
      rcases hx with rfl | ⟨b, off, e, _⟩
      · exact absurd hm h0
      · exact ⟨b, off, e⟩
    obtain ⟨g, cap, w', h1, h5, h6, h7, h8⟩ := appendT (c := ca) ty ho hx hm (by omega) hn hB
    exact ⟨g, cap, w', h1, h5, h6, h7.imp (fun e => (Option.some.inj e).symm) id⟩
theorem stpW_take {w : World} {a : Option Addr} {ss : List Stp} (h : StpW w a ss) (k : Nat) : StpW w a (ss.take k) := by
  rcases h with rfl | ⟨b, off, e, h⟩
  · exact .inl (by simp)
  · refine .inr ⟨b, off, e, fun j s hs => h j s ?_⟩
    rw [List.getElem?_take] at hs
    split at hs
    · exact hs
    · cases hs
theorem stpW_drop {w : World} {g : Nat} {ss : List Stp} (h : StpW w (some ⟨g, 0, none⟩) ss) (k : Nat) : StpW w (some ⟨g, k * 4, none⟩) (ss.drop k) := by
  rcases h with rfl | ⟨b, off, e, h⟩
  · exact .inl (by simp)
  · cases e
    refine .inr ⟨g, k * 4, rfl, fun j s hs => ?_⟩
    rw [List.getElem?_drop] at hs
    have h1 := h (k + j) s hs
    rw [show 0 + (k + j) * 4 = k * 4 + j * 4 by omega] at h1
    exact h1
theorem mod_at {n : Nat} (h1 : 1 ≤ n) (h2 : n ≤ 5000) (x : Int) : ∃ k : Nat, k < n ∧ wrap64 (x.tmod n + n) = x.tmod n + n ∧ (x.tmod n + n).tmod n = k := by
  have e1 := Int.tmod_lt_of_pos x (b := n) (by omega)
  have e2 := Int.tmod_lt_of_pos (-x) (b := n) (by omega)
  rw [Int.neg_tmod] at e2
  have hq : 0 ≤ x.tmod n + n := by omega
  have e0 : (x.tmod n + n).tmod n = (x.tmod n + n) % n := Int.tmod_eq_emod_of_nonneg hq
  have h3 : 0 ≤ (x.tmod n + n) % n := Int.emod_nonneg _ (by omega)
  have h4 : (x.tmod n + n) % n < n := Int.emod_lt_of_pos _ (by omega)
  obtain ⟨k, hk⟩ := Int.eq_ofNat_of_zero_le h3
  exact ⟨k, by omega, by unfold wrap64; omega, by rw [e0, hk]⟩
/-- two steps put in at a place -/
def idleL (ss : List Stp) (k : Nat) (a b : Stp) : List Stp := ss.take k ++ ([a, b] ++ ss.drop k)
theorem idle_len {ss : List Stp} {k : Nat} {a b : Stp} (h : k ≤ ss.length) : (idleL ss k a b).length = ss.length + 2 := by
  simp [idleL]; omega
theorem ok_free {ni no rg : Nat} {s : Stp} (h : OkS ni no (rg : Int) s) : ¬ Touches rg s := by
  unfold OkS at h; unfold Touches
  omega
theorem ok_more {ni no rg : Nat} {s : Stp} (h : OkS ni no (rg : Int) s) : OkS ni no ((rg + 1 : Nat) : Int) s := by
  unfold OkS at h ⊢
  omega
theorem idle_in {ins outs : List Int} {rg : Nat} {ss : List Stp} {k : Nat} {a b : Stp} (h : InF ins outs rg ss) (hr : rg + 1 ≤ 64) (hl : ss.length ≤ 4000) (hk : k ≤ ss.length) (ha : OkS ins.length outs.length ((rg + 1 : Nat) : Int) a) (hb : OkS ins.length outs.length ((rg + 1 : Nat) : Int) b)
    (ha5 : a.op ≠ 5) (hb5 : b.op ≠ 5) : InF ins outs ((rg + 1 : Nat) : Int) (idleL ss k a b) := by
  refine ⟨h.1, h.2.1, ⟨by omega, by omega⟩, by rw [idle_len hk]; omega, fun s hs => ?_, fun d hd => ?_⟩
  · unfold idleL at hs
    simp only [List.mem_append, List.mem_cons, List.not_mem_nil, or_false] at hs
    rcases hs with hs | (rfl | rfl) | hs
    · exact ok_more (h.2.2.2.2.1 s (List.mem_of_mem_take hs))
    · exact ha
    · exact hb
    · exact ok_more (h.2.2.2.2.1 s (List.mem_of_mem_drop hs))
  · rw [← h.2.2.2.2.2 d hd]
    unfold idleL cntO
    conv => rhs; rw [← List.take_append_drop k ss]
    rw [List.countP_append, List.countP_append, List.countP_append]
    simp [List.countP_cons, ha5, hb5]
theorem idle_mean {ins outs : List Int} {rg : Nat} {ss : List Stp} {k : Nat} {a b : Stp} (n no : Nat) (h : InF ins outs rg ss) (ha : a.op ≠ 5 ∧ a.dst = rg) (hb : b.op ≠ 5 ∧ b.dst = rg) : meanL n no (idleL ss k a b) = meanL n no ss := by
  have hm : ∀ s ∈ ss.drop k, ¬ Touches (rg : Int) s := fun s hs => ok_free (h.2.2.2.2.1 s (List.mem_of_mem_drop hs))
  have hd : ∀ s ∈ [a, b], s.op ≠ 5 ∧ s.dst = (rg : Int) := fun s hs => by
    simp only [List.mem_cons, List.not_mem_nil, or_false] at hs
    rcases hs with rfl | rfl
    · exact ha
    · exact hb
  unfold meanL meanRows meanR idleL
  rw [idle_meaning unX hm hd, List.take_append_drop]
theorem idle_trims {ins outs : List Int} {rg : Nat} {ss : List Stp} {k : Nat} {a b : Stp} (h : InF ins outs rg ss) (ha : a.op ≠ 5 ∧ a.dst = rg) (hb : b.op ≠ 5 ∧ b.dst = rg) : trimS (idleL ss k a b) = trimS ss := by
  have hm : ∀ s ∈ ss.drop k, ¬ Touches (rg : Int) s := fun s hs => ok_free (h.2.2.2.2.1 s (List.mem_of_mem_drop hs))
  have hd : ∀ s ∈ [a, b], s.op ≠ 5 ∧ s.dst = (rg : Int) := fun s hs => by
    simp only [List.mem_cons, List.not_mem_nil, or_false] at hs
    rcases hs with rfl | rfl
    · exact ha
    · exact hb
  unfold idleL
  rw [idle_trim hm hd, List.take_append_drop]
theorem stpW_cut {w : World} {g c k : Nat} {ss : List Stp} (h : StpW w (some ⟨g, 0, none⟩) ss) (hk : k ≤ ss.length) (hc : ss.length ≤ c) : StpW w (if c = k then some ⟨g, 0, none⟩ else some ⟨g, k * 4, none⟩) (ss.drop k) := by
  split
  · exact .inl (List.drop_eq_nil_of_le (by omega))
  · exact stpW_drop h k
theorem idle_join {ss : List Stp} {k : Nat} {a b : Stp} : ss.take k ++ [a] ++ [b] ++ ss.drop k = idleL ss k a b := by simp [idleL]
theorem set1_end9 {W X Z : World} {B tb r n c : Nat} {o0 o1 o2 o3 v : Value} {xs : List Value} (hk : X.heap[tb]? = some (.cells #[o0, o1, o2, o3] 25 (0, 0))) (hb : Below B W X) (hB : B ≤ tb) (ho : X.ownsRow B 48 4 (.slice (some ⟨r, 0, none⟩) n c) n xs) (hne : tb ≠ r)
    (hZ : Z = X.setCell ⟨tb, 3, none⟩ v) : Z.heap[tb]? = some (.cells #[o0, o1, o2, v] 25 (0, 0)) ∧ Below B W Z ∧ Z.ownsRow B 48 4 (.slice (some ⟨r, 0, none⟩) n c) n xs := by
  subst hZ
  refine ⟨?_, hb.setCell (p := ⟨tb, 3, none⟩) hB _, own_kept9 ho (grownBy_setCell (g := tb) (World.grownBy.refl _ _) _) (fun e => hne e.symm)⟩
  rw [heap_setCell_same _ _ _ _ _ _ hk]
  rfl
theorem set4_end9 {W X Z : World} {B tb r n c : Nat} {o0 o1 o2 o3 v0 v1 v2 v3 : Value} {xs : List Value} (hk : X.heap[tb]? = some (.cells #[o0, o1, o2, o3] 25 (0, 0))) (hb : Below B W X) (hB : B ≤ tb) (ho : X.ownsRow B 48 4 (.slice (some ⟨r, 0, none⟩) n c) n xs) (hne : tb ≠ r)
    (hZ : Z = (((X.setCell ⟨tb, 0, none⟩ v0).setCell ⟨tb, 1, none⟩ v1).setCell ⟨tb, 2, none⟩ v2).setCell ⟨tb, 3, none⟩ v3) : Z.heap[tb]? = some (.cells #[v0, v1, v2, v3] 25 (0, 0)) ∧ Below B W Z ∧ Z.ownsRow B 48 4 (.slice (some ⟨r, 0, none⟩) n c) n xs := by
  subst hZ
  have hg : X.grownBy ((((X.setCell ⟨tb, 0, none⟩ v0).setCell ⟨tb, 1, none⟩ v1).setCell ⟨tb, 2, none⟩ v2).setCell ⟨tb, 3, none⟩ v3) (some tb) := grownBy_setCell (grownBy_setCell (grownBy_setCell (grownBy_setCell (World.grownBy.refl _ _) _) _) _) _
  refine ⟨?_, (((hb.setCell (p := ⟨tb, 0, none⟩) hB _).setCell (p := ⟨tb, 1, none⟩) hB _).setCell (p := ⟨tb, 2, none⟩) hB _).setCell (p := ⟨tb, 3, none⟩) hB _, own_kept9 ho hg (fun e => hne e.symm)⟩
  rw [heap_setCell_same _ _ _ _ _ _ (heap_setCell_same _ _ _ _ _ _ (heap_setCell_same _ _ _ _ _ _ (heap_setCell_same _ _ _ _ _ _ hk)))]
  rfl
end Go.Proofs.YtoalbopcapgojaaDoor

/- The walk of the statement ProgIdle: it returns true of all programs, places and steps. -/
namespace Go.Proofs.YtoalbopcapgojaaDoor
open Go.RowKit Gf
set_option linter.unusedVariables false
set_option maxRecDepth 20000
set_option linter.unusedSimpArgs false
theorem small32 {a : Nat} (h : a ≤ 5000) : a * 32 ≤ 140737488355328 := by omega
set_option maxRecDepth 100000 in
set_option maxHeartbeats 16000000 in
theorem idle_all (ia oa sa : Option Addr) (il ic ol oc sl sc : Nat) (rg : Int) (ins outs : List Int) (ss : List Stp) (xa zo zd zs zc : Int) (zf : F) (w : World) (s : Addr) (hE : EnvP w s) (hP : PrgW w ia oa sa il ic ol oc sl sc ins outs ss) (hib : ic ≤ 17592186043904) (hob : oc ≤ 17592186043904) (hsb : sc ≤ 4398046510976) (hzc : zc = (zf.toNat : Int)) :
    Calls Tryd.prog 4 #[.agg #[.slice ia il ic, .slice oa ol oc, .int .i64 rg, .slice sa sl sc], .int .i64 xa, .agg #[.int .i64 zo, .int .i64 zd, .int .i64 zs, .int .u8 zc]] w fun e w' => e = .returned (.bool true) ∧ Below w.heap.size w w' := by
  have HE : Hid (EnvP w s) := hE
  have HP : Hid _ := hP
  have HIB : Hid (ic ≤ 17592186043904) := hib
  have HOB : Hid (oc ≤ 17592186043904) := hob
  have HSB : Hid (sc ≤ 4398046510976) := hsb
  have HZC : Hid (zc = (zf.toNat : Int)) := hzc
  have hA0 := holds_new (holds_new (holds_nil w) #[.slice ia il ic, .slice oa ol oc, .int .i64 rg, .slice sa sl sc] 25) #[.int .i64 zo, .int .i64 zd, .int .i64 zs, .int .u8 zc] 48
  simp only [World.size_alloc] at hA0
  have hb0 : Below w.heap.size w ((w.alloc (.cells #[.slice ia il ic, .slice oa ol oc, .int .i64 rg, .slice sa sl sc] 25)).alloc (.cells #[.int .i64 zo, .int .i64 zd, .int .i64 zs, .int .u8 zc] 48)) := ((Below.refl _ w).alloc (Nat.le_refl _) _).alloc (by simp) _
  have HB0 : Hid _ := hb0
  have HK0 : Hid _ := holds_at hA0 1 rfl
  have HS0 : Hid _ := holds_at hA0 0 rfl
  clear hE hP hib hob hsb hzc hA0
  go_enter Tryd.func4, Tryd.ntmps4
  go_wp2_with fail
  refine Calls.mono (alive9_ok _ s (HE.out.below HB0.out)) ?_
  rintro e w1 ⟨rfl, hb1⟩
  have HB1 : Hid (Below w.heap.size w w1) := HB0.out.trans (hb1.mono HB0.out.size)
  have HK1 : Hid _ := heap_later HK0.out hb1
  have HS1 : Hid _ := heap_later HS0.out hb1
  have k0 := cellAt HK1.out 0 _ rfl
  have k1 := cellAt HK1.out 1 _ rfl
  have k2 := cellAt HK1.out 2 _ rfl
  have k3 := cellAt HK1.out 3 _ rfl
  clear hb0 hb1
  go_wp2_with fail
  refine Calls.mono ((HP.out.below HB1.out).inForm) ?_
  by_cases hF : InF ins outs rg ss
  rotate_left
  · rw [inFB_no hF]
    rintro e w2 ⟨rfl, hb2⟩
    have HB2 : Hid (Below w.heap.size w w2) := HB1.out.trans (hb2.mono HB1.out.size)
    clear hb2 hF k0 k1 k2 k3
    go_wp2
    go_ret
    exact ⟨rfl, HB2.out⟩
  rw [inFB_yes hF]
  rintro e w2 ⟨rfl, hb2⟩
  obtain ⟨rg, rfl⟩ := Int.eq_ofNat_of_zero_le hF.2.2.1.1
  have HF : Hid (InF ins outs rg ss) := hF
  have hrg64 : rg ≤ 64 := by have := hF.2.2.1.2; omega
  have HSL : Hid (sl = ss.length) := HP.out.esl
  have HB2 : Hid (Below w.heap.size w w2) := HB1.out.trans (hb2.mono HB1.out.size)
  have HK2 : Hid _ := heap_later HK1.out hb2
  have HS2 : Hid _ := heap_later HS1.out hb2
  have k2 := cellAt HK2.out 2 _ rfl
  have k3 := cellAt HK2.out 3 _ rfl
  clear hb2 hF k0 k1
  by_cases hL : 4000 < sl
  · have hl1 : decide ((4000 : Int) < (sl : Int)) = true := decide_eq_true (by omega)
    clear hL
    go_wp2
    go_ret
    exact ⟨rfl, HB2.out⟩
  have hsl4 : sl ≤ 4000 := by omega
  have hl1 : decide ((4000 : Int) < (sl : Int)) = false := decide_eq_false (by omega)
  clear hL
  by_cases h0 : rg = 0
  · subst h0
    go_wp2
    go_ret
    exact ⟨rfl, HB2.out⟩
  have hrne : ((rg : Int) == 0) = false := by simp; omega
  go_upto_region 5 with fail
  clear hl1 hrne
  obtain ⟨n, hn⟩ : ∃ n, n = sl + 1 := ⟨_, rfl⟩
  have HNN : Hid (n = sl + 1) := hn
  clear hn
  go_cut [7] (fun s7 wx => s7 = .int .i64 n ∧ wx = w2)
  case first =>
    go_wp2
    go_meet
    exact ⟨by rw [HNN.out]; go_num, rfl⟩
  case rest =>
  obtain ⟨rfl, rfl⟩ := hcut
  obtain ⟨k, hk, ea1, ea2⟩ := mod_at (n := n) (by rw [HNN.out]; omega) (by rw [HNN.out]; omega) xa
  have hnz : (n : Int) ≠ 0 := by rw [HNN.out]; omega
  go_upto_region 6 with fail
  go_cut [1] (fun s1 wx => s1 = .int .i64 k ∧ wx = wc)
  case first =>
    go_wp2
    go_meet
    exact ⟨rfl, rfl⟩
  case rest =>
  obtain ⟨rfl, rfl⟩ := hcut
  clear ea1 ea2 hnz k2 k3
  have k0 := cellAt HK2.out 0 _ rfl
  have k1 := cellAt HK2.out 1 _ rfl
  have k2 := cellAt HK2.out 2 _ rfl
  have k3 := cellAt HK2.out 3 _ rfl
  go_wp2_with fail
  refine Calls.mono (copy_F ia oa sa il ic ol oc sl sc rg ins outs ss _ (HP.out.below HB2.out) HIB.out HOB.out HSB.out) ?_
  rintro e w4 ⟨g1, c1, g2, c2, g3, c3, rfl, ho1, ho2, ho3, hb4⟩
  have hB4 : Below w.heap.size w w4 := HB2.out.trans (hb4.mono HB2.out.size)
  obtain ⟨X, hX⟩ : ∃ X, X = w4.alloc (.cells #[.slice (some ⟨g1, 0, none⟩) il c1, .slice (some ⟨g2, 0, none⟩) ol c2, .int .i64 rg, .slice (some ⟨g3, 0, none⟩) sl c3] 25) := ⟨_, rfl⟩
  have hbX : Below w4.heap.size w4 X := by rw [hX]; exact (Below.refl _ _).alloc (Nat.le_refl _) _
  have HXE : Hid _ := hX
  have HBX : Hid (Below w.heap.size w X) := hB4.trans (hbX.mono hB4.size)
  have HO3 : Hid (StpW X (some ⟨g3, 0, none⟩) ss) := (ownT_row HSL.out (own_below ho3 hbX)).1
  have hcq : sl ≤ c3 := (ownT_row HSL.out ho3).2.1
  obtain ⟨qb, hqb⟩ : ∃ qb, qb = w4.heap.size := ⟨_, rfl⟩
  have HQX : Hid (X.heap[qb]? = some (.cells #[.slice (some ⟨g1, 0, none⟩) il c1, .slice (some ⟨g2, 0, none⟩) ol c2, .int .i64 rg, .slice (some ⟨g3, 0, none⟩) sl c3] 25 (0, 0))) := by show _ = _; rw [hX, hqb]; exact heap_alloc_last _ _
  have HKX : Hid _ := heap_later (heap_later HK2.out hb4) hbX
  have HSX : Hid _ := heap_later (heap_later HS2.out hb4) hbX
  have HQB : Hid _ := hqb
  have hqx : w.heap.size + 1 < X.heap.size := ltHeap HSX.out
  clear hb4 hB4 hbX hX ho1 ho2 ho3 hqb k0 k1 k2 k3
  go_upto_region 8 with fail
  rw [← HXE.out, ← HQB.out]
  clear HXE
  obtain ⟨rh, hrh⟩ : ∃ rh : Nat, rh = rg + 1 := ⟨_, rfl⟩
  have HRH : Hid (rh = rg + 1) := hrh
  have HRI : Hid (IntKind.i64.wrap ((rg : Int) + 1) = (rh : Int)) := by show _ = _; rw [IntKind.wrap_i64]; omega
  clear hrh
  have hkc : (k : Int) ≤ (c3 : Int) := by have := HNN.out; omega
  have HKL : Hid (k = (ss.take k).length) := by show _ = _; rw [List.length_take, ← HSL.out]; have := HNN.out; omega
  have HK9 : Hid (k ≤ sl) := by have := HNN.out; show _ ≤ _; omega
  have HS4 : Hid (sl ≤ 4000) := hsl4
  have hk32 : k * 32 ≤ 140737488355328 := small32 (Nat.le_trans HK9.out (Nat.le_trans HS4.out (by decide)))
  go_cut [9] (fun s9 wx => ∃ tb r c, s9 = .pointer (some ⟨tb, 0, none⟩) ∧ X.heap.size ≤ tb ∧ tb ≠ r ∧ wx.heap[tb]? = some (.cells #[.slice ia il ic, .slice oa ol oc, .int .i64 rh, .slice (some ⟨r, 0, none⟩) k c] 25 (0, 0)) ∧ Below X.heap.size X wx ∧ wx.ownsRow X.heap.size 48 4 (.slice (some ⟨r, 0, none⟩) k c) k (stpsL (ss.take k)))
  case first =>
    obtain ⟨Y, hY⟩ : ∃ Y, Y = X.drew := ⟨_, rfl⟩
    have BY : Below X.heap.size X Y := by rw [hY]; exact Below.drew (Below.refl _ X)
    have HY : Hid _ := hY
    clear hY
    refine wp_region_noPanic ?_
    refine wp_region_held_drew (S := fun u => Below X.heap.size X u) (by kernel_rfl) ?_ (fun hHeld => ?_)
    · exact Below.drew (Below.refl _ X)
    rw [← HY.out] at hHeld ⊢
    clear HY
    refine wpAnyH_take (i := 0) (oi := { dst := some 49, op := Op.fieldAddr 25 (Operand.tmp 3) 0, type := 0, pos := "more.go:21", after := #[], guard := none }) (v := ?_) rfl (by kernel_rfl) (by kernel_rfl) (by kernel_rfl) (fun _ _ _ h => h) (Or.inl ⟨by rfl, ?_⟩) hHeld ?_
    rotate_left
    · intro u hSw
      go_simp
      try with_reducible rfl
    try simp only [Act.put, List.setIfInBounds_toArray, List.set_cons_zero, List.set_cons_succ]
    refine wpAnyH_take (i := 1) (oi := { dst := some 50, op := Op.load 22 (Operand.tmp 49), type := 22, pos := "more.go:21", after := #[{ on := 0, ground := Ground.data }], guard := none }) (v := ?_) rfl (by kernel_rfl) (by kernel_rfl) (by kernel_rfl) (fun _ _ _ h => h) (Or.inl ⟨by rfl, ?_⟩) hHeld ?_
    rotate_left
    · intro u hSw
      have k9 := cellAt (heap_later HKX.out hSw) 0 _ rfl
      go_simp
      try with_reducible rfl
    try simp only [Act.put, List.setIfInBounds_toArray, List.set_cons_zero, List.set_cons_succ]
    refine wpAnyH_take (i := 2) (oi := { dst := some 51, op := Op.fieldAddr 25 (Operand.tmp 3) 1, type := 0, pos := "more.go:21", after := #[], guard := none }) (v := ?_) rfl (by kernel_rfl) (by kernel_rfl) (by kernel_rfl) (fun _ _ _ h => h) (Or.inl ⟨by rfl, ?_⟩) hHeld ?_
    rotate_left
    · intro u hSw
      go_simp
      try with_reducible rfl
    try simp only [Act.put, List.setIfInBounds_toArray, List.set_cons_zero, List.set_cons_succ]
    refine wpAnyH_take (i := 3) (oi := { dst := some 52, op := Op.load 22 (Operand.tmp 51), type := 22, pos := "more.go:21", after := #[{ on := 2, ground := Ground.data }], guard := none }) (v := ?_) rfl (by kernel_rfl) (by kernel_rfl) (by kernel_rfl) (fun _ _ _ h => h) (Or.inl ⟨by rfl, ?_⟩) hHeld ?_
    rotate_left
    · intro u hSw
      have k9 := cellAt (heap_later HKX.out hSw) 1 _ rfl
      go_simp
      try with_reducible rfl
    try simp only [Act.put, List.setIfInBounds_toArray, List.set_cons_zero, List.set_cons_succ]
    refine wpAnyH_take (i := 4) (oi := { dst := some 53, op := Op.fieldAddr 25 (Operand.tmp 3) 2, type := 0, pos := "more.go:21", after := #[], guard := none }) (v := ?_) rfl (by kernel_rfl) (by kernel_rfl) (by kernel_rfl) (fun _ _ _ h => h) (Or.inl ⟨by rfl, ?_⟩) hHeld ?_
    rotate_left
    · intro u hSw
      go_simp
      try with_reducible rfl
    try simp only [Act.put, List.setIfInBounds_toArray, List.set_cons_zero, List.set_cons_succ]
    refine wpAnyH_take (i := 5) (oi := { dst := some 54, op := Op.load 3 (Operand.tmp 53), type := 3, pos := "more.go:21", after := #[{ on := 4, ground := Ground.data }], guard := none }) (v := ?_) rfl (by kernel_rfl) (by kernel_rfl) (by kernel_rfl) (fun _ _ _ h => h) (Or.inl ⟨by rfl, ?_⟩) hHeld ?_
    rotate_left
    · intro u hSw
      have k9 := cellAt (heap_later HKX.out hSw) 2 _ rfl
      go_simp
      try with_reducible rfl
    try simp only [Act.put, List.setIfInBounds_toArray, List.set_cons_zero, List.set_cons_succ]
    refine wpAnyH_take (i := 6) (oi := { dst := some 55, op := Op.binOp BinOp.add 3 (Operand.tmp 54) (Operand.const (Value.int IntKind.i64 1)) 3, type := 3, pos := "more.go:21", after := #[{ on := 5, ground := Ground.data }], guard := none }) (v := ?_) rfl (by kernel_rfl) (by kernel_rfl) (by kernel_rfl) (fun _ _ _ h => h) (Or.inl ⟨by rfl, ?_⟩) hHeld ?_
    rotate_left
    · intro u hSw
      go_simp
      try with_reducible rfl
    try simp only [Act.put, List.setIfInBounds_toArray, List.set_cons_zero, List.set_cons_succ]
    refine wpAnyH_take (i := 8) (oi := { dst := some 57, op := Op.fieldAddr 25 (Operand.tmp 8) 3, type := 0, pos := "more.go:21", after := #[], guard := none }) (v := ?_) rfl (by kernel_rfl) (by kernel_rfl) (by kernel_rfl) (fun _ _ _ h => h) (Or.inl ⟨by rfl, ?_⟩) hHeld ?_
    rotate_left
    · intro u hSw
      go_simp
      try with_reducible rfl
    try simp only [Act.put, List.setIfInBounds_toArray, List.set_cons_zero, List.set_cons_succ]
    refine wpAnyH_take (i := 9) (oi := { dst := some 58, op := Op.load 23 (Operand.tmp 57), type := 23, pos := "more.go:21", after := #[{ on := 8, ground := Ground.data }], guard := none }) (v := ?_) rfl (by kernel_rfl) (by kernel_rfl) (by kernel_rfl) (fun _ _ _ h => h) (Or.inl ⟨by rfl, ?_⟩) hHeld ?_
    rotate_left
    · intro u hSw
      have k9 := cellAt (heap_later HQX.out hSw) 3 _ rfl
      go_simp
      try with_reducible rfl
    try simp only [Act.put, List.setIfInBounds_toArray, List.set_cons_zero, List.set_cons_succ]
    refine wpAnyH_take (i := 10) (oi := { dst := some 59, op := Op.move (Operand.tmp 1), type := 3, pos := "more.go:21", after := #[], guard := none }) (v := ?_) rfl (by kernel_rfl) (by kernel_rfl) (by kernel_rfl) (fun _ _ _ h => h) (Or.inl ⟨by rfl, ?_⟩) hHeld ?_
    rotate_left
    · intro u hSw
      go_simp
      try with_reducible rfl
    try simp only [Act.put, List.setIfInBounds_toArray, List.set_cons_zero, List.set_cons_succ]
    refine wpAnyH_take (i := 11) (oi := { dst := some 60, op := Op.slice 23 (Operand.tmp 58) none (some (Operand.tmp 59)) none, type := 23, pos := "more.go:21", after := #[{ on := 9, ground := Ground.data }, { on := 10, ground := Ground.data }], guard := none }) (v := ?_) rfl (by kernel_rfl) (by kernel_rfl) (by kernel_rfl) (fun _ _ _ h => h) (Or.inl ⟨by rfl, ?_⟩) hHeld ?_
    rotate_left
    · intro u hSw
      go_simp
      try with_reducible rfl
    try simp only [Act.put, List.setIfInBounds_toArray, List.set_cons_zero, List.set_cons_succ]
    refine wpAnyH_ready (rs := [7, 14]) (by kernel_rfl) (by simp) ?_
    refine (AllReadyH.cons (o := { dst := some 56, op := Op.buildSlice 23 0 #[], type := 23, pos := "more.go:21", after := #[], guard := none }) rfl (fun K hK => ?_) (AllReadyH.cons (o := { dst := some 9, op := Op.alloc 25, type := 0, pos := "more.go:21", after := #[], guard := none }) rfl (fun K hK => ?_) AllReadyH.nil))
    · obtain ⟨Y0, hY0⟩ : ∃ Z9 : World, Z9 = Y.alloc (.cells #[] 48) := ⟨_, rfl⟩
      have bY0 : Below Y.heap.size Y Y0 := by rw [hY0]; exact (Below.refl _ _).alloc (Nat.le_refl _) _
      have BY0 : Below X.heap.size X Y0 := BY.trans (bY0.mono BY.size)
      have fY0 := heap_alloc_last Y (.cells #[] 48)
      rw [← hY0] at fY0
      have eY0 : Y0.ownsRow X.heap.size 48 4 (.slice (some ⟨Y.heap.size, 0, none⟩) 0 0) 0 [] := own_empty fY0 BY.size
      have HY0 : Hid (Y0 = _) := hY0
      clear hY0
      go_simp
      rw [← HY0.out]
      refine hK.out _ _ ?_ (fun hHeld => ?_)
      · exact BY0
      clear hK K
      try simp only [Act.put, List.setIfInBounds_toArray, List.set_cons_zero, List.set_cons_succ]
      refine wpAnyH_ready (rs := [12, 14]) (by kernel_rfl) (by simp) ?_
      refine (AllReadyH.cons (o := { dst := some 61, op := Op.call { callee := Callee.builtin Builtin.append, args := #[Operand.tmp 56, Operand.tmp 60], argTypes := #[23, 23] }, type := 23, pos := "more.go:21", after := #[{ on := 7, ground := Ground.data }, { on := 11, ground := Ground.data }], guard := none }) rfl (fun K hK => ?_) (AllReadyH.cons (o := { dst := some 9, op := Op.alloc 25, type := 0, pos := "more.go:21", after := #[], guard := none }) rfl (fun K hK => ?_) AllReadyH.nil))
      · obtain ⟨rY1, pY1, Y1, aY1, oY1, wY1, vY1⟩ := copyT (ca := c3) 23 eY0 HKL.out hk32 (stpW_take (stpW_below HO3.out BY0) k) BY0.size
        have BY1 : Below X.heap.size X Y1 := below_own BY0 eY0 wY1 BY0.size
        refine wanted_append_run rfl _ _ 23 rfl _ _ _ _ rfl rfl aY1 ?_
        refine hK.out _ _ ?_ (fun hHeld => ?_)
        · exact BY1
        clear hK K
        try simp only [Act.put, List.setIfInBounds_toArray, List.set_cons_zero, List.set_cons_succ]
        refine wpAnyH_take (i := 13) (oi := { dst := some 62, op := Op.build 25 #[(0, Operand.tmp 50), (1, Operand.tmp 52), (2, Operand.tmp 55), (3, Operand.tmp 61)], type := 25, pos := "more.go:21", after := #[{ on := 1, ground := Ground.data }, { on := 3, ground := Ground.data }, { on := 6, ground := Ground.data }, { on := 12, ground := Ground.data }], guard := none }) (v := ?_) rfl (by kernel_rfl) (by kernel_rfl) (by kernel_rfl) (fun _ _ _ h => h) (Or.inl ⟨by rfl, ?_⟩) hHeld ?_
        rotate_left
        · intro u hSw
          go_simp
          try with_reducible rfl
        try simp only [Act.put, List.setIfInBounds_toArray, List.set_cons_zero, List.set_cons_succ]
        refine wpAnyH_ready (rs := [14]) (by kernel_rfl) (by simp) ?_
        refine (AllReadyH.cons (o := { dst := some 9, op := Op.alloc 25, type := 0, pos := "more.go:21", after := #[], guard := none }) rfl (fun K hK => ?_) AllReadyH.nil)
        obtain ⟨Y2, hY2⟩ : ∃ Z9 : World, Z9 = Y1.alloc (.cells #[.slice none 0 0, .slice none 0 0, .int .i64 0, .slice none 0 0] 25) := ⟨_, rfl⟩
        have bY2 : Below Y1.heap.size Y1 Y2 := by rw [hY2]; exact (Below.refl _ _).alloc (Nat.le_refl _) _
        have BY2 : Below X.heap.size X Y2 := BY1.trans (bY2.mono BY1.size)
        have fY2 := heap_alloc_last Y1 (.cells #[.slice none 0 0, .slice none 0 0, .int .i64 0, .slice none 0 0] 25)
        rw [← hY2] at fY2
        have oY2 := own_below oY1 bY2
        have nY2 : Y1.heap.size ≠ rY1 := (Nat.ne_of_lt (own_lt9 oY1)).symm
        have HY2 : Hid (Y2 = _) := hY2
        clear hY2
        go_simp
        rw [← HY2.out]
        refine hK.out _ _ ?_ (fun hHeld => ?_)
        · exact BY2
        clear hK K
        try simp only [Act.put, List.setIfInBounds_toArray, List.set_cons_zero, List.set_cons_succ]
        refine wpAnyH_ready (rs := [15]) (by kernel_rfl) (by simp) ?_
        refine (AllReadyH.cons (o := { dst := none, op := Op.store 25 (Operand.tmp 9) (Operand.tmp 62), type := 0, pos := "more.go:21", after := #[{ on := 14, ground := Ground.data }, { on := 13, ground := Ground.data }, { on := 12, ground := Ground.chain }, { on := 0, ground := Ground.phase }, { on := 1, ground := Ground.phase }, { on := 2, ground := Ground.phase }, { on := 3, ground := Ground.phase }, { on := 4, ground := Ground.phase }, { on := 5, ground := Ground.phase }, { on := 6, ground := Ground.phase }, { on := 7, ground := Ground.phase }, { on := 8, ground := Ground.phase }, { on := 9, ground := Ground.phase }, { on := 10, ground := Ground.phase }, { on := 11, ground := Ground.phase }, { on := 12, ground := Ground.phase }, { on := 13, ground := Ground.phase }, { on := 14, ground := Ground.phase }], guard := none }) rfl (fun K hK => ?_) AllReadyH.nil)
        have d0 := cellAt fY2 0 _ rfl
        have e0 : Y2.frozen? ⟨Y1.heap.size, 0, none⟩ = false := frozen_of_row _ _ _ _ _ fY2
        have d1 := cellAt fY2 1 _ rfl
        have e1 : Y2.frozen? ⟨Y1.heap.size, 1, none⟩ = false := frozen_of_row _ _ _ _ _ fY2
        have d2 := cellAt fY2 2 _ rfl
        have e2 : Y2.frozen? ⟨Y1.heap.size, 2, none⟩ = false := frozen_of_row _ _ _ _ _ fY2
        have d3 := cellAt fY2 3 _ rfl
        have e3 : Y2.frozen? ⟨Y1.heap.size, 3, none⟩ = false := frozen_of_row _ _ _ _ _ fY2
        go_simp
        refine hK.out _ _ ?_ (fun hHeld => ?_)
        · exact (((BY2.setCell (p := ⟨Y1.heap.size, 0, none⟩) BY1.size _).setCell (p := ⟨Y1.heap.size, 1, none⟩) BY1.size _).setCell (p := ⟨Y1.heap.size, 2, none⟩) BY1.size _).setCell (p := ⟨Y1.heap.size, 3, none⟩) BY1.size _
        clear hK K
        try simp only [Act.put, List.setIfInBounds_toArray, List.set_cons_zero, List.set_cons_succ]
        refine wpAnyH_done (by kernel_rfl) ?_ _
        refine NoPanic.normal ?_
        obtain ⟨Z, hZ⟩ : ∃ Z, Z = ((((Y2.setCell ⟨Y1.heap.size, 0, none⟩ (.slice ia il ic)).setCell ⟨Y1.heap.size, 1, none⟩ (.slice oa ol oc)).setCell ⟨Y1.heap.size, 2, none⟩ (.int .i64 (IntKind.i64.wrap ((rg : Int) + 1)))).setCell ⟨Y1.heap.size, 3, none⟩ (.slice (some ⟨rY1, 0, none⟩) k pY1)) := ⟨_, rfl⟩
        have hfin := set4_end9 fY2 BY2 BY1.size oY2 nY2 hZ
        rw [HRI.out] at hfin
        rw [← hZ]
        go_wp2
        go_meet
        exact ⟨_, _, _, rfl, BY1.size, nY2, hfin.1, hfin.2.1, hfin.2.2⟩
      · obtain ⟨Y1, hY1⟩ : ∃ Z9 : World, Z9 = Y0.alloc (.cells #[.slice none 0 0, .slice none 0 0, .int .i64 0, .slice none 0 0] 25) := ⟨_, rfl⟩
        have bY1 : Below Y0.heap.size Y0 Y1 := by rw [hY1]; exact (Below.refl _ _).alloc (Nat.le_refl _) _
        have BY1 : Below X.heap.size X Y1 := BY0.trans (bY1.mono BY0.size)
        have fY1 := heap_alloc_last Y0 (.cells #[.slice none 0 0, .slice none 0 0, .int .i64 0, .slice none 0 0] 25)
        rw [← hY1] at fY1
        have oY1 := own_below eY0 bY1
        have nY1 : Y0.heap.size ≠ Y.heap.size := (Nat.ne_of_lt (own_lt9 eY0)).symm
        have HY1 : Hid (Y1 = _) := hY1
        clear hY1
        go_simp
        rw [← HY1.out]
        refine hK.out _ _ ?_ (fun hHeld => ?_)
        · exact BY1
        clear hK K
        try simp only [Act.put, List.setIfInBounds_toArray, List.set_cons_zero, List.set_cons_succ]
        refine wpAnyH_ready (rs := [12]) (by kernel_rfl) (by simp) ?_
        refine (AllReadyH.cons (o := { dst := some 61, op := Op.call { callee := Callee.builtin Builtin.append, args := #[Operand.tmp 56, Operand.tmp 60], argTypes := #[23, 23] }, type := 23, pos := "more.go:21", after := #[{ on := 7, ground := Ground.data }, { on := 11, ground := Ground.data }], guard := none }) rfl (fun K hK => ?_) AllReadyH.nil)
        obtain ⟨rY2, pY2, Y2, aY2, oY2, wY2, vY2⟩ := copyT (ca := c3) 23 oY1 HKL.out hk32 (stpW_take (stpW_below HO3.out BY1) k) BY1.size
        have BY2 : Below X.heap.size X Y2 := below_own BY1 oY1 wY2 BY1.size
        have tY2 := (wY2.block Y0.heap.size (ltHeap fY1) (fun e => nY1 (Option.some.inj e))).trans fY1
        have nY2 : Y0.heap.size ≠ rY2 := by rcases vY2 with h | h <;> rw [h]; exact nY1; exact Nat.ne_of_lt (ltHeap fY1)
        refine wanted_append_run rfl _ _ 23 rfl _ _ _ _ rfl rfl aY2 ?_
        refine hK.out _ _ ?_ (fun hHeld => ?_)
        · exact BY2
        clear hK K
        try simp only [Act.put, List.setIfInBounds_toArray, List.set_cons_zero, List.set_cons_succ]
        refine wpAnyH_take (i := 13) (oi := { dst := some 62, op := Op.build 25 #[(0, Operand.tmp 50), (1, Operand.tmp 52), (2, Operand.tmp 55), (3, Operand.tmp 61)], type := 25, pos := "more.go:21", after := #[{ on := 1, ground := Ground.data }, { on := 3, ground := Ground.data }, { on := 6, ground := Ground.data }, { on := 12, ground := Ground.data }], guard := none }) (v := ?_) rfl (by kernel_rfl) (by kernel_rfl) (by kernel_rfl) (fun _ _ _ h => h) (Or.inl ⟨by rfl, ?_⟩) hHeld ?_
        rotate_left
        · intro u hSw
          go_simp
          try with_reducible rfl
        try simp only [Act.put, List.setIfInBounds_toArray, List.set_cons_zero, List.set_cons_succ]
        refine wpAnyH_ready (rs := [15]) (by kernel_rfl) (by simp) ?_
        refine (AllReadyH.cons (o := { dst := none, op := Op.store 25 (Operand.tmp 9) (Operand.tmp 62), type := 0, pos := "more.go:21", after := #[{ on := 14, ground := Ground.data }, { on := 13, ground := Ground.data }, { on := 12, ground := Ground.chain }, { on := 0, ground := Ground.phase }, { on := 1, ground := Ground.phase }, { on := 2, ground := Ground.phase }, { on := 3, ground := Ground.phase }, { on := 4, ground := Ground.phase }, { on := 5, ground := Ground.phase }, { on := 6, ground := Ground.phase }, { on := 7, ground := Ground.phase }, { on := 8, ground := Ground.phase }, { on := 9, ground := Ground.phase }, { on := 10, ground := Ground.phase }, { on := 11, ground := Ground.phase }, { on := 12, ground := Ground.phase }, { on := 13, ground := Ground.phase }, { on := 14, ground := Ground.phase }], guard := none }) rfl (fun K hK => ?_) AllReadyH.nil)
        have d0 := cellAt tY2 0 _ rfl
        have e0 : Y2.frozen? ⟨Y0.heap.size, 0, none⟩ = false := frozen_of_row _ _ _ _ _ tY2
        have d1 := cellAt tY2 1 _ rfl
        have e1 : Y2.frozen? ⟨Y0.heap.size, 1, none⟩ = false := frozen_of_row _ _ _ _ _ tY2
        have d2 := cellAt tY2 2 _ rfl
        have e2 : Y2.frozen? ⟨Y0.heap.size, 2, none⟩ = false := frozen_of_row _ _ _ _ _ tY2
        have d3 := cellAt tY2 3 _ rfl
        have e3 : Y2.frozen? ⟨Y0.heap.size, 3, none⟩ = false := frozen_of_row _ _ _ _ _ tY2
        go_simp
        refine hK.out _ _ ?_ (fun hHeld => ?_)
        · exact (((BY2.setCell (p := ⟨Y0.heap.size, 0, none⟩) BY0.size _).setCell (p := ⟨Y0.heap.size, 1, none⟩) BY0.size _).setCell (p := ⟨Y0.heap.size, 2, none⟩) BY0.size _).setCell (p := ⟨Y0.heap.size, 3, none⟩) BY0.size _
        clear hK K
        try simp only [Act.put, List.setIfInBounds_toArray, List.set_cons_zero, List.set_cons_succ]
        refine wpAnyH_done (by kernel_rfl) ?_ _
        refine NoPanic.normal ?_
        obtain ⟨Z, hZ⟩ : ∃ Z, Z = ((((Y2.setCell ⟨Y0.heap.size, 0, none⟩ (.slice ia il ic)).setCell ⟨Y0.heap.size, 1, none⟩ (.slice oa ol oc)).setCell ⟨Y0.heap.size, 2, none⟩ (.int .i64 (IntKind.i64.wrap ((rg : Int) + 1)))).setCell ⟨Y0.heap.size, 3, none⟩ (.slice (some ⟨rY2, 0, none⟩) k pY2)) := ⟨_, rfl⟩
        have hfin := set4_end9 tY2 BY2 BY0.size oY2 nY2 hZ
        rw [HRI.out] at hfin
        rw [← hZ]
        go_wp2
        go_meet
        exact ⟨_, _, _, rfl, BY0.size, nY2, hfin.1, hfin.2.1, hfin.2.2⟩
    · obtain ⟨Y0, hY0⟩ : ∃ Z9 : World, Z9 = Y.alloc (.cells #[.slice none 0 0, .slice none 0 0, .int .i64 0, .slice none 0 0] 25) := ⟨_, rfl⟩
      have bY0 : Below Y.heap.size Y Y0 := by rw [hY0]; exact (Below.refl _ _).alloc (Nat.le_refl _) _
      have BY0 : Below X.heap.size X Y0 := BY.trans (bY0.mono BY.size)
      have fY0 := heap_alloc_last Y (.cells #[.slice none 0 0, .slice none 0 0, .int .i64 0, .slice none 0 0] 25)
      rw [← hY0] at fY0
      have HY0 : Hid (Y0 = _) := hY0
      clear hY0
      go_simp
      rw [← HY0.out]
      refine hK.out _ _ ?_ (fun hHeld => ?_)
      · exact BY0
      clear hK K
      try simp only [Act.put, List.setIfInBounds_toArray, List.set_cons_zero, List.set_cons_succ]
      refine wpAnyH_ready (rs := [7]) (by kernel_rfl) (by simp) ?_
      refine (AllReadyH.cons (o := { dst := some 56, op := Op.buildSlice 23 0 #[], type := 23, pos := "more.go:21", after := #[], guard := none }) rfl (fun K hK => ?_) AllReadyH.nil)
      obtain ⟨Y1, hY1⟩ : ∃ Z9 : World, Z9 = Y0.alloc (.cells #[] 48) := ⟨_, rfl⟩
      have bY1 : Below Y0.heap.size Y0 Y1 := by rw [hY1]; exact (Below.refl _ _).alloc (Nat.le_refl _) _
      have BY1 : Below X.heap.size X Y1 := BY0.trans (bY1.mono BY0.size)
      have fY1 := heap_alloc_last Y0 (.cells #[] 48)
      rw [← hY1] at fY1
      have tY1 := heap_later fY0 bY1
      have eY1 : Y1.ownsRow X.heap.size 48 4 (.slice (some ⟨Y0.heap.size, 0, none⟩) 0 0) 0 [] := own_empty fY1 BY0.size
      have nY1 : Y.heap.size ≠ Y0.heap.size := Nat.ne_of_lt (ltHeap fY0)
      have HY1 : Hid (Y1 = _) := hY1
      clear hY1
      go_simp
      rw [← HY1.out]
      refine hK.out _ _ ?_ (fun hHeld => ?_)
      · exact BY1
      clear hK K
      try simp only [Act.put, List.setIfInBounds_toArray, List.set_cons_zero, List.set_cons_succ]
      refine wpAnyH_ready (rs := [12]) (by kernel_rfl) (by simp) ?_
      refine (AllReadyH.cons (o := { dst := some 61, op := Op.call { callee := Callee.builtin Builtin.append, args := #[Operand.tmp 56, Operand.tmp 60], argTypes := #[23, 23] }, type := 23, pos := "more.go:21", after := #[{ on := 7, ground := Ground.data }, { on := 11, ground := Ground.data }], guard := none }) rfl (fun K hK => ?_) AllReadyH.nil)
      obtain ⟨rY2, pY2, Y2, aY2, oY2, wY2, vY2⟩ := copyT (ca := c3) 23 eY1 HKL.out hk32 (stpW_take (stpW_below HO3.out BY1) k) BY1.size
      have BY2 : Below X.heap.size X Y2 := below_own BY1 eY1 wY2 BY1.size
      have tY2 := (wY2.block Y.heap.size (ltHeap tY1) (fun e => nY1 (Option.some.inj e))).trans tY1
      have nY2 : Y.heap.size ≠ rY2 := by rcases vY2 with h | h <;> rw [h]; exact nY1; exact Nat.ne_of_lt (ltHeap tY1)
      refine wanted_append_run rfl _ _ 23 rfl _ _ _ _ rfl rfl aY2 ?_
      refine hK.out _ _ ?_ (fun hHeld => ?_)
      · exact BY2
      clear hK K
      try simp only [Act.put, List.setIfInBounds_toArray, List.set_cons_zero, List.set_cons_succ]
      refine wpAnyH_take (i := 13) (oi := { dst := some 62, op := Op.build 25 #[(0, Operand.tmp 50), (1, Operand.tmp 52), (2, Operand.tmp 55), (3, Operand.tmp 61)], type := 25, pos := "more.go:21", after := #[{ on := 1, ground := Ground.data }, { on := 3, ground := Ground.data }, { on := 6, ground := Ground.data }, { on := 12, ground := Ground.data }], guard := none }) (v := ?_) rfl (by kernel_rfl) (by kernel_rfl) (by kernel_rfl) (fun _ _ _ h => h) (Or.inl ⟨by rfl, ?_⟩) hHeld ?_
      rotate_left
      · intro u hSw
        go_simp
        try with_reducible rfl
      try simp only [Act.put, List.setIfInBounds_toArray, List.set_cons_zero, List.set_cons_succ]
      refine wpAnyH_ready (rs := [15]) (by kernel_rfl) (by simp) ?_
      refine (AllReadyH.cons (o := { dst := none, op := Op.store 25 (Operand.tmp 9) (Operand.tmp 62), type := 0, pos := "more.go:21", after := #[{ on := 14, ground := Ground.data }, { on := 13, ground := Ground.data }, { on := 12, ground := Ground.chain }, { on := 0, ground := Ground.phase }, { on := 1, ground := Ground.phase }, { on := 2, ground := Ground.phase }, { on := 3, ground := Ground.phase }, { on := 4, ground := Ground.phase }, { on := 5, ground := Ground.phase }, { on := 6, ground := Ground.phase }, { on := 7, ground := Ground.phase }, { on := 8, ground := Ground.phase }, { on := 9, ground := Ground.phase }, { on := 10, ground := Ground.phase }, { on := 11, ground := Ground.phase }, { on := 12, ground := Ground.phase }, { on := 13, ground := Ground.phase }, { on := 14, ground := Ground.phase }], guard := none }) rfl (fun K hK => ?_) AllReadyH.nil)
      have d0 := cellAt tY2 0 _ rfl
      have e0 : Y2.frozen? ⟨Y.heap.size, 0, none⟩ = false := frozen_of_row _ _ _ _ _ tY2
      have d1 := cellAt tY2 1 _ rfl
      have e1 : Y2.frozen? ⟨Y.heap.size, 1, none⟩ = false := frozen_of_row _ _ _ _ _ tY2
      have d2 := cellAt tY2 2 _ rfl
      have e2 : Y2.frozen? ⟨Y.heap.size, 2, none⟩ = false := frozen_of_row _ _ _ _ _ tY2
      have d3 := cellAt tY2 3 _ rfl
      have e3 : Y2.frozen? ⟨Y.heap.size, 3, none⟩ = false := frozen_of_row _ _ _ _ _ tY2
      go_simp
      refine hK.out _ _ ?_ (fun hHeld => ?_)
      · exact (((BY2.setCell (p := ⟨Y.heap.size, 0, none⟩) BY.size _).setCell (p := ⟨Y.heap.size, 1, none⟩) BY.size _).setCell (p := ⟨Y.heap.size, 2, none⟩) BY.size _).setCell (p := ⟨Y.heap.size, 3, none⟩) BY.size _
      clear hK K
      try simp only [Act.put, List.setIfInBounds_toArray, List.set_cons_zero, List.set_cons_succ]
      refine wpAnyH_done (by kernel_rfl) ?_ _
      refine NoPanic.normal ?_
      obtain ⟨Z, hZ⟩ : ∃ Z, Z = ((((Y2.setCell ⟨Y.heap.size, 0, none⟩ (.slice ia il ic)).setCell ⟨Y.heap.size, 1, none⟩ (.slice oa ol oc)).setCell ⟨Y.heap.size, 2, none⟩ (.int .i64 (IntKind.i64.wrap ((rg : Int) + 1)))).setCell ⟨Y.heap.size, 3, none⟩ (.slice (some ⟨rY2, 0, none⟩) k pY2)) := ⟨_, rfl⟩
      have hfin := set4_end9 tY2 BY2 BY.size oY2 nY2 hZ
      rw [HRI.out] at hfin
      rw [← hZ]
      go_wp2
      go_meet
      exact ⟨_, _, _, rfl, BY.size, nY2, hfin.1, hfin.2.1, hfin.2.2⟩
  case rest =>
  obtain ⟨tb, r, cr, rfl, htb, hne, hkt, hbt, hot⟩ := hcut
  have HTB : Hid (X.heap.size ≤ tb) := htb
  have HNE : Hid (tb ≠ r) := hne
  have HKT : Hid _ := hkt
  have HBT : Hid (Below X.heap.size X wc) := hbt
  have HOT : Hid _ := hot
  have HBW : Hid (Below w.heap.size w wc) := HBX.out.trans (hbt.mono HBX.out.size)
  have t2 := cellAt hkt 2 _ rfl
  have t3 := cellAt hkt 3 _ rfl
  have k2 := cellAt (heap_later HKX.out hbt) 2 _ rfl
  have z0 := cellAt (heap_later HSX.out hbt) 0 _ rfl
  have z3 := cellAt (heap_later HSX.out hbt) 3 _ rfl
  have HK33 : Hid ((k + 1) * 32 ≤ 140737488355328) := small32 (Nat.succ_le_succ (Nat.le_trans HK9.out (Nat.le_trans HS4.out (by decide : 4000 ≤ 4999))))
  have HK34 : Hid ((k + 1 + 1) * 32 ≤ 140737488355328) := small32 (Nat.succ_le_succ (Nat.succ_le_succ (Nat.le_trans HK9.out (Nat.le_trans HS4.out (by decide : 4000 ≤ 4998)))))
  clear htb hne hkt hbt hot hkc
  by_cases h64 : 64 < rh
  · have hd : decide ((64 : Int) < (rh : Int)) = true := decide_eq_true (by omega)
    clear h64
    go_wp2
    go_ret
    exact ⟨rfl, HBW.out⟩
  have hd : decide ((64 : Int) < (rh : Int)) = false := decide_eq_false (by omega)
  have HR64 : Hid (rg + 1 ≤ 64) := by have := HRH.out; show _ ≤ _; omega
  have hrg1 : 1 ≤ rg := by omega
  clear h64
  go_upto_if 70 with fail
  clear hd t2 k2
  go_cut [] (fun wx => ∃ st r c, (st.op ≠ 5 ∧ st.dst = (rg : Int)) ∧ OkS ins.length outs.length ((rg + 1 : Nat) : Int) st ∧ tb ≠ r ∧ wx.heap[tb]? = some (.cells #[.slice ia il ic, .slice oa ol oc, .int .i64 rh, .slice (some ⟨r, 0, none⟩) (k + 1) c] 25 (0, 0)) ∧ Below X.heap.size X wx ∧ wx.ownsRow X.heap.size 48 4 (.slice (some ⟨r, 0, none⟩) (k + 1) c) (k + 1) (stpsL (ss.take k ++ [st])))
  case first =>
    by_cases h4 : zo = 4
    · have e4 : (zo == 4) = true := by rw [h4]; rfl
      obtain ⟨kz, hkz, eb1, eb2⟩ := mod_two hrg1 hrg64 zs
      have hrnz : (rg : Int) ≠ 0 := by omega
      have eb3 : IntKind.i64.wrap (zs.tmod rg + rg) = zs.tmod rg + rg := by rw [IntKind.wrap_i64]; unfold wrap64 at eb1; exact eb1
      clear eb1
      clear h4 z0 z3 t3
      go_upto_region 13 with fail
      clear e4
      obtain ⟨Y, hY⟩ : ∃ Y, Y = wc.drew := ⟨_, rfl⟩
      have BY : Below X.heap.size X Y := by rw [hY]; exact HBT.out.drew
      have tY : Y.heap[tb]? = some (.cells #[.slice ia il ic, .slice oa ol oc, .int .i64 rh, .slice (some ⟨r, 0, none⟩) k cr] 25 (0, 0)) := by rw [hY]; exact HKT.out
      have oY : Y.ownsRow X.heap.size 48 4 (.slice (some ⟨r, 0, none⟩) k cr) k (stpsL (ss.take k)) := by rw [hY]; exact own_drew9 HOT.out
      have HY : Hid _ := hY
      clear hY
      refine wp_region_noPanic ?_
      refine wp_region_held_drew (S := fun u => Below X.heap.size X u) (by kernel_rfl) ?_ (fun hHeld => ?_)
      · exact HBT.out.drew
      rw [← HY.out] at hHeld ⊢
      clear HY
      refine wpAnyH_take (i := 0) (oi := { dst := some 71, op := Op.fieldAddr 25 (Operand.tmp 9) 3, type := 0, pos := "more.go:27", after := #[], guard := none }) (v := ?_) rfl (by kernel_rfl) (by kernel_rfl) (by kernel_rfl) (fun _ _ _ h => h) (Or.inl ⟨by rfl, ?_⟩) hHeld ?_
      rotate_left
      · intro u hSw
        go_simp
        try with_reducible rfl
      try simp only [Act.put, List.setIfInBounds_toArray, List.set_cons_zero, List.set_cons_succ]
      refine wpAnyH_take (i := 2) (oi := { dst := some 73, op := Op.move (Operand.tmp 10), type := 3, pos := "more.go:27", after := #[], guard := none }) (v := ?_) rfl (by kernel_rfl) (by kernel_rfl) (by kernel_rfl) (fun _ _ _ h => h) (Or.inl ⟨by rfl, ?_⟩) hHeld ?_
      rotate_left
      · intro u hSw
        go_simp
        try with_reducible rfl
      try simp only [Act.put, List.setIfInBounds_toArray, List.set_cons_zero, List.set_cons_succ]
      refine wpAnyH_take (i := 3) (oi := { dst := some 74, op := Op.fieldAddr 48 (Operand.tmp 5) 2, type := 0, pos := "more.go:27", after := #[], guard := none }) (v := ?_) rfl (by kernel_rfl) (by kernel_rfl) (by kernel_rfl) (fun _ _ _ h => h) (Or.inl ⟨by rfl, ?_⟩) hHeld ?_
      rotate_left
      · intro u hSw
        go_simp
        try with_reducible rfl
      try simp only [Act.put, List.setIfInBounds_toArray, List.set_cons_zero, List.set_cons_succ]
      refine wpAnyH_take (i := 4) (oi := { dst := some 75, op := Op.load 3 (Operand.tmp 74), type := 3, pos := "more.go:27", after := #[{ on := 3, ground := Ground.data }], guard := none }) (v := ?_) rfl (by kernel_rfl) (by kernel_rfl) (by kernel_rfl) (fun _ _ _ h => h) (Or.inl ⟨by rfl, ?_⟩) hHeld ?_
      rotate_left
      · intro u hSw
        have k9 := cellAt (heap_later HSX.out hSw) 2 _ rfl
        go_simp
        try with_reducible rfl
      try simp only [Act.put, List.setIfInBounds_toArray, List.set_cons_zero, List.set_cons_succ]
      refine wpAnyH_take (i := 5) (oi := { dst := some 76, op := Op.move (Operand.tmp 10), type := 3, pos := "more.go:27", after := #[], guard := none }) (v := ?_) rfl (by kernel_rfl) (by kernel_rfl) (by kernel_rfl) (fun _ _ _ h => h) (Or.inl ⟨by rfl, ?_⟩) hHeld ?_
      rotate_left
      · intro u hSw
        go_simp
        try with_reducible rfl
      try simp only [Act.put, List.setIfInBounds_toArray, List.set_cons_zero, List.set_cons_succ]
      refine wpAnyH_take (i := 6) (oi := { dst := some 77, op := Op.binOp BinOp.rem 3 (Operand.tmp 75) (Operand.tmp 76) 3, type := 3, pos := "more.go:27", after := #[{ on := 4, ground := Ground.data }, { on := 5, ground := Ground.data }], guard := none }) (v := ?_) rfl (by kernel_rfl) (by kernel_rfl) (by kernel_rfl) (fun _ _ _ h => h) (Or.inl ⟨by rfl, ?_⟩) hHeld ?_
      rotate_left
      · intro u hSw
        go_simp
        try with_reducible rfl
      try simp only [Act.put, List.setIfInBounds_toArray, List.set_cons_zero, List.set_cons_succ]
      refine wpAnyH_take (i := 7) (oi := { dst := some 78, op := Op.move (Operand.tmp 10), type := 3, pos := "more.go:27", after := #[], guard := none }) (v := ?_) rfl (by kernel_rfl) (by kernel_rfl) (by kernel_rfl) (fun _ _ _ h => h) (Or.inl ⟨by rfl, ?_⟩) hHeld ?_
      rotate_left
      · intro u hSw
        go_simp
        try with_reducible rfl
      try simp only [Act.put, List.setIfInBounds_toArray, List.set_cons_zero, List.set_cons_succ]
      refine wpAnyH_take (i := 8) (oi := { dst := some 79, op := Op.binOp BinOp.add 3 (Operand.tmp 77) (Operand.tmp 78) 3, type := 3, pos := "more.go:27", after := #[{ on := 6, ground := Ground.data }, { on := 7, ground := Ground.data }], guard := none }) (v := ?_) rfl (by kernel_rfl) (by kernel_rfl) (by kernel_rfl) (fun _ _ _ h => h) (Or.inl ⟨by rfl, ?_⟩) hHeld ?_
      rotate_left
      · intro u hSw
        go_simp
        try with_reducible rfl
      try simp only [Act.put, List.setIfInBounds_toArray, List.set_cons_zero, List.set_cons_succ]
      refine wpAnyH_take (i := 9) (oi := { dst := some 80, op := Op.move (Operand.tmp 10), type := 3, pos := "more.go:27", after := #[], guard := none }) (v := ?_) rfl (by kernel_rfl) (by kernel_rfl) (by kernel_rfl) (fun _ _ _ h => h) (Or.inl ⟨by rfl, ?_⟩) hHeld ?_
      rotate_left
      · intro u hSw
        go_simp
        try with_reducible rfl
      try simp only [Act.put, List.setIfInBounds_toArray, List.set_cons_zero, List.set_cons_succ]
      refine wpAnyH_take (i := 10) (oi := { dst := some 81, op := Op.binOp BinOp.rem 3 (Operand.tmp 79) (Operand.tmp 80) 3, type := 3, pos := "more.go:27", after := #[{ on := 8, ground := Ground.data }, { on := 9, ground := Ground.data }], guard := none }) (v := ?_) rfl (by kernel_rfl) (by kernel_rfl) (by kernel_rfl) (fun _ _ _ h => h) (Or.inl ⟨by rfl, ?_⟩) hHeld ?_
      rotate_left
      · intro u hSw
        go_simp
        try with_reducible rfl
      try simp only [Act.put, List.setIfInBounds_toArray, List.set_cons_zero, List.set_cons_succ]
      refine wpAnyH_take (i := 11) (oi := { dst := some 82, op := Op.fieldAddr 48 (Operand.tmp 5) 3, type := 0, pos := "more.go:27", after := #[], guard := none }) (v := ?_) rfl (by kernel_rfl) (by kernel_rfl) (by kernel_rfl) (fun _ _ _ h => h) (Or.inl ⟨by rfl, ?_⟩) hHeld ?_
      rotate_left
      · intro u hSw
        go_simp
        try with_reducible rfl
      try simp only [Act.put, List.setIfInBounds_toArray, List.set_cons_zero, List.set_cons_succ]
      refine wpAnyH_take (i := 12) (oi := { dst := some 83, op := Op.load 5 (Operand.tmp 82), type := 5, pos := "more.go:27", after := #[{ on := 11, ground := Ground.data }], guard := none }) (v := ?_) rfl (by kernel_rfl) (by kernel_rfl) (by kernel_rfl) (fun _ _ _ h => h) (Or.inl ⟨by rfl, ?_⟩) hHeld ?_
      rotate_left
      · intro u hSw
        have k9 := cellAt (heap_later HSX.out hSw) 3 _ rfl
        go_simp
        try with_reducible rfl
      try simp only [Act.put, List.setIfInBounds_toArray, List.set_cons_zero, List.set_cons_succ]
      refine wpAnyH_take (i := 13) (oi := { dst := some 84, op := Op.build 48 #[(0, Operand.const (Value.int IntKind.i64 4)), (1, Operand.tmp 73), (2, Operand.tmp 81), (3, Operand.tmp 83)], type := 48, pos := "more.go:27", after := #[{ on := 2, ground := Ground.data }, { on := 10, ground := Ground.data }, { on := 12, ground := Ground.data }], guard := none }) (v := ?_) rfl (by kernel_rfl) (by kernel_rfl) (by kernel_rfl) (fun _ _ _ h => h) (Or.inl ⟨by rfl, ?_⟩) hHeld ?_
      rotate_left
      · intro u hSw
        go_simp
        try with_reducible rfl
      try simp only [Act.put, List.setIfInBounds_toArray, List.set_cons_zero, List.set_cons_succ]
      refine wpAnyH_ready (rs := [1, 14]) (by kernel_rfl) (by simp) ?_
      refine (AllReadyH.cons (o := { dst := some 72, op := Op.load 23 (Operand.tmp 71), type := 23, pos := "more.go:27", after := #[{ on := 0, ground := Ground.data }], guard := none }) rfl (fun K hK => ?_) (AllReadyH.cons (o := { dst := some 85, op := Op.buildSlice 23 1 #[(0, Operand.tmp 84)], type := 23, pos := "more.go:27", after := #[{ on := 13, ground := Ground.data }], guard := none }) rfl (fun K hK => ?_) AllReadyH.nil))
      · have d9 := cellAt tY 3 _ rfl
        go_simp
        clear d9
        refine hK.out _ _ ?_ (fun hHeld => ?_)
        · exact BY
        clear hK K
        try simp only [Act.put, List.setIfInBounds_toArray, List.set_cons_zero, List.set_cons_succ]
        refine wpAnyH_ready (rs := [14]) (by kernel_rfl) (by simp) ?_
        refine (AllReadyH.cons (o := { dst := some 85, op := Op.buildSlice 23 1 #[(0, Operand.tmp 84)], type := 23, pos := "more.go:27", after := #[{ on := 13, ground := Ground.data }], guard := none }) rfl (fun K hK => ?_) AllReadyH.nil)
        obtain ⟨Y0, hY0⟩ : ∃ Z9 : World, Z9 = Y.alloc (.cells #[.int .i64 4, .int .i64 rg, .int .i64 kz, .int .u8 zc] 48) := ⟨_, rfl⟩
        have bY0 : Below Y.heap.size Y Y0 := by rw [hY0]; exact (Below.refl _ _).alloc (Nat.le_refl _) _
        have BY0 : Below X.heap.size X Y0 := BY.trans (bY0.mono BY.size)
        have fY0 := heap_alloc_last Y (.cells #[.int .i64 4, .int .i64 rg, .int .i64 kz, .int .u8 zc] 48)
        rw [← hY0] at fY0
        have tY0 := heap_later tY bY0
        have oY0 := own_below oY bY0
        have qY0 : StpW Y0 (some ⟨Y.heap.size, 0, none⟩) [⟨4, rg, kz, zf⟩] := stpW_cells (o := 0) fY0 fun q hq => by rw [Nat.zero_add, ← List.getElem?_toArray, HZC.out]; rfl
        have HY0 : Hid (Y0 = _) := hY0
        clear hY0
        go_simp
        rw [← HY0.out]
        refine hK.out _ _ ?_ (fun hHeld => ?_)
        · exact BY0
        clear hK K
        try simp only [Act.put, List.setIfInBounds_toArray, List.set_cons_zero, List.set_cons_succ]
        refine wpAnyH_ready (rs := [15]) (by kernel_rfl) (by simp) ?_
        refine (AllReadyH.cons (o := { dst := some 86, op := Op.call { callee := Callee.builtin Builtin.append, args := #[Operand.tmp 72, Operand.tmp 85], argTypes := #[23, 23] }, type := 23, pos := "more.go:27", after := #[{ on := 1, ground := Ground.data }, { on := 14, ground := Ground.data }], guard := none }) rfl (fun K hK => ?_) AllReadyH.nil)
        obtain ⟨rY1, pY1, Y1, aY1, oY1, wY1, vY1⟩ := moreT (ca := 1) 23 oY0 HKL.out (show 1 = ([⟨4, rg, kz, zf⟩] : List Stp).length from rfl) HK33.out qY0 BY0.size
        have BY1 : Below X.heap.size X Y1 := below_own BY0 oY0 wY1 BY0.size
        have tY1 := (wY1.block tb (ltHeap tY0) (fun e => HNE.out (Option.some.inj e))).trans tY0
        have nY1 : tb ≠ rY1 := by rcases vY1 with h | h <;> rw [h]; exact HNE.out; exact Nat.ne_of_lt (ltHeap tY0)
        refine wanted_append_run rfl _ _ 23 rfl _ _ _ _ rfl rfl aY1 ?_
        refine hK.out _ _ ?_ (fun hHeld => ?_)
        · exact BY1
        clear hK K
        try simp only [Act.put, List.setIfInBounds_toArray, List.set_cons_zero, List.set_cons_succ]
        refine wpAnyH_take (i := 16) (oi := { dst := some 87, op := Op.fieldAddr 25 (Operand.tmp 9) 3, type := 0, pos := "more.go:27", after := #[{ on := 0, ground := Ground.phase }, { on := 1, ground := Ground.phase }, { on := 2, ground := Ground.phase }, { on := 3, ground := Ground.phase }, { on := 4, ground := Ground.phase }, { on := 5, ground := Ground.phase }, { on := 6, ground := Ground.phase }, { on := 7, ground := Ground.phase }, { on := 8, ground := Ground.phase }, { on := 9, ground := Ground.phase }, { on := 10, ground := Ground.phase }, { on := 11, ground := Ground.phase }, { on := 12, ground := Ground.phase }, { on := 13, ground := Ground.phase }, { on := 14, ground := Ground.phase }, { on := 15, ground := Ground.phase }], guard := none }) (v := ?_) rfl (by kernel_rfl) (by kernel_rfl) (by kernel_rfl) (fun _ _ _ h => h) (Or.inl ⟨by rfl, ?_⟩) hHeld ?_
        rotate_left
        · intro u hSw
          go_simp
          try with_reducible rfl
        try simp only [Act.put, List.setIfInBounds_toArray, List.set_cons_zero, List.set_cons_succ]
        refine wpAnyH_ready (rs := [17]) (by kernel_rfl) (by simp) ?_
        refine (AllReadyH.cons (o := { dst := none, op := Op.store 23 (Operand.tmp 87) (Operand.tmp 86), type := 0, pos := "more.go:27", after := #[{ on := 16, ground := Ground.data }, { on := 15, ground := Ground.data }, { on := 15, ground := Ground.chain }, { on := 0, ground := Ground.phase }, { on := 1, ground := Ground.phase }, { on := 2, ground := Ground.phase }, { on := 3, ground := Ground.phase }, { on := 4, ground := Ground.phase }, { on := 5, ground := Ground.phase }, { on := 6, ground := Ground.phase }, { on := 7, ground := Ground.phase }, { on := 8, ground := Ground.phase }, { on := 9, ground := Ground.phase }, { on := 10, ground := Ground.phase }, { on := 11, ground := Ground.phase }, { on := 12, ground := Ground.phase }, { on := 13, ground := Ground.phase }, { on := 14, ground := Ground.phase }, { on := 15, ground := Ground.phase }], guard := none }) rfl (fun K hK => ?_) AllReadyH.nil)
        have d9 := cellAt tY1 3 _ rfl
        have e9 : Y1.frozen? ⟨tb, 3, none⟩ = false := frozen_of_row _ _ _ _ _ tY1
        go_simp
        refine hK.out _ _ ?_ (fun hHeld => ?_)
        · exact BY1.setCell (p := ⟨tb, 3, none⟩) HTB.out _
        clear hK K
        try simp only [Act.put, List.setIfInBounds_toArray, List.set_cons_zero, List.set_cons_succ]
        refine wpAnyH_done (by kernel_rfl) ?_ _
        refine NoPanic.normal ?_
        obtain ⟨Z, hZ⟩ : ∃ Z, Z = Y1.setCell ⟨tb, 3, none⟩ (.slice (some ⟨rY1, 0, none⟩) (k + 1) pY1) := ⟨_, rfl⟩
        have hfin := set1_end9 tY1 BY1 HTB.out oY1 nY1 hZ
        have HZH : Hid (Z = _) := hZ
        clear hZ
        rw [← HZH.out]
        clear HZH
        go_wp2
        all_goals (go_meet; exact ⟨⟨4, rg, kz, zf⟩, _, _, ⟨(by show (4 : Int) ≠ 5; decide), rfl⟩, .inr (.inr (.inr (.inl ⟨rfl, ⟨by show 0 ≤ (rg : Int); omega, by show (rg : Int) < _; omega⟩, ⟨by show 0 ≤ (kz : Int); omega, by show (kz : Int) < _; omega⟩⟩))), nY1, hfin.1, hfin.2.1, hfin.2.2⟩)
      · obtain ⟨Y0, hY0⟩ : ∃ Z9 : World, Z9 = Y.alloc (.cells #[.int .i64 4, .int .i64 rg, .int .i64 kz, .int .u8 zc] 48) := ⟨_, rfl⟩
        have bY0 : Below Y.heap.size Y Y0 := by rw [hY0]; exact (Below.refl _ _).alloc (Nat.le_refl _) _
        have BY0 : Below X.heap.size X Y0 := BY.trans (bY0.mono BY.size)
        have fY0 := heap_alloc_last Y (.cells #[.int .i64 4, .int .i64 rg, .int .i64 kz, .int .u8 zc] 48)
        rw [← hY0] at fY0
        have tY0 := heap_later tY bY0
        have oY0 := own_below oY bY0
        have qY0 : StpW Y0 (some ⟨Y.heap.size, 0, none⟩) [⟨4, rg, kz, zf⟩] := stpW_cells (o := 0) fY0 fun q hq => by rw [Nat.zero_add, ← List.getElem?_toArray, HZC.out]; rfl
        have HY0 : Hid (Y0 = _) := hY0
        clear hY0
        go_simp
        rw [← HY0.out]
        refine hK.out _ _ ?_ (fun hHeld => ?_)
        · exact BY0
        clear hK K
        try simp only [Act.put, List.setIfInBounds_toArray, List.set_cons_zero, List.set_cons_succ]
        refine wpAnyH_ready (rs := [1]) (by kernel_rfl) (by simp) ?_
        refine (AllReadyH.cons (o := { dst := some 72, op := Op.load 23 (Operand.tmp 71), type := 23, pos := "more.go:27", after := #[{ on := 0, ground := Ground.data }], guard := none }) rfl (fun K hK => ?_) AllReadyH.nil)
        have d9 := cellAt tY0 3 _ rfl
        go_simp
        clear d9
        refine hK.out _ _ ?_ (fun hHeld => ?_)
        · exact BY0
        clear hK K
        try simp only [Act.put, List.setIfInBounds_toArray, List.set_cons_zero, List.set_cons_succ]
        refine wpAnyH_ready (rs := [15]) (by kernel_rfl) (by simp) ?_
        refine (AllReadyH.cons (o := { dst := some 86, op := Op.call { callee := Callee.builtin Builtin.append, args := #[Operand.tmp 72, Operand.tmp 85], argTypes := #[23, 23] }, type := 23, pos := "more.go:27", after := #[{ on := 1, ground := Ground.data }, { on := 14, ground := Ground.data }], guard := none }) rfl (fun K hK => ?_) AllReadyH.nil)
        obtain ⟨rY1, pY1, Y1, aY1, oY1, wY1, vY1⟩ := moreT (ca := 1) 23 oY0 HKL.out (show 1 = ([⟨4, rg, kz, zf⟩] : List Stp).length from rfl) HK33.out qY0 BY0.size
        have BY1 : Below X.heap.size X Y1 := below_own BY0 oY0 wY1 BY0.size
        have tY1 := (wY1.block tb (ltHeap tY0) (fun e => HNE.out (Option.some.inj e))).trans tY0
        have nY1 : tb ≠ rY1 := by rcases vY1 with h | h <;> rw [h]; exact HNE.out; exact Nat.ne_of_lt (ltHeap tY0)
        refine wanted_append_run rfl _ _ 23 rfl _ _ _ _ rfl rfl aY1 ?_
        refine hK.out _ _ ?_ (fun hHeld => ?_)
        · exact BY1
        clear hK K
        try simp only [Act.put, List.setIfInBounds_toArray, List.set_cons_zero, List.set_cons_succ]
        refine wpAnyH_take (i := 16) (oi := { dst := some 87, op := Op.fieldAddr 25 (Operand.tmp 9) 3, type := 0, pos := "more.go:27", after := #[{ on := 0, ground := Ground.phase }, { on := 1, ground := Ground.phase }, { on := 2, ground := Ground.phase }, { on := 3, ground := Ground.phase }, { on := 4, ground := Ground.phase }, { on := 5, ground := Ground.phase }, { on := 6, ground := Ground.phase }, { on := 7, ground := Ground.phase }, { on := 8, ground := Ground.phase }, { on := 9, ground := Ground.phase }, { on := 10, ground := Ground.phase }, { on := 11, ground := Ground.phase }, { on := 12, ground := Ground.phase }, { on := 13, ground := Ground.phase }, { on := 14, ground := Ground.phase }, { on := 15, ground := Ground.phase }], guard := none }) (v := ?_) rfl (by kernel_rfl) (by kernel_rfl) (by kernel_rfl) (fun _ _ _ h => h) (Or.inl ⟨by rfl, ?_⟩) hHeld ?_
        rotate_left
        · intro u hSw
          go_simp
          try with_reducible rfl
        try simp only [Act.put, List.setIfInBounds_toArray, List.set_cons_zero, List.set_cons_succ]
        refine wpAnyH_ready (rs := [17]) (by kernel_rfl) (by simp) ?_
        refine (AllReadyH.cons (o := { dst := none, op := Op.store 23 (Operand.tmp 87) (Operand.tmp 86), type := 0, pos := "more.go:27", after := #[{ on := 16, ground := Ground.data }, { on := 15, ground := Ground.data }, { on := 15, ground := Ground.chain }, { on := 0, ground := Ground.phase }, { on := 1, ground := Ground.phase }, { on := 2, ground := Ground.phase }, { on := 3, ground := Ground.phase }, { on := 4, ground := Ground.phase }, { on := 5, ground := Ground.phase }, { on := 6, ground := Ground.phase }, { on := 7, ground := Ground.phase }, { on := 8, ground := Ground.phase }, { on := 9, ground := Ground.phase }, { on := 10, ground := Ground.phase }, { on := 11, ground := Ground.phase }, { on := 12, ground := Ground.phase }, { on := 13, ground := Ground.phase }, { on := 14, ground := Ground.phase }, { on := 15, ground := Ground.phase }], guard := none }) rfl (fun K hK => ?_) AllReadyH.nil)
        have d9 := cellAt tY1 3 _ rfl
        have e9 : Y1.frozen? ⟨tb, 3, none⟩ = false := frozen_of_row _ _ _ _ _ tY1
        go_simp
        refine hK.out _ _ ?_ (fun hHeld => ?_)
        · exact BY1.setCell (p := ⟨tb, 3, none⟩) HTB.out _
        clear hK K
        try simp only [Act.put, List.setIfInBounds_toArray, List.set_cons_zero, List.set_cons_succ]
        refine wpAnyH_done (by kernel_rfl) ?_ _
        refine NoPanic.normal ?_
        obtain ⟨Z, hZ⟩ : ∃ Z, Z = Y1.setCell ⟨tb, 3, none⟩ (.slice (some ⟨rY1, 0, none⟩) (k + 1) pY1) := ⟨_, rfl⟩
        have hfin := set1_end9 tY1 BY1 HTB.out oY1 nY1 hZ
        have HZH : Hid (Z = _) := hZ
        clear hZ
        rw [← HZH.out]
        clear HZH
        go_wp2
        all_goals (go_meet; exact ⟨⟨4, rg, kz, zf⟩, _, _, ⟨(by show (4 : Int) ≠ 5; decide), rfl⟩, .inr (.inr (.inr (.inl ⟨rfl, ⟨by show 0 ≤ (rg : Int); omega, by show (rg : Int) < _; omega⟩, ⟨by show 0 ≤ (kz : Int); omega, by show (kz : Int) < _; omega⟩⟩))), nY1, hfin.1, hfin.2.1, hfin.2.2⟩)
    · have e4 : (zo == 4) = false := beq_eq_false_iff_ne.2 h4
      have hx5 := heap_alloc_last wc (.cells #[.int .i64 3, .int .i64 rg, .int .i64 0, .int .u8 zc] 48)
      have hst5 : StpW (wc.alloc (.cells #[.int .i64 3, .int .i64 rg, .int .i64 0, .int .u8 zc] 48)) (some ⟨wc.heap.size, 0, none⟩) [⟨3, rg, 0, zf⟩] := stpW_cells (o := 0) hx5 fun q hq => by rw [Nat.zero_add, ← List.getElem?_toArray, HZC.out]; rfl
      have hbel5 := (Below.refl wc.heap.size wc).alloc (Nat.le_refl _) (.cells #[.int .i64 3, .int .i64 rg, .int .i64 0, .int .u8 zc] 48)
      have ho5 := own_below HOT.out hbel5
      obtain ⟨g6, cp6, w6, hrun, ho6, hg6, hor6⟩ := moreT (ca := 1) 23 ho5 HKL.out (show 1 = ([⟨3, rg, 0, zf⟩] : List Stp).length from rfl) HK33.out hst5 (by have := HBT.out.size; simp; omega)
      have hb6 : Below X.heap.size X w6 := below_own (HBT.out.alloc HBT.out.size _) ho5 hg6 (by have := HBT.out.size; simp; omega)
      have hk6 := (hg6.block tb (ltHeap (heap_later HKT.out hbel5)) (fun e => HNE.out (Option.some.inj e))).trans (heap_later HKT.out hbel5)
      have hn6 : tb ≠ g6 := by rcases hor6 with h | h <;> rw [h]; exact HNE.out; exact Nat.ne_of_lt (ltHeap (heap_later HKT.out hbel5))
      have f1 : w6.frozen? ⟨tb, 3, none⟩ = false := frozen_of_row _ _ _ _ _ hk6
      have c6 := cellAt hk6 3 _ rfl
      have HRun : Hid _ := hrun
      have HK6 : Hid _ := hk6
      have HB6 : Hid _ := hb6
      have HO6 : Hid _ := ho6
      have HN6 : Hid _ := hn6
      clear h4 hx5 hst5 hbel5 ho5 hrun ho6 hg6 hor6 hb6 hk6 hn6
      go_wp2_with (at_builtin; refine wpList_append_run rfl _ _ 23 rfl _ _ _ _ rfl rfl HRun.out ?_)
      have hfin := set1_end9 (v := .slice (some ⟨g6, 0, none⟩) (k + 1) cp6) HK6.out HB6.out HTB.out HO6.out HN6.out rfl
      go_meet
      exact ⟨⟨3, rg, 0, zf⟩, _, _, ⟨(by show (3 : Int) ≠ 5; decide), rfl⟩, .inr (.inr (.inl ⟨rfl, ⟨by show 0 ≤ (rg : Int); omega, by show (rg : Int) < _; omega⟩, rfl⟩)), HN6.out, hfin.1, hfin.2.1, hfin.2.2⟩
  case rest =>
  clear HKT HBT HOT HNE HBW z0 z3 t3
  obtain ⟨st, r2, cr2, hst, hok, hne, hkt, hbt, hot⟩ := hcut
  have HST : Hid (st.op ≠ 5 ∧ st.dst = (rg : Int)) := hst
  have HOK1 : Hid _ := hok
  have HNE : Hid (tb ≠ r2) := hne
  have HKT : Hid _ := hkt
  have HBT : Hid (Below X.heap.size X wc) := hbt
  have HOT : Hid _ := hot
  clear hst hok hne hkt hbt hot
  go_upto_region 15 with fail
  obtain ⟨n2, hn2⟩ : ∃ n2, n2 = k + 1 + 1 + (sl - k) := ⟨_, rfl⟩
  have HN2 : Hid (k + 1 + 1 + (sl - k) = n2) := hn2.symm
  clear hn2
  have hkl : (k : Int) ≤ (sl : Int) := by have := HNN.out; omega
  have HK1 : Hid (k + 1 = (ss.take k ++ [st]).length) := by show _ = _; rw [List.length_append, ← HKL.out]; rfl
  have HK2 : Hid (k + 1 + 1 = ((ss.take k ++ [st]) ++ ([⟨2, rg, 0, 0⟩] : List Stp)).length) := by show _ = _; rw [List.length_append, ← HK1.out]; rfl
  have HDL : Hid (sl - k = (ss.drop k).length) := by show _ = _; rw [List.length_drop, HSL.out]
  have HK35 : Hid ((k + 1 + 1 + (sl - k)) * 32 ≤ 140737488355328) := small32 (by have h1 := HK9.out; have h2 := HS4.out; clear hk32; omega)
  have HSC : Hid _ := stpW_cut HO3.out (show k ≤ ss.length by rw [← HSL.out]; omega) (show ss.length ≤ c3 by rw [← HSL.out]; exact hcq)
  go_cut [] (fun wx => ∃ r c, tb ≠ r ∧ wx.heap[tb]? = some (.cells #[.slice ia il ic, .slice oa ol oc, .int .i64 rh, .slice (some ⟨r, 0, none⟩) n2 c] 25 (0, 0)) ∧ Below X.heap.size X wx ∧ wx.ownsRow X.heap.size 48 4 (.slice (some ⟨r, 0, none⟩) n2 c) n2 (stpsL (idleL ss k st ⟨2, rg, 0, 0⟩)))
  case first =>
    obtain ⟨Y, hY⟩ : ∃ Y, Y = wc.drew := ⟨_, rfl⟩
    have BY : Below X.heap.size X Y := by rw [hY]; exact HBT.out.drew
    have tY : Y.heap[tb]? = some (.cells #[.slice ia il ic, .slice oa ol oc, .int .i64 rh, .slice (some ⟨r2, 0, none⟩) (k + 1) cr2] 25 (0, 0)) := by rw [hY]; exact HKT.out
    have oY : Y.ownsRow X.heap.size 48 4 (.slice (some ⟨r2, 0, none⟩) (k + 1) cr2) (k + 1) (stpsL (ss.take k ++ [st])) := by rw [hY]; exact own_drew9 HOT.out
    have HY : Hid _ := hY
    clear hY
    refine wp_region_noPanic ?_
    refine wp_region_held_drew (S := fun u => Below X.heap.size X u) (by kernel_rfl) ?_ (fun hHeld => ?_)
    · exact HBT.out.drew
    rw [← HY.out] at hHeld ⊢
    clear HY
    refine wpAnyH_take (i := 0) (oi := { dst := some 97, op := Op.fieldAddr 25 (Operand.tmp 9) 3, type := 0, pos := "more.go:31", after := #[], guard := none }) (v := ?_) rfl (by kernel_rfl) (by kernel_rfl) (by kernel_rfl) (fun _ _ _ h => h) (Or.inl ⟨by rfl, ?_⟩) hHeld ?_
    rotate_left
    · intro u hSw
      go_simp
      try with_reducible rfl
    try simp only [Act.put, List.setIfInBounds_toArray, List.set_cons_zero, List.set_cons_succ]
    refine wpAnyH_take (i := 2) (oi := { dst := some 99, op := Op.move (Operand.tmp 10), type := 3, pos := "more.go:31", after := #[], guard := none }) (v := ?_) rfl (by kernel_rfl) (by kernel_rfl) (by kernel_rfl) (fun _ _ _ h => h) (Or.inl ⟨by rfl, ?_⟩) hHeld ?_
    rotate_left
    · intro u hSw
      go_simp
      try with_reducible rfl
    try simp only [Act.put, List.setIfInBounds_toArray, List.set_cons_zero, List.set_cons_succ]
    refine wpAnyH_take (i := 3) (oi := { dst := some 100, op := Op.build 48 #[(0, Operand.const (Value.int IntKind.i64 2)), (1, Operand.tmp 99)], type := 48, pos := "more.go:31", after := #[{ on := 2, ground := Ground.data }], guard := none }) (v := ?_) rfl (by kernel_rfl) (by kernel_rfl) (by kernel_rfl) (fun _ _ _ h => h) (Or.inl ⟨by rfl, ?_⟩) hHeld ?_
    rotate_left
    · intro u hSw
      go_simp
      try with_reducible rfl
    try simp only [Act.put, List.setIfInBounds_toArray, List.set_cons_zero, List.set_cons_succ]
    refine wpAnyH_take (i := 6) (oi := { dst := some 103, op := Op.fieldAddr 25 (Operand.tmp 8) 3, type := 0, pos := "more.go:31", after := #[], guard := none }) (v := ?_) rfl (by kernel_rfl) (by kernel_rfl) (by kernel_rfl) (fun _ _ _ h => h) (Or.inl ⟨by rfl, ?_⟩) hHeld ?_
    rotate_left
    · intro u hSw
      go_simp
      try with_reducible rfl
    try simp only [Act.put, List.setIfInBounds_toArray, List.set_cons_zero, List.set_cons_succ]
    refine wpAnyH_take (i := 7) (oi := { dst := some 104, op := Op.load 23 (Operand.tmp 103), type := 23, pos := "more.go:31", after := #[{ on := 6, ground := Ground.data }], guard := none }) (v := ?_) rfl (by kernel_rfl) (by kernel_rfl) (by kernel_rfl) (fun _ _ _ h => h) (Or.inl ⟨by rfl, ?_⟩) hHeld ?_
    rotate_left
    · intro u hSw
      have k9 := cellAt (heap_later HQX.out hSw) 3 _ rfl
      go_simp
      try with_reducible rfl
    try simp only [Act.put, List.setIfInBounds_toArray, List.set_cons_zero, List.set_cons_succ]
    refine wpAnyH_take (i := 8) (oi := { dst := some 105, op := Op.move (Operand.tmp 1), type := 3, pos := "more.go:31", after := #[], guard := none }) (v := ?_) rfl (by kernel_rfl) (by kernel_rfl) (by kernel_rfl) (fun _ _ _ h => h) (Or.inl ⟨by rfl, ?_⟩) hHeld ?_
    rotate_left
    · intro u hSw
      go_simp
      try with_reducible rfl
    try simp only [Act.put, List.setIfInBounds_toArray, List.set_cons_zero, List.set_cons_succ]
    refine wpAnyH_take (i := 9) (oi := { dst := some 106, op := Op.slice 23 (Operand.tmp 104) (some (Operand.tmp 105)) none none, type := 23, pos := "more.go:31", after := #[{ on := 7, ground := Ground.data }, { on := 8, ground := Ground.data }], guard := none }) (v := ?_) rfl (by kernel_rfl) (by kernel_rfl) (by kernel_rfl) (fun _ _ _ h => h) (Or.inl ⟨by rfl, ?_⟩) hHeld ?_
    rotate_left
    · intro u hSw
      go_simp
      try with_reducible rfl
    try simp only [Act.put, List.setIfInBounds_toArray, List.set_cons_zero, List.set_cons_succ]
    refine wpAnyH_ready (rs := [1, 4]) (by kernel_rfl) (by simp) ?_
    refine (AllReadyH.cons (o := { dst := some 98, op := Op.load 23 (Operand.tmp 97), type := 23, pos := "more.go:31", after := #[{ on := 0, ground := Ground.data }], guard := none }) rfl (fun K hK => ?_) (AllReadyH.cons (o := { dst := some 101, op := Op.buildSlice 23 1 #[(0, Operand.tmp 100)], type := 23, pos := "more.go:31", after := #[{ on := 3, ground := Ground.data }], guard := none }) rfl (fun K hK => ?_) AllReadyH.nil))
    · have d9 := cellAt tY 3 _ rfl
      go_simp
      clear d9
      refine hK.out _ _ ?_ (fun hHeld => ?_)
      · exact BY
      clear hK K
      try simp only [Act.put, List.setIfInBounds_toArray, List.set_cons_zero, List.set_cons_succ]
      refine wpAnyH_ready (rs := [4]) (by kernel_rfl) (by simp) ?_
      refine (AllReadyH.cons (o := { dst := some 101, op := Op.buildSlice 23 1 #[(0, Operand.tmp 100)], type := 23, pos := "more.go:31", after := #[{ on := 3, ground := Ground.data }], guard := none }) rfl (fun K hK => ?_) AllReadyH.nil)
      obtain ⟨Y0, hY0⟩ : ∃ Z9 : World, Z9 = Y.alloc (.cells #[.int .i64 2, .int .i64 rg, .int .i64 0, .int .u8 0] 48) := ⟨_, rfl⟩
      have bY0 : Below Y.heap.size Y Y0 := by rw [hY0]; exact (Below.refl _ _).alloc (Nat.le_refl _) _
      have BY0 : Below X.heap.size X Y0 := BY.trans (bY0.mono BY.size)
      have fY0 := heap_alloc_last Y (.cells #[.int .i64 2, .int .i64 rg, .int .i64 0, .int .u8 0] 48)
      rw [← hY0] at fY0
      have tY0 := heap_later tY bY0
      have oY0 := own_below oY bY0
      have qY0 : StpW Y0 (some ⟨Y.heap.size, 0, none⟩) [⟨2, rg, 0, 0⟩] := stpW_cells (o := 0) fY0 fun q hq => by rw [Nat.zero_add, ← List.getElem?_toArray]; rfl
      have HY0 : Hid (Y0 = _) := hY0
      clear hY0
      go_simp
      rw [← HY0.out]
      refine hK.out _ _ ?_ (fun hHeld => ?_)
      · exact BY0
      clear hK K
      try simp only [Act.put, List.setIfInBounds_toArray, List.set_cons_zero, List.set_cons_succ]
      refine wpAnyH_ready (rs := [5]) (by kernel_rfl) (by simp) ?_
      refine (AllReadyH.cons (o := { dst := some 102, op := Op.call { callee := Callee.builtin Builtin.append, args := #[Operand.tmp 98, Operand.tmp 101], argTypes := #[23, 23] }, type := 23, pos := "more.go:31", after := #[{ on := 1, ground := Ground.data }, { on := 4, ground := Ground.data }], guard := none }) rfl (fun K hK => ?_) AllReadyH.nil)
      obtain ⟨rY1, pY1, Y1, aY1, oY1, wY1, vY1⟩ := moreT (ca := 1) 23 oY0 HK1.out (show 1 = ([⟨2, rg, 0, 0⟩] : List Stp).length from rfl) HK34.out qY0 BY0.size
      have BY1 : Below X.heap.size X Y1 := below_own BY0 oY0 wY1 BY0.size
      have tY1 := (wY1.block tb (ltHeap tY0) (fun e => HNE.out (Option.some.inj e))).trans tY0
      have nY1 : tb ≠ rY1 := by rcases vY1 with h | h <;> rw [h]; exact HNE.out; exact Nat.ne_of_lt (ltHeap tY0)
      refine wanted_append_run rfl _ _ 23 rfl _ _ _ _ rfl rfl aY1 ?_
      refine hK.out _ _ ?_ (fun hHeld => ?_)
      · exact BY1
      clear hK K
      try simp only [Act.put, List.setIfInBounds_toArray, List.set_cons_zero, List.set_cons_succ]
      refine wpAnyH_ready (rs := [10]) (by kernel_rfl) (by simp) ?_
      refine (AllReadyH.cons (o := { dst := some 107, op := Op.call { callee := Callee.builtin Builtin.append, args := #[Operand.tmp 102, Operand.tmp 106], argTypes := #[23, 23] }, type := 23, pos := "more.go:31", after := #[{ on := 5, ground := Ground.data }, { on := 9, ground := Ground.data }, { on := 5, ground := Ground.chain }], guard := none }) rfl (fun K hK => ?_) AllReadyH.nil)
      obtain ⟨rY2, pY2, Y2, aY2, oY2, wY2, vY2⟩ := moreT (ca := c3 - k) 23 oY1 HK2.out HDL.out HK35.out (stpW_below HSC.out BY1) BY1.size
      have BY2 : Below X.heap.size X Y2 := below_own BY1 oY1 wY2 BY1.size
      have tY2 := (wY2.block tb (ltHeap tY1) (fun e => nY1 (Option.some.inj e))).trans tY1
      have nY2 : tb ≠ rY2 := by rcases vY2 with h | h <;> rw [h]; exact nY1; exact Nat.ne_of_lt (ltHeap tY1)
      refine wanted_append_run rfl _ _ 23 rfl _ _ _ _ rfl rfl aY2 ?_
      refine hK.out _ _ ?_ (fun hHeld => ?_)
      · exact BY2
      clear hK K
      try simp only [Act.put, List.setIfInBounds_toArray, List.set_cons_zero, List.set_cons_succ]
      refine wpAnyH_take (i := 11) (oi := { dst := some 108, op := Op.fieldAddr 25 (Operand.tmp 9) 3, type := 0, pos := "more.go:31", after := #[{ on := 0, ground := Ground.phase }, { on := 1, ground := Ground.phase }, { on := 2, ground := Ground.phase }, { on := 3, ground := Ground.phase }, { on := 4, ground := Ground.phase }, { on := 5, ground := Ground.phase }, { on := 6, ground := Ground.phase }, { on := 7, ground := Ground.phase }, { on := 8, ground := Ground.phase }, { on := 9, ground := Ground.phase }, { on := 10, ground := Ground.phase }], guard := none }) (v := ?_) rfl (by kernel_rfl) (by kernel_rfl) (by kernel_rfl) (fun _ _ _ h => h) (Or.inl ⟨by rfl, ?_⟩) hHeld ?_
      rotate_left
      · intro u hSw
        go_simp
        try with_reducible rfl
      try simp only [Act.put, List.setIfInBounds_toArray, List.set_cons_zero, List.set_cons_succ]
      refine wpAnyH_ready (rs := [12]) (by kernel_rfl) (by simp) ?_
      refine (AllReadyH.cons (o := { dst := none, op := Op.store 23 (Operand.tmp 108) (Operand.tmp 107), type := 0, pos := "more.go:31", after := #[{ on := 11, ground := Ground.data }, { on := 10, ground := Ground.data }, { on := 10, ground := Ground.chain }, { on := 0, ground := Ground.phase }, { on := 1, ground := Ground.phase }, { on := 2, ground := Ground.phase }, { on := 3, ground := Ground.phase }, { on := 4, ground := Ground.phase }, { on := 5, ground := Ground.phase }, { on := 6, ground := Ground.phase }, { on := 7, ground := Ground.phase }, { on := 8, ground := Ground.phase }, { on := 9, ground := Ground.phase }, { on := 10, ground := Ground.phase }], guard := none }) rfl (fun K hK => ?_) AllReadyH.nil)
      have d9 := cellAt tY2 3 _ rfl
      have e9 : Y2.frozen? ⟨tb, 3, none⟩ = false := frozen_of_row _ _ _ _ _ tY2
      go_simp
      refine hK.out _ _ ?_ (fun hHeld => ?_)
      · exact BY2.setCell (p := ⟨tb, 3, none⟩) HTB.out _
      clear hK K
      try simp only [Act.put, List.setIfInBounds_toArray, List.set_cons_zero, List.set_cons_succ]
      refine wpAnyH_done (by kernel_rfl) ?_ _
      refine NoPanic.normal ?_
      obtain ⟨Z, hZ⟩ : ∃ Z, Z = Y2.setCell ⟨tb, 3, none⟩ (.slice (some ⟨rY2, 0, none⟩) (k + 1 + 1 + (sl - k)) pY2) := ⟨_, rfl⟩
      have hfin := set1_end9 tY2 BY2 HTB.out oY2 nY2 hZ
      rw [HN2.out, idle_join] at hfin
      have HZH : Hid (Z = _) := hZ
      clear hZ
      rw [← HZH.out]
      clear HZH
      go_wp2
      all_goals (go_meet; exact ⟨_, _, nY2, hfin.1, hfin.2.1, hfin.2.2⟩)
    · obtain ⟨Y0, hY0⟩ : ∃ Z9 : World, Z9 = Y.alloc (.cells #[.int .i64 2, .int .i64 rg, .int .i64 0, .int .u8 0] 48) := ⟨_, rfl⟩
      have bY0 : Below Y.heap.size Y Y0 := by rw [hY0]; exact (Below.refl _ _).alloc (Nat.le_refl _) _
      have BY0 : Below X.heap.size X Y0 := BY.trans (bY0.mono BY.size)
      have fY0 := heap_alloc_last Y (.cells #[.int .i64 2, .int .i64 rg, .int .i64 0, .int .u8 0] 48)
      rw [← hY0] at fY0
      have tY0 := heap_later tY bY0
      have oY0 := own_below oY bY0
      have qY0 : StpW Y0 (some ⟨Y.heap.size, 0, none⟩) [⟨2, rg, 0, 0⟩] := stpW_cells (o := 0) fY0 fun q hq => by rw [Nat.zero_add, ← List.getElem?_toArray]; rfl
      have HY0 : Hid (Y0 = _) := hY0
      clear hY0
      go_simp
      rw [← HY0.out]
      refine hK.out _ _ ?_ (fun hHeld => ?_)
      · exact BY0
      clear hK K
      try simp only [Act.put, List.setIfInBounds_toArray, List.set_cons_zero, List.set_cons_succ]
      refine wpAnyH_ready (rs := [1]) (by kernel_rfl) (by simp) ?_
      refine (AllReadyH.cons (o := { dst := some 98, op := Op.load 23 (Operand.tmp 97), type := 23, pos := "more.go:31", after := #[{ on := 0, ground := Ground.data }], guard := none }) rfl (fun K hK => ?_) AllReadyH.nil)
      have d9 := cellAt tY0 3 _ rfl
      go_simp
      clear d9
      refine hK.out _ _ ?_ (fun hHeld => ?_)
      · exact BY0
      clear hK K
      try simp only [Act.put, List.setIfInBounds_toArray, List.set_cons_zero, List.set_cons_succ]
      refine wpAnyH_ready (rs := [5]) (by kernel_rfl) (by simp) ?_
      refine (AllReadyH.cons (o := { dst := some 102, op := Op.call { callee := Callee.builtin Builtin.append, args := #[Operand.tmp 98, Operand.tmp 101], argTypes := #[23, 23] }, type := 23, pos := "more.go:31", after := #[{ on := 1, ground := Ground.data }, { on := 4, ground := Ground.data }], guard := none }) rfl (fun K hK => ?_) AllReadyH.nil)
      obtain ⟨rY1, pY1, Y1, aY1, oY1, wY1, vY1⟩ := moreT (ca := 1) 23 oY0 HK1.out (show 1 = ([⟨2, rg, 0, 0⟩] : List Stp).length from rfl) HK34.out qY0 BY0.size
      have BY1 : Below X.heap.size X Y1 := below_own BY0 oY0 wY1 BY0.size
      have tY1 := (wY1.block tb (ltHeap tY0) (fun e => HNE.out (Option.some.inj e))).trans tY0
      have nY1 : tb ≠ rY1 := by rcases vY1 with h | h <;> rw [h]; exact HNE.out; exact Nat.ne_of_lt (ltHeap tY0)
      refine wanted_append_run rfl _ _ 23 rfl _ _ _ _ rfl rfl aY1 ?_
      refine hK.out _ _ ?_ (fun hHeld => ?_)
      · exact BY1
      clear hK K
      try simp only [Act.put, List.setIfInBounds_toArray, List.set_cons_zero, List.set_cons_succ]
      refine wpAnyH_ready (rs := [10]) (by kernel_rfl) (by simp) ?_
      refine (AllReadyH.cons (o := { dst := some 107, op := Op.call { callee := Callee.builtin Builtin.append, args := #[Operand.tmp 102, Operand.tmp 106], argTypes := #[23, 23] }, type := 23, pos := "more.go:31", after := #[{ on := 5, ground := Ground.data }, { on := 9, ground := Ground.data }, { on := 5, ground := Ground.chain }], guard := none }) rfl (fun K hK => ?_) AllReadyH.nil)
      obtain ⟨rY2, pY2, Y2, aY2, oY2, wY2, vY2⟩ := moreT (ca := c3 - k) 23 oY1 HK2.out HDL.out HK35.out (stpW_below HSC.out BY1) BY1.size
      have BY2 : Below X.heap.size X Y2 := below_own BY1 oY1 wY2 BY1.size
      have tY2 := (wY2.block tb (ltHeap tY1) (fun e => nY1 (Option.some.inj e))).trans tY1
      have nY2 : tb ≠ rY2 := by rcases vY2 with h | h <;> rw [h]; exact nY1; exact Nat.ne_of_lt (ltHeap tY1)
      refine wanted_append_run rfl _ _ 23 rfl _ _ _ _ rfl rfl aY2 ?_
      refine hK.out _ _ ?_ (fun hHeld => ?_)
      · exact BY2
      clear hK K
      try simp only [Act.put, List.setIfInBounds_toArray, List.set_cons_zero, List.set_cons_succ]
      refine wpAnyH_take (i := 11) (oi := { dst := some 108, op := Op.fieldAddr 25 (Operand.tmp 9) 3, type := 0, pos := "more.go:31", after := #[{ on := 0, ground := Ground.phase }, { on := 1, ground := Ground.phase }, { on := 2, ground := Ground.phase }, { on := 3, ground := Ground.phase }, { on := 4, ground := Ground.phase }, { on := 5, ground := Ground.phase }, { on := 6, ground := Ground.phase }, { on := 7, ground := Ground.phase }, { on := 8, ground := Ground.phase }, { on := 9, ground := Ground.phase }, { on := 10, ground := Ground.phase }], guard := none }) (v := ?_) rfl (by kernel_rfl) (by kernel_rfl) (by kernel_rfl) (fun _ _ _ h => h) (Or.inl ⟨by rfl, ?_⟩) hHeld ?_
      rotate_left
      · intro u hSw
        go_simp
        try with_reducible rfl
      try simp only [Act.put, List.setIfInBounds_toArray, List.set_cons_zero, List.set_cons_succ]
      refine wpAnyH_ready (rs := [12]) (by kernel_rfl) (by simp) ?_
      refine (AllReadyH.cons (o := { dst := none, op := Op.store 23 (Operand.tmp 108) (Operand.tmp 107), type := 0, pos := "more.go:31", after := #[{ on := 11, ground := Ground.data }, { on := 10, ground := Ground.data }, { on := 10, ground := Ground.chain }, { on := 0, ground := Ground.phase }, { on := 1, ground := Ground.phase }, { on := 2, ground := Ground.phase }, { on := 3, ground := Ground.phase }, { on := 4, ground := Ground.phase }, { on := 5, ground := Ground.phase }, { on := 6, ground := Ground.phase }, { on := 7, ground := Ground.phase }, { on := 8, ground := Ground.phase }, { on := 9, ground := Ground.phase }, { on := 10, ground := Ground.phase }], guard := none }) rfl (fun K hK => ?_) AllReadyH.nil)
      have d9 := cellAt tY2 3 _ rfl
      have e9 : Y2.frozen? ⟨tb, 3, none⟩ = false := frozen_of_row _ _ _ _ _ tY2
      go_simp
      refine hK.out _ _ ?_ (fun hHeld => ?_)
      · exact BY2.setCell (p := ⟨tb, 3, none⟩) HTB.out _
      clear hK K
      try simp only [Act.put, List.setIfInBounds_toArray, List.set_cons_zero, List.set_cons_succ]
      refine wpAnyH_done (by kernel_rfl) ?_ _
      refine NoPanic.normal ?_
      obtain ⟨Z, hZ⟩ : ∃ Z, Z = Y2.setCell ⟨tb, 3, none⟩ (.slice (some ⟨rY2, 0, none⟩) (k + 1 + 1 + (sl - k)) pY2) := ⟨_, rfl⟩
      have hfin := set1_end9 tY2 BY2 HTB.out oY2 nY2 hZ
      rw [HN2.out, idle_join] at hfin
      have HZH : Hid (Z = _) := hZ
      clear hZ
      rw [← HZH.out]
      clear HZH
      go_wp2
      all_goals (go_meet; exact ⟨_, _, nY2, hfin.1, hfin.2.1, hfin.2.2⟩)
  case rest =>
  clear HKT HBT HOT HNE hkl
  obtain ⟨r3, cr3, hne, hkt, hbt, hot⟩ := hcut
  have HSK : Hid (k ≤ ss.length) := by show _ ≤ _; rw [← HSL.out]; exact HK9.out
  have HLN : Hid (n2 = (idleL ss k st ⟨2, rg, 0, 0⟩).length) := by show _ = _; rw [idle_len HSK.out, ← HN2.out, ← HSL.out]; have := HK9.out; omega
  have HBW : Hid (Below w.heap.size w wc) := HBX.out.trans (hbt.mono HBX.out.size)
  have HKW : Hid _ := heap_later HKX.out hbt
  have HTW : Hid (wc.heap[tb]? = some (.cells #[.slice ia il ic, .slice oa ol oc, .int .i64 rh, .slice (some ⟨r3, 0, none⟩) n2 cr3] 25 (0, 0))) := hkt
  have hrow := ownT_row HLN.out hot
  have HPT : Hid (PrgW wc ia oa (some ⟨r3, 0, none⟩) il ic ol oc n2 cr3 ins outs (idleL ss k st ⟨2, rg, 0, 0⟩)) := by
    have h := HP.out.below HBW.out
    exact ⟨h.eil, h.eol, HLN.out, h.i9, h.o9, by have h1 := HN2.out; have h2 := HK9.out; have h3 := HS4.out; clear hk32; omega, h.cil, h.col, hrow.2.1, h.inil, h.onil, fun e => (by cases e), h.I, h.O, hrow.1⟩
  have HFT : Hid (InF ins outs rh (idleL ss k st ⟨2, rg, 0, 0⟩)) := by
    show InF _ _ _ _
    rw [HRH.out]
    exact idle_in HF.out HR64.out (by rw [← HSL.out]; exact HS4.out) HSK.out HOK1.out (.inr (.inl ⟨rfl, ⟨by show 0 ≤ (rg : Int); omega, by show (rg : Int) < _; omega⟩, rfl, rfl⟩)) HST.out.1 (by show (2 : Int) ≠ 5; decide)
  have HIM : Hid (meanL il ol (idleL ss k st ⟨2, rg, 0, 0⟩) = meanL il ol ss) := idle_mean il ol HF.out HST.out ⟨by show (2 : Int) ≠ 5; decide, rfl⟩
  have HIT : Hid (trimS (idleL ss k st ⟨2, rg, 0, 0⟩) = trimS ss) := idle_trims HF.out HST.out ⟨by show (2 : Int) ≠ 5; decide, rfl⟩
  have k0 := cellAt HKW.out 0 _ rfl
  have k1 := cellAt HKW.out 1 _ rfl
  have k2 := cellAt HKW.out 2 _ rfl
  have k3 := cellAt HKW.out 3 _ rfl
  clear hne hkt hbt hot hrow HRH HN2 HLN HST HOK1 HSK HSC HK1 HK2 HDL HKL HNN hk32 HO3 HQX HSX HKX HK9
  go_wp2_with fail
  refine Calls.mono (meaning_ok ia oa sa il ic ol oc sl sc rg ins outs ss _ s (HP.out.below HBW.out) (HE.out.below HBW.out).err HF.out) ?_
  rintro e w6 ⟨g6, m6, rfl, hm6, hg6, hh6, hb6⟩
  have HB6 : Hid (Below w.heap.size w w6) := HBW.out.trans (hb6.mono HBW.out.size)
  obtain ⟨Z, hZ⟩ : ∃ Z, Z = w6.alloc (.cells #[.int .i64 ol, .int .i64 il, .slice (some ⟨g6, 0, none⟩) m6 m6] 33) := ⟨_, rfl⟩
  have hbZ : Below w6.heap.size w6 Z := by rw [hZ]; exact (Below.refl _ _).alloc (Nat.le_refl _) _
  have HBZ : Hid (Below w.heap.size w Z) := HB6.out.trans (hbZ.mono HB6.out.size)
  have HPZ : Hid _ := (HPT.out.below hb6).below hbZ
  have HMZ : Hid (Z.heap[w6.heap.size]? = some (.cells #[.int .i64 ol, .int .i64 il, .slice (some ⟨g6, 0, none⟩) m6 m6] 33 (0, 0))) := by show _ = _; rw [hZ]; exact heap_alloc_last _ _
  have HM6 : Hid (m6 = ol * il) := hm6
  have HG6 : Hid _ := heap_later hh6 hbZ
  have HZE : Hid _ := hZ
  have HTZ : Hid _ := heap_later (heap_later HTW.out hb6) hbZ
  have HKZ : Hid _ := heap_later (heap_later HKW.out hb6) hbZ
  have q0 := cellAt HTZ.out 0 _ rfl
  have q1 := cellAt HTZ.out 1 _ rfl
  have q2 := cellAt HTZ.out 2 _ rfl
  have q3 := cellAt HTZ.out 3 _ rfl
  rw [hZ] at q0 q1 q2 q3
  clear hb6 hm6 hg6 hh6 hbZ hZ k0 k1 k2 k3
  go_wp2_with fail
  rw [← HZE.out]
  refine Calls.mono (meaning_ok ia oa (some ⟨r3, 0, none⟩) il ic ol oc n2 cr3 rh ins outs (idleL ss k st ⟨2, rg, 0, 0⟩) _ s HPZ.out (HE.out.below HBZ.out).err HFT.out) ?_
  rw [HIM.out]
  rintro e w7 ⟨g7, m7, rfl, hm7, hg7, hh7, hb7⟩
  clear HZE q0 q1 q2 q3
  have HB7 : Hid (Below w.heap.size w w7) := HBZ.out.trans (hb7.mono HBZ.out.size)
  obtain ⟨V, hV⟩ : ∃ V, V = w7.alloc (.cells #[.int .i64 ol, .int .i64 il, .slice (some ⟨g7, 0, none⟩) m7 m7] 33) := ⟨_, rfl⟩
  have hbV : Below w7.heap.size w7 V := by rw [hV]; exact (Below.refl _ _).alloc (Nat.le_refl _) _
  have HBV : Hid (Below w.heap.size w V) := HB7.out.trans (hbV.mono HB7.out.size)
  have HMV : Hid _ := heap_later (heap_later HMZ.out hb7) hbV
  have HM7 : Hid (m7 = ol * il) := hm7
  have HNV : Hid (V.heap[w7.heap.size]? = some (.cells #[.int .i64 ol, .int .i64 il, .slice (some ⟨g7, 0, none⟩) m7 m7] 33 (0, 0))) := by show _ = _; rw [hV]; exact heap_alloc_last _ _
  have HGV : Hid _ := heap_later (heap_later HG6.out hb7) hbV
  have HHV : Hid _ := heap_later hh7 hbV
  have HTV : Hid _ := heap_later (heap_later HTZ.out hb7) hbV
  have HKV : Hid _ := heap_later (heap_later HKZ.out hb7) hbV
  have HPV : Hid _ := (HPZ.out.below hb7).below hbV
  have HVE : Hid _ := hV
  have q0 := cellAt HTV.out 0 _ rfl
  have q1 := cellAt HTV.out 1 _ rfl
  have q2 := cellAt HTV.out 2 _ rfl
  have q3 := cellAt HTV.out 3 _ rfl
  rw [hV] at q0 q1 q2 q3
  clear hb7 hm7 hg7 hh7 hbV hV
  go_wp2_with fail
  rw [← HVE.out]
  refine Calls.mono (trim_ok ia oa (some ⟨r3, 0, none⟩) il ic ol oc n2 cr3 rh ins outs (idleL ss k st ⟨2, rg, 0, 0⟩) _ s HPV.out (HE.out.below HBV.out).err HFT.out) ?_
  rw [HIT.out]
  rintro e w8 ⟨a1, d1, a2, d2, a3, m8, d3, B2, rfl, hp8, _, _, _, _, hb8⟩
  clear HVE q0 q1 q2 q3
  have HB8 : Hid (Below w.heap.size w w8) := HBV.out.trans (hb8.mono HBV.out.size)
  obtain ⟨U, hU⟩ : ∃ U, U = w8.alloc (.cells #[.slice a1 il d1, .slice a2 ol d2, .int .i64 rh, .slice a3 m8 d3] 25) := ⟨_, rfl⟩
  have hbU : Below w8.heap.size w8 U := by rw [hU]; exact (Below.refl _ _).alloc (Nat.le_refl _) _
  have HBU : Hid (Below w.heap.size w U) := HB8.out.trans (hbU.mono HB8.out.size)
  have HMU : Hid _ := heap_later (heap_later HMV.out hb8) hbU
  have HNU : Hid _ := heap_later (heap_later HNV.out hb8) hbU
  have HGU : Hid _ := heap_later (heap_later HGV.out hb8) hbU
  have HHU : Hid _ := heap_later (heap_later HHV.out hb8) hbU
  have HKU : Hid _ := heap_later (heap_later HKV.out hb8) hbU
  have HRU : Hid (U.heap[w8.heap.size]? = some (.cells #[.slice a1 il d1, .slice a2 ol d2, .int .i64 rh, .slice a3 m8 d3] 25 (0, 0))) := by show _ = _; rw [hU]; exact heap_alloc_last _ _
  have HPU : Hid _ := hp8.below hbU
  have HUE : Hid _ := hU
  have k0 := cellAt HKU.out 0 _ rfl
  have k1 := cellAt HKU.out 1 _ rfl
  have k2 := cellAt HKU.out 2 _ rfl
  have k3 := cellAt HKU.out 3 _ rfl
  rw [hU] at k0 k1 k2 k3
  clear hb8 hp8 hbU hU
  go_wp2_with fail
  rw [← HUE.out]
  refine Calls.mono (trim_ok ia oa sa il ic ol oc sl sc rg ins outs ss _ s (HP.out.below HBU.out) (HE.out.below HBU.out).err HF.out) ?_
  rintro e w9 ⟨b1, e1, b2, e2, b3, m9, e3, B3, rfl, hp9, _, _, _, _, hb9⟩
  clear HUE k0 k1 k2 k3
  obtain rfl : m8 = m9 := by rw [HPU.out.esl, hp9.esl]
  have HB9 : Hid (Below w.heap.size w w9) := HBU.out.trans (hb9.mono HBU.out.size)
  obtain ⟨T, hT⟩ : ∃ T, T = w9.alloc (.cells #[.slice b1 il e1, .slice b2 ol e2, .int .i64 rg, .slice b3 m8 e3] 25) := ⟨_, rfl⟩
  have hbT : Below w9.heap.size w9 T := by rw [hT]; exact (Below.refl _ _).alloc (Nat.le_refl _) _
  have HBT : Hid (Below w.heap.size w T) := HB9.out.trans (hbT.mono HB9.out.size)
  have hmT := heap_later (heap_later HMU.out hb9) hbT
  have hnT := heap_later (heap_later HNU.out hb9) hbT
  have HRT : Hid _ := heap_later (heap_later HRU.out hb9) hbT
  have HQT : Hid (T.heap[w9.heap.size]? = some (.cells #[.slice b1 il e1, .slice b2 ol e2, .int .i64 rg, .slice b3 m8 e3] 25 (0, 0))) := by show _ = _; rw [hT]; exact heap_alloc_last _ _
  have HS8 : Hid (StpW T a3 (trimS ss)) := ((HPU.out.below hb9).below hbT).S
  have HS9 : Hid (StpW T b3 (trimS ss)) := (hp9.below hbT).S
  have HL8 : Hid (m8 = (trimS ss).length) := HPU.out.esl
  have HSM : Hid _ := sameMatrix_F (ol : Int) (il : Int) (some ⟨g6, 0, none⟩) (some ⟨g7, 0, none⟩) m6 m6 m7 m7 (meanL il ol ss) (meanL il ol ss) T (by rw [HM6.out, meanL_len]) (by rw [HM7.out, meanL_len]) (row8_own (heap_later (heap_later HGU.out hb9) hbT)) (row8_own (heap_later (heap_later HHU.out hb9) hbT))
  have m0 := cellAt hmT 0 _ rfl
  have m1 := cellAt hmT 1 _ rfl
  have m2 := cellAt hmT 2 _ rfl
  have o0 := cellAt hnT 0 _ rfl
  have o1 := cellAt hnT 1 _ rfl
  have o2 := cellAt hnT 2 _ rfl
  rw [hT] at m0 m1 m2 o0 o1 o2
  have HTE : Hid _ := hT
  clear hb9 hp9 hbT hT hmT hnT
  go_wp2_with fail
  rw [← HTE.out]
  refine Calls.mono HSM.out ?_
  rw [eqB_true]
  rintro e wa ⟨rfl, hba⟩
  clear HTE m0 m1 m2 o0 o1 o2
  have HBA : Hid (Below w.heap.size w wa) := HBT.out.trans (hba.mono HBT.out.size)
  have HRA : Hid _ := heap_later HRT.out hba
  have HQA : Hid _ := heap_later HQT.out hba
  have HSA : Hid (StpW wa a3 (trimS ss)) := stpW_below HS8.out hba
  have HSB : Hid (StpW wa b3 (trimS ss)) := stpW_below HS9.out hba
  have r3 := cellAt HRA.out 3 _ rfl
  have s3 := cellAt HQA.out 3 _ rfl
  clear hba
  go_wp2
  clear r3 s3
  go_loopw [161] (fun i wr => ∃ j : Nat, j ≤ m8 ∧ i = .int .i64 j ∧ wr.heap = wa.heap ∧ Below w.heap.size w wr) (fun i _ => m8 - (intOf i).toNat)
  case atStart => exact ⟨0, Nat.zero_le _, rfl, rfl, HBA.out⟩
  case round =>
    obtain ⟨j, hj, rfl, hwr, hbr⟩ := hrel
    have HWR : Hid (wr.heap = wa.heap) := hwr
    have HBR : Hid (Below w.heap.size w wr) := hbr
    clear hwr hbr
    have hm9 : m8 ≤ 4000 := by rw [HL8.out]; exact Nat.le_trans (trim_len ss) (by rw [← HSL.out]; exact HS4.out)
    by_cases hlj : j < m8
    · have h1 : j < (trimS ss).length := by rw [← HL8.out]; exact hlj
      obtain ⟨b, off, rfl, hc⟩ := stpW_get HSA.out h1
      obtain ⟨b2, off2, rfl, hc2⟩ := stpW_get HSB.out h1
      obtain ⟨x0, x1, x2, x3⟩ := hc j h1
      obtain ⟨y0, y1, y2, y3⟩ := hc2 j h1
      obtain ⟨⟨xo, xd, xs, xc⟩, hx⟩ : ∃ x, (trimS ss)[j] = x := ⟨_, rfl⟩
      rw [hx] at x0 x1 x2 x3 y0 y1 y2 y3
      simp only at x0 x1 x2 x3 y0 y1 y2 y3
      have heq : ∀ p, wr.cell? p = wa.cell? p := fun p => by unfold World.cell?; rw [HWR.out]
      rw [← heq] at x0 x1 x2 x3 y0 y1 y2 y3
      have r3 : wr.cell? ⟨w8.heap.size, 3, none⟩ = some (.slice (some ⟨b, off, none⟩) m8 d3) := (heq _).trans (cellAt HRA.out 3 _ rfl)
      have s3 : wr.cell? ⟨w9.heap.size, 3, none⟩ = some (.slice (some ⟨b2, off2, none⟩) m8 e3) := (heq _).trans (cellAt HQA.out 3 _ rfl)
      clear hc hc2 hx h1 heq
      go_wp2
      go_region
      go_wp2
      exact ⟨⟨j + 1, by omega, by go_num, HWR.out, by first | exact HBR.out | exact HBR.out.drew⟩, by simp [intOf]; omega⟩
    · obtain rfl : j = m8 := by omega
      go_wp2
      go_ret
      exact ⟨rfl, HBR.out⟩
end Go.Proofs.YtoalbopcapgojaaDoor

/- The law ProgIdle holds: steps that make a register which is never asked for change no meaning and are trimmed off, of all programs, places and steps; no condition but what the card ties. -/
namespace Go.Proofs.YtoalbopcapgojaaDoor.progIdle
open Go.ChangeShapes Go.WideShapes Go.ChangeAt Go.RowKit
open Go.ChangeMaps (open_string shut_string)
open Gf
set_option linter.unusedVariables false
theorem errs {W : World} (h : laidMetH Tryd.prog Rows.progIdleRow.laid W) : ∃ es, ErrsAt W gsProg es :=
  errs_of_laid_drop 3 h (by kernel_rfl) (by kernel_rfl) (fun g hg => by
    have hall : (gsProg.all fun g => decide ((Tryd.prog.globals[g]?).map (·.type) = some 29)) = true := by kernel_rfl
    simpa using List.all_eq_true.1 hall g hg) (fun x hx => by
    simp only [Rows.progIdleRow, List.drop, List.mem_cons, List.not_mem_nil, or_false] at hx
    rcases hx with rfl | rfl <;> exact ⟨_, rfl⟩)
set_option maxRecDepth 100000 in
theorem lifted (os : Os) (started : os.Started) (H : Type) (enc : TypeId × Value → H) :
    ReturnsInHanded {} Tryd.checked os 4 .any (fun w args => (Rows.progIdleSpec.pre enc Tryd.prog Tryd.f4 Rows.progIdleRow.domain false w args ∧ laidMetH Tryd.prog Rows.progIdleRow.laid w) ∧ sizedMet enc Tryd.prog Tryd.f4 (OpenSpec.ofChange Rows.progIdleSpec) false w args) (Rows.progIdleSpec.post enc Tryd.prog Tryd.f4 false true false false) := by
  refine returnsInHanded_of_change_and (C := Tryd.checked) (X := fun w _ => laidMetH Tryd.prog Rows.progIdleRow.laid w) (fun _ _ _ hh h => h.of_heap hh) own started (by kernel_rfl) Tryd.func4
    (ChangeSpec.witness_shaped (enc := enc) (C := Tryd.checked) (os := os) (X := fun w _ => laidMetH Tryd.prog Rows.progIdleRow.laid w) false (World.laidAll Tryd.prog os Rows.progIdleRow.laid) #[.agg #[.slice none 0 0, .slice none 0 0, .int .i64 0, .slice none 0 0], .int .i64 0, .agg #[.int .i64 0, .int .i64 0, .int .i64 0, .int .u8 0]] 8 (World.laidAll_os _ _ _)
      (World.shaped_of_ZipB (by kernel_rfl) (by kernel_rfl)) (by kernel_rfl) (by kernel_rfl) (by kernel_rfl)
      (by rw [MakeChecks.laidMetH_plain _ _ _ (by kernel_rfl)]; exact laidMet_laidAll _ (by kernel_rfl) (by kernel_rfl))) ?_
  intro W base args ds gs before hval0 hW hcnd hsz0 hL _
  have hval : ∀ (j : Nat) t v, Tryd.f4.params[j]? = some t → args[j]? = some v → Value.okWide Tryd.prog W .any base t v := hval0
  have hsz : (DataW.weightsEach Tryd.prog (Tryd.f4.params.toList ++ Rows.progIdleSpec.plain.varTypes Tryd.prog) (ds ++ gs)).all (· ≤ reachBytes) = true := hsz0
  have hW' := hW
  obtain ⟨p, q, hA0, hV, rfl, hfz, hnd⟩ := hW
  have hA : DataW.TrodAll enc Tryd.prog W 0 (fun _ => true) true Tryd.f4.params.toList args.toList ds p := hA0
  rw [Tryd.params4] at hA hval hsz
  obtain ⟨v0, vs0, d0, ds0, p0, q0, hargs, rfl, rfl, h0, r0⟩ := trodAll_cons hA
  obtain ⟨v1, vs1, d1, ds1, p1, q1, rfl, rfl, rfl, h1, r1⟩ := trodAll_cons r0
  obtain ⟨v2, vs2, d2, ds2, p2, q2, rfl, rfl, rfl, h2, r2⟩ := trodAll_cons r1
  obtain ⟨rfl, rfl, rfl⟩ := trodAll_nil r2
  obtain rfl : args = #[v0, v1, v2] := by cases args; simp_all
  obtain ⟨rfl, rfl⟩ := trodVars_none hV
  obtain ⟨es, hes⟩ := errs hL
  have k0 := h0
  have lt0 : ∀ x ∈ p0, x.block < W.heap.size := by obtain ⟨m, hm⟩ := k0; exact DataW.trod_lt m _ _ _ hm
  have k1 := h1
  have lt1 : ∀ x ∈ p1, x.block < W.heap.size := by obtain ⟨m, hm⟩ := k1; exact DataW.trod_lt m _ _ _ hm
  have k2 := h2
  have lt2 : ∀ x ∈ p2, x.block < W.heap.size := by obtain ⟨m, hm⟩ := k2; exact DataW.trod_lt m _ _ _ hm
  obtain ⟨iap, oap, sap, ilp, icp, olp, ocp, slp, scp, rgp, insp, outsp, ssp, rfl, wrp, pwp, bip, bop, bsp⟩ := openProg (j := 0) (hval 0 25 v0 rfl rfl) h0 hsz rfl rfl
  obtain ⟨x, rfl, rfl, rfl, wx⟩ := open_int Tryd.underlying3 (hval 1 3 v1 rfl rfl) h1
  obtain ⟨zoz, zdz, zsz, zfz, rfl, sbz⟩ := openStp (hval 2 48 v2 rfl rfl) h2
  clear hA0 hval0
  refine (idle_all iap oap sap ilp icp olp ocp slp scp rgp insp outsp ssp x zoz zdz zsz _ zfz W (ofProg es) (envP_of hes (tab_of_laid 2 hL (by kernel_rfl) (rest := [("tessera/api.ErrShape", Rows.laid_tessera_api_ErrShape), ("tessera/api.ErrProgram", Rows.laid_tessera_api_ErrProgram)]) rfl)) pwp bip bop bsp rfl).mono fun e W' ⟨he, bel⟩ => ?_
  subst he
  exact ⟨_, rfl, _, _, _, [], _, [], hW', trodAll_mk1 (shut_bool Tryd.underlying4 _), (trodAll_cons_mk (Below.trod laidOut (by kernel_rfl) (of_decide_eq_true (by kernel_rfl)) k0 bel lt0) (trodAll_cons_mk (Below.trod laidOut (by kernel_rfl) (of_decide_eq_true (by kernel_rfl)) k1 bel lt1) (trodAll_cons_mk (Below.trod laidOut (by kernel_rfl) (of_decide_eq_true (by kernel_rfl)) k2 bel lt2) trodAll_mk0))), rfl, bel.frame _, fun h => by cases h⟩

theorem over : Rows.progIdleRow.holds Tryd.pinned (OpenSpec.ofChange Rows.progIdleSpec) :=
  OpenClaim.holds_of_wide 4 Tryd.f4 rfl rfl rfl rfl rfl rfl rfl ⟨rfl, rfl, rfl, rfl, rfl⟩ rfl rfl rfl rfl rfl (by kernel_rfl) Tryd.func4 (by kernel_rfl)
    (of_decide_eq_true (by kernel_rfl)) (by unfold Func.isWrapper; first | (rw [if_pos (by decide +kernel)]; kernel_rfl) | (rw [if_neg (by decide +kernel)]; exact ⟨rfl, rfl⟩))
    (fun os started H enc _ => lifted os started H enc)

theorem proved : Rows.ProgIdleCardSaid :=
  Claim7.holds_tied_plain_at .later [] [.data, .data, .data, .sentinel, .sentinel] true (true, "42e062118fc8842a714b6960a90d5390a50784e4b57e4e70428eebef1712cd95") true over (fun _ h => by cases h) (by kernel_rfl) (fun _ h => by cases h) progIdle_row_tie rfl ⟨rfl, rfl⟩ (by kernel_rfl) rfl
    (fun f fn hf hfn => by
      obtain rfl : f = 4 := Option.some.inj ((show Tryd.prog.funcNamed "tessera/tesseralaw09.ProgIdle" = some 4 by kernel_rfl).symm.trans hf) |>.symm
      obtain rfl : fn = Tryd.f4 := (Option.some.inj (Tryd.func4.symm.trans hfn)).symm
      exact ⟨by kernel_rfl, fun j t ht => by
        rw [Tryd.params4] at ht
        have hm : t ∈ [25, 3, 48] := by simpa using Array.mem_of_getElem? ht
        have hall : ([25, 3, 48].all fun u => !Tryd.prog.wantsStandIn u) = true := by kernel_rfl
        exact (show Tryd.prog.wantsStandIn t = false by simpa using List.all_eq_true.1 hall t hm)⟩)
    (by kernel_rfl)
#print axioms proved
end Go.Proofs.YtoalbopcapgojaaDoor.progIdle
