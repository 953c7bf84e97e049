/- The law ExecMeans holds: in whatever order a machine is fed, its outputs are the rows of the meaning times the inputs, of all programs, bytes and picks; no condition but what the card ties. -/
import Derived.Test.YtanmgpgiepkogaaDoorGfDot
import Derived.ProofKit
import Derived.OpenShut
import Derived.SizedLaws
import Derived.Lib.SmallJoins
import Derived.Test.YtanmgpgiepkogaaDoorMatO
import Derived.Test.YtanmgpgiepkogaaDoorOwn
import Derived.Deep.Matrix
import Derived.Test.YtanmgpgiepkogaaDoorJExecMeans2
import Derived.Deep.Strs
import Derived.Test.YtanmgpgiepkogaaDoorJExecMeans1
import Derived.Deep.DeepCutAuto
import Derived.Laws.Cover3
import Derived.Test.YtanmgpgiepkogaaDoorStepF
import Derived.Test.YtanmgpgiepkogaaDoorGfStr
import Derived.Test.YtanmgpgiepkogaaDoorRefOf
import Derived.Test.YtanmgpgiepkogaaDoorMatS
import Derived.Test.YtanmgpgiepkogaaDoorGfRefW
import Derived.Test.YtanmgpgiepkogaaDoorRows
import Derived.Test.YtanmgpgiepkogaaDoorCards
import Derived.Test.YtanmgpgiepkogaaDoorTie
import Derived.WalkKit
import Derived.ShutString
import Derived.ChangeOld
import Derived.Below
import Derived.Lay
import Derived.SevenTiedAt
import Derived.Stop.Joined
/- How a list of bytes that came in is read: facts for the frames of the laws; nothing of the program is proved here. -/
namespace Go.Proofs.YtanmgpgiepkogaaDoor
open Go.ChangeShapes Go.WideShapes Go.ChangeAt Go.RowKit Gf
set_option maxRecDepth 20000
theorem own : ownKnob Tryd.prog.godebug = none := by kernel_rfl
theorem laidOut : laidOutB Tryd.prog = true := by kernel_rfl
theorem bytes8 : Tryd.prog.bytesOf 5 = 1 := by kernel_rfl
theorem getD_get {α : Type} (l : List α) (j : Nat) (d : α) (h : j < l.length) : l.getD j d = l[j] := by simp [List.getD, h]
theorem open8_cells {H : Type} {enc : TypeId × Value → H} {W : World} {cs : List Value} {x : DataW H × List MemPlace} {fuel : Nat}
    (h : DataW.trod enc Tryd.prog W 0 (fun _ => true) true fuel 31 cs = some x) :
    ∃ a len cap xs, cs = [.slice a len cap] ∧ len = xs.length ∧ len ≤ cap ∧ Row8 W a xs ∧ (x.1 = .nil ∧ a = none ∧ cap = 0 ∨ ∃ es sp, x.1 = .slice es sp ∧ es.length + sp.length = cap) ∧ (a = none → cap = 0) := by
  rcases open_ints Tryd.underlying31 Tryd.underlying5 (by kernel_rfl) h with ⟨hcs, hx⟩ | ⟨ad, l, c, zs, hcs, _, hl, hm, hz, hx, hcell, hwz⟩
  · exact ⟨none, 0, 0, [], hcs, rfl, Nat.le_refl _, .inl rfl, .inl ⟨by rw [hx], rfl, rfl⟩, fun _ => rfl⟩
  · have hz' : zs.length = c := by simpa using hz
    refine ⟨some ad, l, c, (zs.take l).map toF, hcs, by simp; omega, hl, ?_, .inr ⟨_, _, by rw [hx], by simp [lits]; omega⟩, fun e => by cases e⟩
    by_cases h0 : l = 0
    · left; simp [h0]
    · right
      have hc := hcell 0 (by omega)
      obtain ⟨b, off, spot⟩ := ad
      have hspot : spot = none := by simpa [Addr.add] using World.cell?_spot hc
      subst hspot
      refine ⟨b, off, rfl, fun j hj => ?_⟩
      have hj' : j < l := by simp at hj; omega
      have hcj := hcell j (by omega)
      have hw := hwz (zs.getD j 0) (by
        rw [getD_get _ _ _ (by omega)]; exact List.getElem_mem _)
      have hb := bounds_u8 hw
      have e : ((at8 ((zs.take l).map toF) j).toNat : Int) = zs.getD j 0 := by
        unfold at8
        rw [getD_get _ _ _ (by simp; omega)]
        simp only [List.getElem_map, List.getElem_take]
        rw [getD_get _ _ _ (by omega)] at hb ⊢
        exact val_toF hb.1 hb.2
      rw [e, ← hcj]
      by_cases hj0 : j = 0
      · subst hj0; rfl
      · simp [Addr.add, hj0]
theorem open8 {H : Type} {enc : TypeId × Value → H} {W : World} {v : Value} {d : DataW H} {p : List MemPlace} {base : Nat}
    (hv : Value.okWide Tryd.prog W .any base 31 v) (h : DataW.Trod enc Tryd.prog W 0 (fun _ => true) true 31 v d p) :
    ∃ a len cap xs, v = .slice a len cap ∧ len = xs.length ∧ len ≤ cap ∧ Row8 W a xs ∧ (d = .nil ∧ a = none ∧ cap = 0 ∨ ∃ es sp, d = .slice es sp ∧ es.length + sp.length = cap) ∧ (a = none → cap = 0) := by
  obtain ⟨fuel, hf⟩ := h
  obtain ⟨a, len, cap, xs, hcs, h1, h2, h3, h4, h5⟩ := open8_cells hf
  obtain ⟨a', len', cap', rfl⟩ := okWide_slice Tryd.underlying31 hv
  simp [Value.cells] at hcs
  obtain ⟨rfl, rfl, rfl⟩ := hcs
  exact ⟨_, _, _, xs, rfl, h1, h2, h3, h4, h5⟩
end Go.Proofs.YtanmgpgiepkogaaDoor

/- How a matrix, and two numbers, come in: facts for the frames of the laws; nothing of the program is proved here. -/
namespace Go.Proofs.YtanmgpgiepkogaaDoor
open Go.ChangeShapes Go.WideShapes Go.ChangeAt Go.RowKit Gf Go.Joins
set_option linter.unusedVariables false
set_option maxRecDepth 20000
theorem cellsMat : Tryd.prog.cellsOf 33 = 3 := by kernel_rfl
theorem cellsInt : Tryd.prog.cellsOf 3 = 1 := by kernel_rfl
/-- a list's datum, and its room -/
def Room2 {H : Type} (d : DataW H) (cap : Nat) : Prop := d = .nil ∧ cap = 0 ∨ ∃ es sp, d = .slice es sp ∧ es.length + sp.length = cap
theorem room2_le {H : Type} {d : DataW H} {cap : Nat} (h : Room2 d cap) (hw : ∀ n ∈ DataW.weights Tryd.prog 31 d, n ≤ reachBytes) : cap ≤ 140737488351232 := by
  rcases h with ⟨_, rfl⟩ | ⟨es, sp, rfl, rfl⟩
  · omega
  · have := hw ((es.length + sp.length) * Tryd.prog.bytesOf 5) (by simp [DataW.weights, Tryd.underlying31])
    rw [bytes8] at this
    simp only [reachBytes] at this
    omega
theorem openMat {H : Type} {enc : TypeId × Value → H} {W : World} {v : Value} {d : DataW H} {p : List MemPlace} {base : Nat} {ts : List TypeId} {ds : List (DataW H)} {j : Nat}
    (hv : Value.okWide Tryd.prog W .any base 33 v) (h : DataW.Trod enc Tryd.prog W 0 (fun _ => true) true 33 v d p)
    (hsz : (DataW.weightsEach Tryd.prog ts ds).all (· ≤ reachBytes) = true) (ht : ts[j]? = some 33) (hd : ds[j]? = some d) :
    ∃ (r c : Int) (a : Option Addr) (l cap : Nat) (xs : List F), v = .agg #[.int .i64 r, .int .i64 c, .slice a l cap] ∧ l = xs.length ∧ Row8 W a xs ∧ l ≤ cap ∧ cap ≤ 140737488351232 ∧ (a = none → cap = 0) ∧
      -9223372036854775808 ≤ r ∧ r ≤ 9223372036854775807 ∧ -9223372036854775808 ≤ c ∧ c ≤ 9223372036854775807 := by
  obtain ⟨v0, v1, v2, y0, y1, y2, n, rfl, rfl, _, e0, e1, e2⟩ := open_agg3 Tryd.underlying33 (by kernel_rfl) cellsMat hv h
  obtain ⟨r, s0, _, w0⟩ := DataW.trod_int Tryd.underlying3 e0
  obtain ⟨c, s1, _, w1⟩ := DataW.trod_int Tryd.underlying3 e1
  obtain ⟨a, la, ca, xs, s2, e, ka, ra, da, na⟩ := open8_cells e2
  simp only [List.cons.injEq, and_true] at s0 s1 s2
  subst s0 s1 s2
  have hw : ∀ n ∈ DataW.weights Tryd.prog 33 (.agg [y0.1, y1.1, y2.1]), n ≤ reachBytes := fun n hn => by
    simpa using List.all_eq_true.1 hsz _ (DataW.weights_mem_each ht hd n hn)
  simp only [DataW.weights, Tryd.underlying33] at hw
  have r2 : Room2 y2.1 ca := da.imp (fun h => ⟨h.1, h.2.2⟩) id
  refine ⟨r, c, a, la, ca, xs, rfl, e, ra, ka, room2_le r2 ?_, na, (bounds_i64 w0).1, (bounds_i64 w0).2, (bounds_i64 w1).1, (bounds_i64 w1).2⟩
  exact fun n hn => hw n (by simp [DataW.weightsEach, hn])
end Go.Proofs.YtanmgpgiepkogaaDoor

/- How a list of lists of bytes, and a list of numbers, come in: facts for the frames of the laws; nothing of the program is proved here. -/
namespace Go.Proofs.YtanmgpgiepkogaaDoor
open Go.ChangeShapes Go.WideShapes Go.ChangeAt Go.RowKit Gf Go.Joins
set_option linter.unusedVariables false
set_option maxRecDepth 20000
theorem addr_off {w : World} {ad : Addr} {v : Value} (h : w.cell? (ad.add 0) = some v) : ∃ b off, ad = ⟨b, off, none⟩ := by
  obtain ⟨b, off, spot⟩ := ad
  have hspot : spot = none := by simpa [Addr.add] using World.cell?_spot h
  subst hspot
  exact ⟨b, off, rfl⟩
theorem add_off (b off j : Nat) : (⟨b, off, none⟩ : Addr).add j = ⟨b, off + j, none⟩ := by unfold Addr.add; split <;> simp_all
theorem cellsSl : Tryd.prog.cellsOf 31 = 1 := by kernel_rfl
theorem cellsU8 : Tryd.prog.cellsOf 5 = 1 := by kernel_rfl
theorem openRows {H : Type} {enc : TypeId × Value → H} {W : World} {v : Value} {d : DataW H} {p : List MemPlace} {base : Nat}
    (hv : Value.okWide Tryd.prog W .any base 67 v) (h : DataW.Trod enc Tryd.prog W 0 (fun _ => true) true 67 v d p) :
    ∃ a l cap L, v = .slice a l cap ∧ l = List.length L ∧ Rows8 W a L ∧
      ∀ b off, a = some ⟨b, off, none⟩ → ∀ j n a' cap', W.cell? ⟨b, off + j, none⟩ = some (.slice a' n cap') → j < L.length → a' = none → cap' = 0 := by
  obtain ⟨fuel, hf⟩ := h
  obtain ⟨a0, l0, c0, rfl⟩ := okWide_slice Tryd.underlying67 hv
  rcases Deep.open_int_rows Tryd.underlying67 Tryd.underlying31 Tryd.underlying5 cellsSl cellsU8 hf with ⟨hcs, hx⟩ | ⟨ad, len, cap, A, L, C, Z, hcs, _, hl, hm, hx, hr⟩
  · simp [Value.cells] at hcs
    obtain ⟨rfl, rfl, rfl⟩ := hcs
    exact ⟨none, 0, 0, [], rfl, rfl, .inl rfl, fun b off e => by cases e⟩
  · simp [Value.cells] at hcs
    obtain ⟨rfl, rfl, rfl⟩ := hcs
    refine ⟨some ad, l0, c0, (List.range l0).map fun r => ((Z r).take (L r)).map toF, rfl, by simp, ?_, ?_⟩
    · by_cases h0 : l0 = 0
      · left; simp [h0]
      · right
        obtain ⟨b, off, rfl⟩ := addr_off (hr 0 (by omega)).1
        refine ⟨b, off, rfl, fun j xs hj => ?_⟩
        have hjl : j < l0 := by have := (List.getElem?_eq_some_iff.1 hj).1; simpa using this
        rw [List.getElem?_map, List.getElem?_range hjl] at hj
        obtain rfl := Option.some.inj hj
        obtain ⟨h1, h2, h3, h4, h5, h6, h7⟩ := hr j (by omega)
        rw [add_off] at h1
        have hlen : (((Z j).take (L j)).map toF).length = L j := by rw [List.length_map, List.length_take]; omega
        refine ⟨A j, C j, by rw [hlen]; exact h1, ?_⟩
        by_cases hL0 : L j = 0
        · left; simp [hL0]
        · right
          cases hA : A j with
          | none => have := h6 hA; omega
          | some ad' =>
            obtain ⟨_, h8⟩ := h7 ad' hA
            obtain ⟨b', off', rfl⟩ := addr_off (h8 0 (by omega))
            refine ⟨b', off', rfl, fun i hi => ?_⟩
            rw [hlen] at hi
            have hc := h8 i (by omega)
            rw [add_off] at hc
            rw [hc]
            have hb := bounds_u8 (h5 ((Z j).getD i 0) (by rw [getD_get _ _ _ (by omega)]; exact List.getElem_mem _))
            have e : ((at8 (((Z j).take (L j)).map toF) i).toNat : Int) = (Z j).getD i 0 := by
              unfold at8
              rw [getD_get _ _ _ (by rw [hlen]; exact hi)]
              simp only [List.getElem_map, List.getElem_take]
              rw [getD_get _ _ _ (by omega)] at hb ⊢
              exact val_toF hb.1 hb.2
            rw [e]
    · intro b off e j n a' cap' hc hj ha
      simp only [List.length_map, List.length_range] at hj
      obtain ⟨h1, h2, h3, h4, h5, h6, h7⟩ := hr j (by omega)
      obtain rfl := Option.some.inj e
      rw [add_off, hc] at h1
      simp only [Option.some.injEq, Value.slice.injEq] at h1
      obtain ⟨e1, _, e3⟩ := h1
      rw [e3]; exact h6 (by rw [← e1]; exact ha)
theorem bytesInt : Tryd.prog.bytesOf 3 = 8 := by kernel_rfl
theorem openInts {H : Type} {enc : TypeId × Value → H} {W : World} {v : Value} {d : DataW H} {p : List MemPlace} {base : Nat} {ts : List TypeId} {ds : List (DataW H)} {j : Nat}
    (hv : Value.okWide Tryd.prog W .any base 22 v) (h : DataW.Trod enc Tryd.prog W 0 (fun _ => true) true 22 v d p)
    (hsz : (DataW.weightsEach Tryd.prog ts ds).all (· ≤ reachBytes) = true) (ht : ts[j]? = some 22) (hd : ds[j]? = some d) :
    ∃ a l cap ns, v = .slice a l cap ∧ l = List.length ns ∧ RowI W a ns ∧ l ≤ cap ∧ cap ≤ 17592186043904 ∧ (a = none → cap = 0) ∧ ∀ n ∈ ns, -9223372036854775808 ≤ n ∧ n ≤ 9223372036854775807 := by
  obtain ⟨fuel, hf⟩ := h
  obtain ⟨a0, l0, c0, rfl⟩ := okWide_slice Tryd.underlying22 hv
  rcases open_ints Tryd.underlying22 Tryd.underlying3 cellsInt hf with ⟨hcs, hx⟩ | ⟨ad, l, c, zs, hcs, _, hl, hm, hz, hx, hcell, hwz⟩
  · simp [Value.cells] at hcs
    obtain ⟨rfl, rfl, rfl⟩ := hcs
    exact ⟨none, 0, 0, [], rfl, rfl, .inl rfl, Nat.le_refl _, by omega, fun _ => rfl, fun n hn => by cases hn⟩
  · simp [Value.cells] at hcs
    obtain ⟨rfl, rfl, rfl⟩ := hcs
    have hz' : zs.length = c0 := by simpa using hz
    have hcap : c0 ≤ 17592186043904 := by
      have hw : ∀ n ∈ DataW.weights Tryd.prog 22 d, n ≤ reachBytes := fun n hn => by simpa using List.all_eq_true.1 hsz _ (DataW.weights_mem_each ht hd n hn)
      simp only [Prod.mk.injEq] at hx
      rw [hx.1] at hw
      have := hw (((lits .i64 (zs.take l0) : List (DataW H)).length + (lits .i64 (zs.drop l0) : List (DataW H)).length) * Tryd.prog.bytesOf 3) (by simp [DataW.weights, Tryd.underlying22])
      rw [bytesInt] at this
      simp only [reachBytes, lits, List.length_map, List.length_take, List.length_drop] at this
      omega
    refine ⟨some ad, l0, c0, zs.take l0, rfl, by rw [List.length_take]; omega, ?_, hl, hcap, (fun e => by cases e), fun n hn => bounds_i64 (hwz n (List.mem_of_mem_take hn))⟩
    by_cases h0 : l0 = 0
    · left; simp [h0]
    · right
      obtain ⟨b, off, rfl⟩ := addr_off (hcell 0 (by omega))
      refine ⟨b, off, rfl, fun j m hj => ?_⟩
      have hjl : j < l0 := by have := (List.getElem?_eq_some_iff.1 hj).1; rw [List.length_take] at this; omega
      have hc := hcell j (by omega)
      rw [add_off] at hc
      rw [hc]
      rw [List.getElem?_take_of_lt hjl] at hj
      rw [List.getD_eq_getElem?_getD, hj]; rfl
end Go.Proofs.YtanmgpgiepkogaaDoor

/- How parameters, a number and two lists of numbers come in; facts for the frames of the laws; nothing of the program is proved here. -/
namespace Go.Proofs.YtanmgpgiepkogaaDoor
open Go.ChangeShapes Go.WideShapes Go.ChangeAt Go.RowKit Gf Go.Joins
set_option linter.unusedVariables false
set_option maxRecDepth 20000
theorem array5 {α : Type} {cs : Array α} (h : cs.size = 5) : ∃ c0 c1 c2 c3 c4, cs = #[c0, c1, c2, c3, c4] := by
  obtain ⟨l⟩ := cs
  match l, h with
  | [c0, c1, c2, c3, c4], _ => exact ⟨c0, c1, c2, c3, c4, rfl⟩
theorem open_agg5 {H : Type} {enc : TypeId × Value → H} {P : Program} {w : World} {base : Nat} {spare : Nat → Bool} {held : Bool} {r : Reach} {b0 : Nat} {t : TypeId} {f0 f1 f2 f3 f4 : Field} {v : Value} {d : DataW H} {p : List MemPlace} (hs : P.underlying t = some (.struct #[f0, f1, f2, f3, f4])) (hone : Go.Deep.oneCellFields P #[f0, f1, f2, f3, f4] = true) (hC : P.cellsOf t = 5)
    (hv : Value.okWide P w r b0 t v) (h : DataW.Trod enc P w base spare held t v d p) :
    ∃ (v0 v1 v2 v3 v4 : Value) (y0 y1 y2 y3 y4 : DataW H × List MemPlace) (n : Nat), v = .agg #[v0, v1, v2, v3, v4] ∧ d = .agg [y0.1, y1.1, y2.1, y3.1, y4.1] ∧
      DataW.trod enc P w base spare held n f0.type [v0] = some y0 ∧ DataW.trod enc P w base spare held n f1.type [v1] = some y1 ∧ DataW.trod enc P w base spare held n f2.type [v2] = some y2 ∧ DataW.trod enc P w base spare held n f3.type [v3] = some y3 ∧ DataW.trod enc P w base spare held n f4.type [v4] = some y4 := by
  obtain ⟨cs, rfl, hsz⟩ := okWide_struct hs hv
  obtain ⟨c0, c1, c2, c3, c4, rfl⟩ := array5 (hsz.trans hC)
  obtain ⟨fuel, hf⟩ := h
  obtain ⟨xs, n, _, hx, hl, hlen, hel⟩ := DataW.trod_struct hs hf
  match xs, hlen with
  | [y0, y1, y2, y3, y4], _ =>
    obtain ⟨o0, k0⟩ := Go.Deep.hone_of hone 0 f0 rfl
    obtain ⟨o1, k1⟩ := Go.Deep.hone_of hone 1 f1 rfl
    obtain ⟨o2, k2⟩ := Go.Deep.hone_of hone 2 f2 rfl
    obtain ⟨o3, k3⟩ := Go.Deep.hone_of hone 3 f3 rfl
    obtain ⟨o4, k4⟩ := Go.Deep.hone_of hone 4 f4 rfl
    have h0 := hel 0 f0 rfl
    have h1 := hel 1 f1 rfl
    have h2 := hel 2 f2 rfl
    have h3 := hel 3 f3 rfl
    have h4 := hel 4 f4 rfl
    simp only [Prod.mk.injEq] at hx
    exact ⟨c0, c1, c2, c3, c4, y0, y1, y2, y3, y4, n, rfl, by rw [hx.1]; rfl, by simpa [Value.cells, o0, k0] using h0, by simpa [Value.cells, o1, k1] using h1, by simpa [Value.cells, o2, k2] using h2, by simpa [Value.cells, o3, k3] using h3, by simpa [Value.cells, o4, k4] using h4⟩
/-- a list of numbers, as one cell -/
theorem openInts_cell {H : Type} {enc : TypeId × Value → H} {W : World} {v : Value} {y : DataW H × List MemPlace} {n : Nat}
    (h : DataW.trod enc Tryd.prog W 0 (fun _ => true) true n 22 [v] = some y) (hw : ∀ n ∈ DataW.weights Tryd.prog 22 y.1, n ≤ reachBytes) :
    ∃ a l cap ns, v = .slice a l cap ∧ l = List.length ns ∧ RowI W a ns ∧ l ≤ cap ∧ cap ≤ 17592186043904 ∧ (a = none → cap = 0) ∧ ∀ n ∈ ns, -9223372036854775808 ≤ n ∧ n ≤ 9223372036854775807 := by
  rcases open_ints Tryd.underlying22 Tryd.underlying3 cellsInt h with ⟨hcs, hx⟩ | ⟨ad, l, c, zs, hcs, _, hl, hm, hz, hx, hcell, hwz⟩
  · simp at hcs
    subst hcs
    exact ⟨none, 0, 0, [], rfl, rfl, .inl rfl, Nat.le_refl _, by omega, fun _ => rfl, fun n hn => by cases hn⟩
  · simp at hcs
    subst hcs
    have hz' : zs.length = c := by simpa using hz
    have hcap : c ≤ 17592186043904 := by
      rw [hx] at hw
      have := hw (((lits .i64 (zs.take l) : List (DataW H)).length + (lits .i64 (zs.drop l) : List (DataW H)).length) * Tryd.prog.bytesOf 3) (by simp [DataW.weights, Tryd.underlying22])
      rw [bytesInt] at this
      simp only [reachBytes, lits, List.length_map, List.length_take, List.length_drop] at this
      omega
    refine ⟨some ad, l, c, zs.take l, rfl, by rw [List.length_take]; omega, ?_, hl, hcap, (fun e => by cases e), fun n hn => bounds_i64 (hwz n (List.mem_of_mem_take hn))⟩
    by_cases h0 : l = 0
    · left; simp [h0]
    · right
      obtain ⟨b, off, rfl⟩ := addr_off (hcell 0 (by omega))
      refine ⟨b, off, rfl, fun j m hj => ?_⟩
      have hjl : j < l := by have := (List.getElem?_eq_some_iff.1 hj).1; rw [List.length_take] at this; omega
      have hc := hcell j (by omega)
      rw [add_off] at hc
      rw [hc]
      rw [List.getElem?_take_of_lt hjl] at hj
      rw [List.getD_eq_getElem?_getD, hj]; rfl
end Go.Proofs.YtanmgpgiepkogaaDoor

/- How a list of lists of bytes comes in, with the bounds of its rooms: facts for the frames of the laws; nothing of the program is proved here. -/
namespace Go.Proofs.YtanmgpgiepkogaaDoor
open Go.ChangeShapes Go.WideShapes Go.ChangeAt Go.RowKit Gf Go.Joins
set_option linter.unusedVariables false
set_option maxRecDepth 20000
/-- a list of rows in memory, the rooms bounded -/
def RowsB (w : World) (a : Option Addr) (L : List (List F)) : Prop :=
  L = [] ∨ ∃ b off, a = some ⟨b, off, none⟩ ∧ ∀ j xs, L[j]? = some xs → ∃ a' cap', w.cell? ⟨b, off + j, none⟩ = some (.slice a' xs.length cap') ∧ Row8 w a' xs ∧ xs.length ≤ cap' ∧ cap' ≤ 140737488351232 ∧ (a' = none → cap' = 0)
theorem rowsB_rows {w : World} {a : Option Addr} {L : List (List F)} (h : RowsB w a L) : Rows8 w a L :=
  h.imp id fun ⟨b, off, e, h⟩ => ⟨b, off, e, fun j xs hj => by
    obtain ⟨a', cap', h1, h2, _⟩ := h j xs hj
    exact ⟨a', cap', h1, h2⟩⟩
theorem bytesSl : Tryd.prog.bytesOf 31 = 24 := by kernel_rfl
theorem weightsAll_in {H : Type} {P : Program} {e : TypeId} : ∀ {l : List (DataW H)} {d : DataW H}, d ∈ l → ∀ n ∈ d.weights P e, n ∈ DataW.weightsAll P e l
  | [], d, hd, _, _ => by cases hd
  | x :: l, d, hd, n, hn => by
    simp only [DataW.weightsAll, List.mem_append]
    rcases List.mem_cons.1 hd with rfl | h
    · exact .inl hn
    · exact .inr (weightsAll_in h n hn)
theorem openRowsB {H : Type} {enc : TypeId × Value → H} {W : World} {v : Value} {d : DataW H} {p : List MemPlace} {base : Nat} {ts : List TypeId} {ds : List (DataW H)} {j : Nat}
    (hv : Value.okWide Tryd.prog W .any base 67 v) (h : DataW.Trod enc Tryd.prog W 0 (fun _ => true) true 67 v d p)
    (hsz : (DataW.weightsEach Tryd.prog ts ds).all (· ≤ reachBytes) = true) (ht : ts[j]? = some 67) (hd : ds[j]? = some d) :
    ∃ a l cap L, v = .slice a l cap ∧ l = List.length L ∧ RowsB W a L ∧ l ≤ 5864062014634 := by
  obtain ⟨fuel, hf⟩ := h
  obtain ⟨a0, l0, c0, rfl⟩ := okWide_slice Tryd.underlying67 hv
  have hw : ∀ n ∈ DataW.weights Tryd.prog 67 d, n ≤ reachBytes := fun n hn => by simpa using List.all_eq_true.1 hsz _ (DataW.weights_mem_each ht hd n hn)
  rcases Deep.open_int_rows Tryd.underlying67 Tryd.underlying31 Tryd.underlying5 cellsSl cellsU8 hf with ⟨hcs, hx⟩ | ⟨ad, len, cap, A, L, C, Z, hcs, _, hl, hm, hx, hr⟩
  · simp [Value.cells] at hcs
    obtain ⟨rfl, rfl, rfl⟩ := hcs
    exact ⟨none, 0, 0, [], rfl, rfl, .inl rfl, by omega⟩
  · simp [Value.cells] at hcs
    obtain ⟨rfl, rfl, rfl⟩ := hcs
    simp only [Prod.mk.injEq] at hx
    rw [hx.1] at hw
    simp only [DataW.weights, Tryd.underlying67] at hw
    have hl9 : l0 ≤ 5864062014634 := by
      have := hw _ (List.mem_cons_self ..)
      rw [bytesSl] at this
      simp only [reachBytes, List.length_map, List.length_range] at this
      omega
    have hC : ∀ r, r < l0 → A r ≠ none → C r ≤ 140737488351232 := fun r hrl hne => by
      obtain ⟨_, _, _, h4, _⟩ := hr r (by omega)
      cases hA : A r with
      | none => exact absurd hA hne
      | some a9 =>
        have hmem : (Deep.intRow (H := H) .u8 (A r) (L r) (Z r)) ∈ (List.range l0).map fun r => Deep.intRow (H := H) .u8 (A r) (L r) (Z r) := List.mem_map.2 ⟨r, List.mem_range.2 hrl, rfl⟩
        have h9 := hw (((lits .u8 ((Z r).take (L r)) : List (DataW H)).length + (lits .u8 ((Z r).drop (L r)) : List (DataW H)).length) * Tryd.prog.bytesOf 5)
          (List.mem_cons_of_mem _ (List.mem_append_left _ (weightsAll_in hmem _ (by simp [Deep.intRow, hA, DataW.weights, Tryd.underlying31]))))
        rw [bytes8] at h9
        simp only [reachBytes, lits, List.length_map, List.length_take, List.length_drop] at h9
        omega
    refine ⟨some ad, l0, c0, (List.range l0).map fun r => ((Z r).take (L r)).map toF, rfl, by simp, ?_, hl9⟩
    by_cases h0 : l0 = 0
    · left; simp [h0]
    · right
      obtain ⟨b, off, rfl⟩ := addr_off (hr 0 (by omega)).1
      refine ⟨b, off, rfl, fun j xs hj => ?_⟩
      have hjl : j < l0 := by have := (List.getElem?_eq_some_iff.1 hj).1; simpa using this
      rw [List.getElem?_map, List.getElem?_range hjl] at hj
      obtain rfl := Option.some.inj hj
      obtain ⟨h1, h2, h3, h4, h5, h6, h7⟩ := hr j (by omega)
      rw [add_off] at h1
      have hlen : (((Z j).take (L j)).map toF).length = L j := by rw [List.length_map, List.length_take]; omega
      refine ⟨A j, C j, by rw [hlen]; exact h1, ?_, by rw [hlen]; exact h2, ?_, h6⟩
      · by_cases hL0 : L j = 0
        · left; simp [hL0]
        · right
          cases hA : A j with
          | none => have := h6 hA; omega
          | some ad' =>
            obtain ⟨_, h8⟩ := h7 ad' hA
            obtain ⟨b', off', rfl⟩ := addr_off (h8 0 (by omega))
            refine ⟨b', off', rfl, fun i hi => ?_⟩
            rw [hlen] at hi
            have hc := h8 i (by omega)
            rw [add_off] at hc
            rw [hc]
            have hb := bounds_u8 (h5 ((Z j).getD i 0) (by rw [getD_get _ _ _ (by omega)]; exact List.getElem_mem _))
            have e : ((at8 (((Z j).take (L j)).map toF) i).toNat : Int) = (Z j).getD i 0 := by
              unfold at8
              rw [getD_get _ _ _ (by rw [hlen]; exact hi)]
              simp only [List.getElem_map, List.getElem_take]
              rw [getD_get _ _ _ (by omega)] at hb ⊢
              exact val_toF hb.1 hb.2
            rw [e]
      · by_cases hA : A j = none
        · have := h6 hA; omega
        · exact hC j hjl hA
end Go.Proofs.YtanmgpgiepkogaaDoor

/- How a program, and a step, come in; facts for the frames of the laws; nothing of the program is proved here. -/
namespace Go.Proofs.YtanmgpgiepkogaaDoor
open Go.ChangeShapes Go.WideShapes Go.ChangeAt Go.RowKit Gf Go.Joins
set_option linter.unusedVariables false
set_option maxRecDepth 20000
theorem cellsSt : Tryd.prog.cellsOf 48 = 4 := by kernel_rfl
theorem bytesSt : Tryd.prog.bytesOf 48 = 32 := by kernel_rfl
theorem cellsPr : Tryd.prog.cellsOf 25 = 4 := by kernel_rfl
theorem add_add9 {b off j q : Nat} : ((⟨b, off, none⟩ : Addr).add j).add q = ⟨b, off + j + q, none⟩ := by rw [add_off, add_off]
/-- a step's numbers are in their bounds -/
def StB (s : Stp) : Prop := (-9223372036854775808 ≤ s.op ∧ s.op ≤ 9223372036854775807) ∧ (-9223372036854775808 ≤ s.dst ∧ s.dst ≤ 9223372036854775807) ∧ (-9223372036854775808 ≤ s.src ∧ s.src ≤ 9223372036854775807)
theorem openStep {H : Type} {enc : TypeId × Value → H} {W : World} {cs : List Value} {y : DataW H × List MemPlace} {n : Nat}
    (h : DataW.trod enc Tryd.prog W 0 (fun _ => true) true n 48 cs = some y) :
    ∃ s : Stp, cs = stpL s ∧ StB s := by
  obtain ⟨y0, y1, y2, y3, n', hy, hl, e0, e1, e2, e3⟩ := trod_struct4 Tryd.underlying48 h
  rw [cellsSt] at hl
  match cs, hl with
  | [v0, v1, v2, v3], _ =>
    have k0 : Tryd.prog.cellsOf 3 = 1 := cellsInt
    have k1 : Tryd.prog.cellsOf 5 = 1 := by kernel_rfl
    simp only [k0, k1, List.drop_zero, List.drop_succ_cons, List.take_succ_cons, List.take_zero] at e0 e1 e2 e3
    obtain ⟨a, s0, _, w0⟩ := DataW.trod_int Tryd.underlying3 e0
    obtain ⟨b, s1, _, w1⟩ := DataW.trod_int Tryd.underlying3 e1
    obtain ⟨c, s2, _, w2⟩ := DataW.trod_int Tryd.underlying3 e2
    obtain ⟨d, s3, _, w3⟩ := DataW.trod_int Tryd.underlying5 e3
    obtain ⟨f, rfl⟩ := exists_F (bounds_u8 w3).1 (bounds_u8 w3).2
    simp only [List.cons.injEq, and_true] at s0 s1 s2 s3
    subst s0 s1 s2 s3
    exact ⟨⟨a, b, c, f⟩, rfl, bounds_i64 w0, bounds_i64 w1, bounds_i64 w2⟩
theorem openSteps_cell {H : Type} {enc : TypeId × Value → H} {W : World} {v : Value} {y : DataW H × List MemPlace} {n : Nat}
    (h : DataW.trod enc Tryd.prog W 0 (fun _ => true) true n 23 [v] = some y) (hw : ∀ n ∈ DataW.weights Tryd.prog 23 y.1, n ≤ reachBytes) :
    ∃ a l cap ss, v = .slice a l cap ∧ l = List.length ss ∧ StpW W a ss ∧ l ≤ cap ∧ cap ≤ 4398046510976 ∧ (a = none → cap = 0) ∧ ∀ s ∈ ss, StB s := by
  rcases DataW.trod_slice Tryd.underlying23 h with ⟨hcs, hx⟩ | ⟨ad, len, cap, elems, rest, n', _, hcs, hx, _, hlc, hcm, hel, hcell, hrest, _⟩
  · simp only [List.cons.injEq, and_true] at hcs
    exact ⟨none, 0, 0, [], hcs, rfl, .inl rfl, Nat.le_refl _, by omega, fun _ => rfl, fun s h => by cases h⟩
  · simp only [List.cons.injEq, and_true] at hcs
    subst hcs
    obtain ⟨hrl, _⟩ := hrest rfl
    rw [hx] at hw
    simp only [DataW.weights, Tryd.underlying23] at hw
    have hcap : cap ≤ 4398046510976 := by
      have := hw _ (List.mem_cons_self ..)
      rw [bytesSt] at this
      simp only [reachBytes, List.length_map] at this
      omega
    have hone : ∀ i, i < len → ∃ s : Stp, W.cells? 0 (ad.add (i * 4)) 4 = some (stpL s) ∧ StB s := fun i hi => by
      have h1 := hcell i hi
      rw [cellsSt, List.getElem?_eq_getElem (by omega)] at h1
      obtain ⟨cs, h2, h3⟩ := Option.bind_eq_some_iff.1 h1
      obtain ⟨s, e, r⟩ := openStep h3
      subst e
      exact ⟨s, h2, r⟩
    have hch : ∀ i : Nat, ∃ s : Stp, i < len → W.cells? 0 (ad.add (i * 4)) 4 = some (stpL s) ∧ StB s := fun i => by
      by_cases hi : i < len
      · obtain ⟨s, q⟩ := hone i hi
        exact ⟨s, fun _ => q⟩
      · exact ⟨⟨0, 0, 0, 0⟩, fun h => absurd h hi⟩
    obtain ⟨f, hf⟩ := Classical.axiomOfChoice hch
    refine ⟨some ad, len, cap, (List.range len).map f, rfl, by simp, ?_, hlc, hcap, (fun e => by cases e), fun s hs => by obtain ⟨i, hi, rfl⟩ := List.mem_map.1 hs; exact (hf i (List.mem_range.1 hi)).2⟩
    by_cases h0 : len = 0
    · left; simp [h0]
    · right
      have hc0 := (hf 0 (by omega)).1
      have hc1 := (World.cells?_some hc0).2.2 0 (by omega)
      rw [Nat.zero_mul] at hc1
      obtain ⟨b, off, rfl⟩ : ∃ b off, ad = ⟨b, off, none⟩ := addr_off (v := .int .i64 (f 0).op) (by
        have : (ad.add 0).add 0 = ad.add 0 := by unfold Addr.add; simp
        rw [← this]; exact hc1)
      refine ⟨b, off, rfl, fun j s hj => ?_⟩
      have hjl : j < len := by have := (List.getElem?_eq_some_iff.1 hj).1; simpa using this
      rw [List.getElem?_map, List.getElem?_range hjl] at hj
      have hfj : f j = s := Option.some.inj hj
      have hc := (hf j hjl).1
      rw [hfj] at hc
      have hq := (World.cells?_some hc).2.2
      have q0 := hq 0 (by omega)
      have q1 := hq 1 (by omega)
      have q2 := hq 2 (by omega)
      have q3 := hq 3 (by omega)
      rw [add_add9] at q0 q1 q2 q3
      exact ⟨q0, q1, q2, q3⟩
theorem openProg {H : Type} {enc : TypeId × Value → H} {W : World} {v : Value} {d : DataW H} {p : List MemPlace} {base : Nat} {ts : List TypeId} {ds : List (DataW H)} {j : Nat}
    (hv : Value.okWide Tryd.prog W .any base 25 v) (h : DataW.Trod enc Tryd.prog W 0 (fun _ => true) true 25 v d p)
    (hsz : (DataW.weightsEach Tryd.prog ts ds).all (· ≤ reachBytes) = true) (ht : ts[j]? = some 25) (hd : ds[j]? = some d) :
    ∃ (ia oa sa : Option Addr) (il ic ol oc sl sc : Nat) (rg : Int) (ins outs : List Int) (ss : List Stp), v = .agg #[.slice ia il ic, .slice oa ol oc, .int .i64 rg, .slice sa sl sc] ∧
      (-9223372036854775808 ≤ rg ∧ rg ≤ 9223372036854775807) ∧ PrgW W ia oa sa il ic ol oc sl sc ins outs ss ∧ ic ≤ 17592186043904 ∧ oc ≤ 17592186043904 ∧ sc ≤ 4398046510976 := by
  obtain ⟨v0, v1, v2, v3, y0, y1, y2, y3, n', rfl, rfl, _, e0, e1, e2, e3⟩ := open_agg4 Tryd.underlying25 (by kernel_rfl) cellsPr hv h
  obtain ⟨rg, s2, _, w2⟩ := DataW.trod_int Tryd.underlying3 e2
  have hw : ∀ n ∈ DataW.weights Tryd.prog 25 (.agg [y0.1, y1.1, y2.1, y3.1]), n ≤ reachBytes := fun n hn => by
    simpa using List.all_eq_true.1 hsz _ (DataW.weights_mem_each ht hd n hn)
  simp only [DataW.weights, Tryd.underlying25] at hw
  obtain ⟨ia, il, ic, ins, s0, q1, q2, q3, q4, q5, _⟩ := openInts_cell e0 (fun n hn => hw n (by simp [DataW.weightsEach, hn]))
  obtain ⟨oa, ol, oc, outs, s1, o1, o2, o3, o4, o5, _⟩ := openInts_cell e1 (fun n hn => hw n (by simp [DataW.weightsEach, hn]))
  obtain ⟨sa, sl, sc, ss, s3, t1, t2, t3, t4, t5, _⟩ := openSteps_cell e3 (fun n hn => hw n (by simp [DataW.weightsEach, hn]))
  simp only [List.cons.injEq, and_true] at s2
  subst s0 s1 s2 s3
  exact ⟨ia, oa, sa, il, ic, ol, oc, sl, sc, rg, ins, outs, ss, rfl, bounds_i64 w2, ⟨q1, o1, t1, by omega, by omega, by omega, q3, o3, t3, q5, o5, t5, q2, o2, t2⟩, q4, o4, t4⟩
/-- a step alone -/
theorem openStp {H : Type} {enc : TypeId × Value → H} {W : World} {v : Value} {d : DataW H} {p : List MemPlace} {base : Nat}
    (hv : Value.okWide Tryd.prog W .any base 48 v) (h : DataW.Trod enc Tryd.prog W 0 (fun _ => true) true 48 v d p) :
    ∃ (zo zd zs : Int) (zf : F), v = .agg #[.int .i64 zo, .int .i64 zd, .int .i64 zs, .int .u8 (zf.toNat : Int)] ∧ StB ⟨zo, zd, zs, zf⟩ := by
  obtain ⟨v0, v1, v2, v3, y0, y1, y2, y3, n', rfl, rfl, _, e0, e1, e2, e3⟩ := open_agg4 Tryd.underlying48 (by kernel_rfl) cellsSt hv h
  obtain ⟨a, s0, _, w0⟩ := DataW.trod_int Tryd.underlying3 e0
  obtain ⟨b, s1, _, w1⟩ := DataW.trod_int Tryd.underlying3 e1
  obtain ⟨c, s2, _, w2⟩ := DataW.trod_int Tryd.underlying3 e2
  obtain ⟨d, s3, _, w3⟩ := DataW.trod_int Tryd.underlying5 e3
  obtain ⟨f, rfl⟩ := exists_F (bounds_u8 w3).1 (bounds_u8 w3).2
  simp only [List.cons.injEq, and_true] at s0 s1 s2 s3
  subst s0 s1 s2 s3
  exact ⟨a, b, c, f, rfl, bounds_i64 w0, bounds_i64 w1, bounds_i64 w2⟩
end Go.Proofs.YtanmgpgiepkogaaDoor

/- A machine of package exec in memory; New, Wants, Out, operations. -/
namespace Go.Proofs.YtanmgpgiepkogaaDoor
open Go.RowKit Gf
set_option linter.unusedVariables false
set_option maxRecDepth 20000
set_option linter.unusedSimpArgs false
/-- a machine at rest; its outputs lie from block N on -/
structure MacW (N B : Nat) (w : World) (mb Fd : Nat) (ia oa sa : Option Addr) (il ic ol oc sl sc rg h : Nat) (ins outs : List Int) (ss : List Stp) (fd : Nat → Option (Option Addr × Nat)) (X : Int → Nat → F) (ran : Bool) (ov : Value) : Prop where
  blk : w.heap[mb]? = some (.cells #[.slice ia il ic, .slice oa ol oc, .int .i64 rg, .slice sa sl sc, .int .i64 h, .slice (some ⟨Fd, 0, none⟩) il il, .bool ran, .slice none 0 0, ov] 105 (0, 0))
  I : w.ownsRow B 3 1 (.slice ia il ic) il (ins.map (Value.int .i64))
  O : w.ownsRow B 3 1 (.slice oa ol oc) ol (outs.map (Value.int .i64))
  S : w.ownsRow B 48 4 (.slice sa sl sc) sl (stpsL ss)
  frm : InF ins outs rg ss
  h1 : 1 ≤ h
  h64 : h ≤ 64
  fed : w.heap[Fd]? = some (.cells (slO il h fd) 31 (0, 0))
  row : ∀ i, i < il → ∀ p, fd i = some p → Row8T w p.1 (rowF h (X (i : Int))) ∧ h ≤ p.2 ∧ (p.1 = none → p.2 = 0)
  all : ran = true → ∀ i, i < il → (fd i).isSome = true
  out : ran = true → ∃ Q g, ov = .slice (some ⟨Q, 0, none⟩) ol ol ∧ N ≤ Q ∧ w.heap[Q]? = some (.cells (slO ol h g) 31 (0, 0)) ∧ ∀ d, d < ol → ∃ p, g d = some p ∧ Row8T w p.1 (rowF h (runO X ss noR noR (d : Int))) ∧ h ≤ p.2
  hmb : B ≤ mb
  hFd : B ≤ Fd
variable {N B : Nat} {w : World} {mb Fd : Nat} {ia oa sa : Option Addr} {il ic ol oc sl sc rg h : Nat} {ins outs : List Int} {ss : List Stp} {fd : Nat → Option (Option Addr × Nat)} {X : Int → Nat → F} {ran : Bool} {ov : Value}
theorem ownT_len {l : Nat} {v : Value} (ho : w.ownsRow B 48 4 v l (stpsL ss)) : l = ss.length := by
  have := ho.1
  rw [stpsL_len] at this
  omega
theorem ownI_len {l : Nat} {v : Value} {xs : List Int} (ho : w.ownsRow B 3 1 v l (xs.map (Value.int .i64))) : l = xs.length := by
  have := ho.1
  rw [List.length_map] at this
  omega
theorem MacW.prg (hm : MacW N B w mb Fd ia oa sa il ic ol oc sl sc rg h ins outs ss fd X ran ov) : PrgW w ia oa sa il ic ol oc sl sc ins outs ss := by
  have q1 := ownI_facts hm.I
  have q2 := ownI_facts hm.O
  have hsl := ownT_len hm.S
  have q3 := stpW_own hsl hm.S
  obtain ⟨a, c, e, s2, s3, s1⟩ := q3
  have ea : sa = a := by injection e
  have ec : sc = c := by injection e
  subst ea ec
  have l1 := goodH_len hm.frm.1
  have l2 := goodH_len hm.frm.2.1
  have l3 := hm.frm.2.2.2.1
  have z1 := q1.2.2.2.1
  have z2 := q2.2.2.2.1
  exact { eil := z1, eol := z2, esl := hsl, i9 := by omega, o9 := by omega, s9 := by omega, cil := q1.2.1, col := q2.2.1, csl := s2, inil := q1.2.2.1, onil := q2.2.2.1, snil := s3, I := q1.1, O := q2.1, S := s1 }
theorem MacW.sizes (hm : MacW N B w mb Fd ia oa sa il ic ol oc sl sc rg h ins outs ss fd X ran ov) : il ≤ 32 ∧ ol ≤ 32 ∧ rg ≤ 64 ∧ sl ≤ 4096 := by
  have hp := hm.prg
  refine ⟨by rw [hp.eil]; exact goodH_len hm.frm.1, by rw [hp.eol]; exact goodH_len hm.frm.2.1, by have := hm.frm.2.2.1.2; omega, by rw [hp.esl]; exact hm.frm.2.2.2.1⟩
theorem MacW.below {w' : World} (hm : MacW N B w mb Fd ia oa sa il ic ol oc sl sc rg h ins outs ss fd X ran ov) (hb : Below w.heap.size w w') : MacW N B w' mb Fd ia oa sa il ic ol oc sl sc rg h ins outs ss fd X ran ov := by
  refine { hm with blk := heap_later hm.blk hb, I := own_below hm.I hb, O := own_below hm.O hb, S := own_below hm.S hb, fed := heap_later hm.fed hb, row := fun i hi p hp => ⟨row8T_below (hm.row i hi p hp).1 hb, (hm.row i hi p hp).2⟩, out := fun hr => ?_ }
  obtain ⟨Q, g, h1, h2, h3, h4⟩ := hm.out hr
  exact ⟨Q, g, h1, h2, heap_later h3 hb, fun d hd => by obtain ⟨p, q1, q2, q3⟩ := h4 d hd; exact ⟨p, q1, row8T_below q2 hb, q3⟩⟩
theorem row8T_some {a : Option Addr} {v : Nat → F} (h1 : 1 ≤ h) (hr : Row8T w a (rowF h v)) : ∃ b off, a = some ⟨b, off, none⟩ := by
  rcases hr with e | ⟨b, off, cs, fr, e, _⟩
  · have := congrArg List.length e
    rw [rowF_len, List.length_nil] at this
    omega
  · exact ⟨b, off, e⟩
/-- what is not fed -/
def unfed (ins : List Int) (fb : Nat → Bool) : Nat → List Int
  | 0 => []
  | n + 1 => unfed ins fb n ++ (if fb n = true then [] else [ins.getD n 0])
theorem unfed_none {ins : List Int} {fb : Nat → Bool} : ∀ {n : Nat}, (∀ i, i < n → fb i = true) → unfed ins fb n = []
  | 0, _ => rfl
  | n + 1, h => by rw [unfed, unfed_none fun i hi => h i (by omega), if_pos (h n (by omega))]; rfl
theorem unfed_some {ins : List Int} {fb : Nat → Bool} : ∀ {n i : Nat}, i < n → fb i = false → unfed ins fb n ≠ []
  | n + 1, i, hi, h => by
    rw [unfed]
    by_cases e : i = n
    · subst e; rw [h]; simp
    · have := unfed_some (ins := ins) (show i < n by omega) h
      intro h2
      exact this (List.append_eq_nil_iff.1 h2).1
theorem unfed_len (ins : List Int) (fb : Nat → Bool) : ∀ n, (unfed ins fb n).length ≤ n
  | 0 => Nat.le_refl _
  | n + 1 => by
    have := unfed_len ins fb n
    rw [unfed, List.length_append]
    split <;> simp <;> omega
def opP (cb : Nat) : Value := .pointer (some ⟨cb, 0, none⟩)
def opsE (cb : Nat) : Array Value := #[.nilFunc, .func (.func 79) #[opP cb] #[], .func (.func 80) #[opP cb] #[], .func (.func 81) #[opP cb] #[], .func (.func 82) #[opP cb] #[], .func (.func 83) #[opP cb] #[]]
def opsN : Array Value := #[.nilFunc, .nilFunc, .nilFunc, .nilFunc, .nilFunc, .nilFunc]
theorem opsE_one (cb : Nat) : (opsE cb).all (·.oneCell') = true := by simp [opsE, Value.oneCell']
theorem infoE : (Tryd.prog.info? 118).map (·.size) = some 6 := by kernel_rfl
theorem operations_F (cb : Nat) (w : World) :
    Calls Tryd.prog 65 #[.pointer (some ⟨cb, 0, none⟩)] w fun e w' => e = .returned (.agg (opsE cb)) ∧ Below w.heap.size w w' := by
  have HA : Hid _ := heap_alloc_last w (.cells opsN 118)
  have HI : Hid ((Tryd.prog.info? 118).map (·.size) = some (opsE cb).size) := infoE
  have H1 : Hid _ := opsE_one cb
  have HO : Hid (opsN.size = (opsE cb).size) := by show _ = _; rfl
  go_enter Tryd.func65, Tryd.ntmps65
  go_wp2_with (refine wpList_store_row rfl 118 _ _ rfl w.heap.size (opsE cb) rfl rfl 118 opsN HA.out HI.out HO.out H1.out ?_)
  refine bodyPost_ret (v := .agg (opsE cb)) (results_cell_row rfl _ _ w.heap.size 118 _ (0, 0) _ rfl (setRow_heap _ _ _ _ _ _ HA.out) Tryd.underlying118 rfl HI.out) rfl ⟨rfl, ?_⟩
  exact below_row ((Below.refl _ _).alloc (Nat.le_refl _) _) (Nat.le_refl _) _
set_option maxRecDepth 100000 in
set_option maxHeartbeats 4000000 in
theorem wants_F (hm : MacW N B w mb Fd ia oa sa il ic ol oc sl sc rg h ins outs ss fd X ran ov) :
    Calls Tryd.prog 34 #[.pointer (some ⟨mb, 0, none⟩)] w fun e w' => ∃ v n, e = .returned v ∧ n = (unfed ins (fun i => (fd i).isSome) il).length ∧ w'.ownsRow w.heap.size 3 1 v n ((unfed ins (fun i => (fd i).isSome) il).map (Value.int .i64)) ∧ Below w.heap.size w w' := by
  obtain ⟨hil, hol, hrg, hsl⟩ := hm.sizes
  have hp := hm.prg
  have q22 : ∀ (w : World) (a : Option Addr) (n c n' c' : Nat), (binOp .eql 31 (.slice a n c) (.slice none n' c')).run Tryd.prog w = .ok (.bool a.isNone) w := fun w a n c n' c' => Lib.run_eql_slice_nil w _ _ a n c n' c' Tryd.underlying31
  have hcil := hp.cil
  have HM : Hid (MacW N B w mb Fd ia oa sa il ic ol oc sl sc rg h ins outs ss fd X ran ov) := hm
  have HI : Hid (RowI w ia ins) := hp.I
  have HIL : Hid (il = ins.length) := hp.eil
  have k0 := cellAt hm.blk 0 _ rfl
  clear hm hp
  go_enter Tryd.func34, Tryd.ntmps34
  go_wp2
  clear k0
  go_loopw [12, 3] (fun i v wr => ∃ (j n : Nat), j ≤ il ∧ i = .int .i64 j ∧ n = (unfed ins (fun i => (fd i).isSome) j).length ∧ wr.ownsRow w.heap.size 3 1 v n ((unfed ins (fun i => (fd i).isSome) j).map (Value.int .i64)) ∧ Below w.heap.size w wr) (fun i _ _ => il - (intOf i).toNat)
  case atStart => exact ⟨0, 0, Nat.zero_le _, rfl, rfl, World.ownsRow_nil _ _ _ _, Below.refl _ _⟩
  case round =>
    obtain ⟨j, n, hj, rfl, hn, ho, hb⟩ := hrel
    have HB : Hid (Below w.heap.size w wr) := hb
    have HN : Hid (n = (unfed ins (fun i => (fd i).isSome) j).length) := hn
    have HO : Hid (wr.ownsRow w.heap.size 3 1 _ n ((unfed ins (fun i => (fd i).isSome) j).map (Value.int .i64))) := ho
    by_cases hlt : j < il
    · have hn9 : n ≤ 1000000 := by have := unfed_len ins (fun i => (fd i).isSome) j; omega
      have hjl : j < ins.length := by rw [← HIL.out]; exact hlt
      obtain ⟨b, off, rfl, hbl, hc⟩ := rowI_cell (rowI_below HI.out HB.out) hjl
      have c1 := hc j hjl
      obtain ⟨x, hx⟩ : ∃ x, x = ins.getD j 0 := ⟨_, rfl⟩
      rw [← hx] at c1
      have hmw := HM.out.below HB.out
      have k5 := cellAt hmw.blk 5 _ rfl
      have k6 := cellAt hmw.fed j _ (slO_at hlt)
      have HUN : Hid (∀ b : Bool, (fd j).isSome = b → unfed ins (fun i => (fd i).isSome) (j + 1) = unfed ins (fun i => (fd i).isSome) j ++ (if b = true then [] else [x])) := fun b hb => by rw [unfed, hb, hx]
      obtain ⟨av, cv, hv, _⟩ : ∃ a c, u3 = .slice a n c ∧ True := by
        rcases ho.2 with ⟨e, h0⟩ | ⟨g, cap, cur, e, _⟩
        · exact ⟨none, 0, by rw [e]; congr 1; simpa using h0.symm, trivial⟩
        · exact ⟨_, _, e, trivial⟩
      subst hv
      have hba : Below wr.heap.size wr (wr.alloc (.cells #[.int .i64 x] 3)) := (Below.refl _ _).alloc (Nat.le_refl _) _
      rcases hfd : fd j with _ | p
      · have HUE : Hid (unfed ins (fun i => (fd i).isSome) (j + 1) = unfed ins (fun i => (fd i).isSome) j ++ [x]) := by
          have := HUN.out false (by rw [hfd]; rfl)
          show _ = _
          simpa using this
        rw [svO, hfd] at k6
        simp only at k6
        obtain ⟨g, cap, w6, hrun, ho6, hgr, _⟩ := appendI (c := 1) (x := x) 22 (own_below ho hba) (cellAt (heap_alloc_last wr _) 0 _ rfl) hn9 (by have := hb.size; have := hba.size; omega)
        have HRun : Hid _ := hrun
        have HO6 : Hid _ := ho6
        have HB6 : Hid (Below w.heap.size w w6) := below_own (hb.trans (hba.mono hb.size)) (own_below ho hba) hgr (Nat.le_trans hb.size hba.size)
        have HN6 : Hid (n + 1 = (unfed ins (fun i => (fd i).isSome) (j + 1)).length) := by show _ = _; rw [HUE.out, HN.out, List.length_append]; rfl
        clear hc hb hn ho hx hmw hba hrun ho6 hgr hfd
        go_wp2_with (at_builtin; refine wpList_append_run rfl _ _ 22 rfl _ _ _ _ rfl rfl HRun.out ?_)
        exact ⟨⟨j + 1, n + 1, by omega, by go_num, HN6.out, by rw [HUE.out, List.map_append]; exact HO6.out, HB6.out⟩, by simp [intOf]; omega⟩
      · have HUE : Hid (unfed ins (fun i => (fd i).isSome) (j + 1) = unfed ins (fun i => (fd i).isSome) j) := by
          have := HUN.out true (by rw [hfd]; rfl)
          show _ = _
          simpa using this
        rw [svO, hfd] at k6
        simp only at k6
        obtain ⟨b9, o9, hp9⟩ := row8T_some hmw.h1 (hmw.row j hlt p hfd).1
        rw [hp9] at k6
        clear hc hb hn ho hx hmw hba hfd hp9
        go_wp2
        exact ⟨⟨j + 1, n, by omega, by go_num, by rw [HUE.out]; exact HN.out, by rw [HUE.out]; exact HO.out, HB.out⟩, by simp [intOf]; omega⟩
    · obtain rfl : j = il := by omega
      clear hb hn ho
      go_wp2
      go_ret
      exact ⟨_, n, rfl, HN.out, HO.out, HB.out⟩
end Go.Proofs.YtanmgpgiepkogaaDoor

/- What New of package exec answers. -/
namespace Go.Proofs.YtanmgpgiepkogaaDoor
open Go.RowKit Gf
set_option linter.unusedVariables false
set_option maxRecDepth 20000
set_option linter.unusedSimpArgs false
theorem MacW.lower {N B B' : Nat} {w : World} {mb Fd : Nat} {ia oa sa : Option Addr} {il ic ol oc sl sc rg h : Nat} {ins outs : List Int} {ss : List Stp} {fd : Nat → Option (Option Addr × Nat)} {X : Int → Nat → UInt8} {ran : Bool} {ov : Value} (hm : MacW N B w mb Fd ia oa sa il ic ol oc sl sc rg h ins outs ss fd X ran ov) (hb : B' ≤ B) : MacW N B' w mb Fd ia oa sa il ic ol oc sl sc rg h ins outs ss fd X ran ov :=
  { hm with I := own_mono9E hm.I hb, O := own_mono9E hm.O hb, S := own_mono9E hm.S hb, hmb := Nat.le_trans hb hm.hmb, hFd := Nat.le_trans hb hm.hFd }
set_option maxRecDepth 100000 in
set_option maxHeartbeats 16000000 in
theorem new_ok (N : Nat) (X : Int → Nat → F) (ia oa sa : Option Addr) (il ic ol oc sl sc rg h : Nat) (ins outs : List Int) (ss : List Stp) (w : World) (s : Addr) (hP : PrgW w ia oa sa il ic ol oc sl sc ins outs ss) (hs : w.cell? ⟨0, 0, none⟩ = some (errAt s)) (hF : InF ins outs rg ss) (h1 : 1 ≤ h) (h64 : h ≤ 64) :
    Calls Tryd.prog 23 #[.agg #[.slice ia il ic, .slice oa ol oc, .int .i64 rg, .slice sa sl sc], .int .i64 h] w fun e w' => ∃ mb Fd ia' ic' oa' oc' sa' sc', e = .returned (.tuple #[.pointer (some ⟨mb, 0, none⟩), .nilIface]) ∧
      MacW N w.heap.size w' mb Fd ia' oa' sa' il ic' ol oc' sl sc' rg h ins outs ss (fun _ => none) X false (.slice none 0 0) ∧ Below w.heap.size w w' := by
  have hil32 : il ≤ 32 := by rw [hP.eil]; exact goodH_len hF.1
  have hol32 : ol ≤ 32 := by rw [hP.eol]; exact goodH_len hF.2.1
  have hrgn : rg ≤ 64 := by have := hF.2.2.1.2; omega
  have hsl9 : sl ≤ 4096 := by rw [hP.esl]; exact hF.2.2.2.1
  have HP : Hid (PrgW w ia oa sa il ic ol oc sl sc ins outs ss) := hP
  have HF : Hid (InF ins outs rg ss) := hF
  have H1 : Hid (1 ≤ h) := h1
  have H64 : Hid (h ≤ 64) := h64
  have hb0 : Below w.heap.size w (w.alloc (.cells #[.slice ia il ic, .slice oa ol oc, .int .i64 rg, .slice sa sl sc] 25)) := (Below.refl _ _).alloc (Nat.le_refl _) _
  have HB0 : Hid _ := hb0
  have HX0 : Hid ((w.alloc (.cells #[.slice ia il ic, .slice oa ol oc, .int .i64 rg, .slice sa sl sc] 25)).heap[w.heap.size]? = some (.cells #[.slice ia il ic, .slice oa ol oc, .int .i64 rg, .slice sa sl sc] 25 (0, 0))) := heap_alloc_last _ _
  have HC : Hid _ := pcheck_ok ia oa sa il ic ol oc sl sc ins outs rg ss _ s (hP.below hb0) (cell_later hb0 hs) hF
  have k0 := cellAt HX0.out 0 _ rfl
  have k1 := cellAt HX0.out 1 _ rfl
  have k2 := cellAt HX0.out 2 _ rfl
  have k3 := cellAt HX0.out 3 _ rfl
  clear hP hs hF hb0
  go_enter Tryd.func23, Tryd.ntmps23
  go_wp2_with fail
  refine Calls.mono HC.out ?_
  rintro e W ⟨rfl, hb1⟩
  have HW : Hid (Below w.heap.size w W) := HB0.out.trans (hb1.mono HB0.out.size)
  have HXW : Hid _ := heap_later HX0.out hb1
  have HKB : Hid (∀ u, Below W.heap.size W u → u.cell? ⟨w.heap.size, 0, none⟩ = some (.slice ia il ic)) := fun u hu => cellAt (heap_later HXW.out hu) 0 _ rfl
  have HKO : Hid (∀ u, Below W.heap.size W u → u.cell? ⟨w.heap.size, 1, none⟩ = some (.slice oa ol oc)) := fun u hu => cellAt (heap_later HXW.out hu) 1 _ rfl
  have HKR : Hid (∀ u, Below W.heap.size W u → u.cell? ⟨w.heap.size, 2, none⟩ = some (.int .i64 rg)) := fun u hu => cellAt (heap_later HXW.out hu) 2 _ rfl
  have HKS : Hid (∀ u, Below W.heap.size W u → u.cell? ⟨w.heap.size, 3, none⟩ = some (.slice sa sl sc)) := fun u hu => cellAt (heap_later HXW.out hu) 3 _ rfl
  have n1 : decide ((h : Int) < 1) = false := decide_eq_false (by omega)
  have n2 : decide ((64 : Int) < (h : Int)) = false := decide_eq_false (by omega)
  clear hb1 k0 k1 k2 k3 HC HB0 HX0
  go_upto_region 6 with fail
  clear n1 n2
  refine wp_region_noPanic ?_
  refine wp_region_held_drew (S := fun u => Below W.heap.size W u) (by kernel_rfl) ?_ (fun hHeld => ?_)
  · exact Below.drew (Below.refl _ W)
  obtain ⟨X0, hX0⟩ : ∃ X, X = W.drew := ⟨_, rfl⟩
  have B0 : Below W.heap.size W X0 := by rw [hX0]; exact Below.drew (Below.refl _ W)
  rw [← hX0] at hHeld ⊢
  clear hX0
  refine wpAnyH_take (i := 0) (oi := { dst := some 19, op := Op.load 25 (Operand.tmp 2), type := 25, pos := "exec.go:30", after := #[], guard := none }) (v := ?_) rfl (by kernel_rfl) (by kernel_rfl) (by kernel_rfl) (fun _ _ _ h => h) (Or.inl ⟨by rfl, ?_⟩) hHeld ?_
  rotate_left
  · intro u hSw
    have k9 := HKB.out u hSw
    have k8 := HKO.out u hSw
    have k7 := HKR.out u hSw
    have k6 := HKS.out u hSw
    go_simp
    try with_reducible rfl
  try simp only [Act.put, List.setIfInBounds_toArray, List.set_cons_zero, List.set_cons_succ]
  refine wpAnyH_take (i := 2) (oi := { dst := some 21, op := Op.move (Operand.tmp 1), type := 3, pos := "exec.go:30", after := #[], guard := none }) (v := ?_) rfl (by kernel_rfl) (by kernel_rfl) (by kernel_rfl) (fun _ _ _ h => h) (Or.inl ⟨by rfl, ?_⟩) hHeld ?_
  rotate_left
  · intro u hSw
    go_simp
    try with_reducible rfl
  try simp only [Act.put, List.setIfInBounds_toArray, List.set_cons_zero, List.set_cons_succ]
  refine wpAnyH_take (i := 3) (oi := { dst := some 22, op := Op.fieldAddr 25 (Operand.tmp 2) 0, type := 0, pos := "exec.go:30", after := #[], guard := none }) (v := ?_) rfl (by kernel_rfl) (by kernel_rfl) (by kernel_rfl) (fun _ _ _ h => h) (Or.inl ⟨by rfl, ?_⟩) hHeld ?_
  rotate_left
  · intro u hSw
    go_simp
    try with_reducible rfl
  try simp only [Act.put, List.setIfInBounds_toArray, List.set_cons_zero, List.set_cons_succ]
  refine wpAnyH_take (i := 4) (oi := { dst := some 23, op := Op.load 22 (Operand.tmp 22), type := 22, pos := "exec.go:30", after := #[{ on := 3, ground := Ground.data }], guard := none }) (v := ?_) rfl (by kernel_rfl) (by kernel_rfl) (by kernel_rfl) (fun _ _ _ h => h) (Or.inl ⟨by rfl, ?_⟩) hHeld ?_
  rotate_left
  · intro u hSw
    have k9 := HKB.out u hSw
    go_simp
    try with_reducible rfl
  try simp only [Act.put, List.setIfInBounds_toArray, List.set_cons_zero, List.set_cons_succ]
  refine wpAnyH_take (i := 5) (oi := { dst := some 24, op := Op.call { callee := Callee.builtin Builtin.len, args := #[Operand.tmp 23], argTypes := #[22] }, type := 3, pos := "exec.go:30", after := #[{ on := 4, ground := Ground.data }], guard := none }) (v := ?_) rfl (by kernel_rfl) (by kernel_rfl) (by kernel_rfl) (fun _ _ _ h => h) (Or.inl ⟨by rfl, ?_⟩) hHeld ?_
  rotate_left
  · intro u hSw
    go_simp
    try with_reducible rfl
  try simp only [Act.put, List.setIfInBounds_toArray, List.set_cons_zero, List.set_cons_succ]
  refine wpAnyH_ready (rs := [1, 6]) (by kernel_rfl) (by simp) ?_
  refine (AllReadyH.cons (o := { dst := some 20, op := Op.call { callee := Callee.value (Operand.func 54), args := #[Operand.tmp 19], argTypes := #[25] }, type := 25, pos := "exec.go:30", after := #[{ on := 0, ground := Ground.data }], guard := none }) rfl (fun K hK => ?_) (AllReadyH.cons (o := { dst := some 25, op := Op.makeSlice 67 (Operand.tmp 24) (Operand.tmp 24), type := 67, pos := "exec.go:30", after := #[{ on := 5, ground := Ground.data }, { on := 5, ground := Ground.data }], guard := none }) rfl (fun K hK => ?_) AllReadyH.nil))
  · go_simp
    refine Calls.mono (own_F ia oa sa il ic ol oc sl sc rg ins outs ss _ (HP.out.below (HW.out.trans (B0.mono HW.out.size))) (by omega) (by omega) (by omega)) ?_
    rintro e V1 ⟨ia', ic', oa', oc', sa', sc', rfl, ho1, ho2, ho3, hv1⟩
    have bV1 : Below W.heap.size W V1 := B0.trans (hv1.mono B0.size)
    have hO1 := own_mono9E ho1 (B' := W.heap.size) B0.size
    have hO2 := own_mono9E ho2 (B' := W.heap.size) B0.size
    have hO3 := own_mono9E ho3 (B' := W.heap.size) B0.size
    clear ho1 ho2 ho3
    go_wp2_with fail
    refine hK.out _ _ ?_ (fun hHeld => ?_)
    · exact bV1
    clear hK K
    try simp only [Act.put, List.setIfInBounds_toArray, List.set_cons_zero, List.set_cons_succ]
    refine wpAnyH_ready (rs := [6]) (by kernel_rfl) (by simp) ?_
    refine (AllReadyH.cons (o := { dst := some 25, op := Op.makeSlice 67 (Operand.tmp 24) (Operand.tmp 24), type := 67, pos := "exec.go:30", after := #[{ on := 5, ground := Ground.data }, { on := 5, ground := Ground.data }], guard := none }) rfl (fun K hK => ?_) AllReadyH.nil)
    have hmk := run_makeN il h (by omega) V1
    obtain ⟨V2, hV2⟩ : ∃ Z : World, Z = V1.alloc (.cells (slO il h (fun _ => none)) 31) := ⟨_, rfl⟩
    have hv2 : Below V1.heap.size V1 V2 := by rw [hV2]; exact (Below.refl _ _).alloc (Nat.le_refl _) _
    have bV2 : Below W.heap.size W V2 := bV1.trans (hv2.mono bV1.size)
    obtain ⟨Fd, hFd⟩ : ∃ Fd, Fd = V1.heap.size := ⟨_, rfl⟩
    have hfB : W.heap.size ≤ Fd := by rw [hFd]; exact bV1.size
    have hF2 : V2.heap[Fd]? = some (.cells (slO il h (fun _ => none)) 31 (0, 0)) := by rw [hV2, hFd]; exact heap_alloc_last _ _
    replace hO1 := own_below hO1 hv2
    replace hO2 := own_below hO2 hv2
    replace hO3 := own_below hO3 hv2
    have HV2 : Hid (V2 = V1.alloc (.cells (slO il h (fun _ => none)) 31)) := hV2
    have HFE : Hid (Fd = V1.heap.size) := hFd
    clear hV2 hFd
    go_simp
    rw [← HV2.out, ← HFE.out]
    refine hK.out _ _ ?_ (fun hHeld => ?_)
    · exact bV2
    clear hK K
    try simp only [Act.put, List.setIfInBounds_toArray, List.set_cons_zero, List.set_cons_succ]
    refine wpAnyH_take (i := 7) (oi := { dst := some 26, op := Op.build 105 #[(0, Operand.tmp 20), (1, Operand.tmp 21), (2, Operand.tmp 25)], type := 105, pos := "exec.go:30", after := #[{ on := 1, ground := Ground.data }, { on := 2, ground := Ground.data }, { on := 6, ground := Ground.data }], guard := none }) (v := ?_) rfl (by kernel_rfl) (by kernel_rfl) (by kernel_rfl) (fun _ _ _ h => h) (Or.inl ⟨by rfl, ?_⟩) hHeld ?_
    rotate_left
    · intro u hSw
      go_simp
      try with_reducible rfl
    try simp only [Act.put, List.setIfInBounds_toArray, List.set_cons_zero, List.set_cons_succ]
    refine wpAnyH_ready (rs := [8]) (by kernel_rfl) (by simp) ?_
    refine (AllReadyH.cons (o := { dst := some 27, op := Op.box 105 (Operand.tmp 26), type := 54, pos := "exec.go:30", after := #[{ on := 7, ground := Ground.data }], guard := none }) rfl (fun K hK => ?_) AllReadyH.nil)
    obtain ⟨Z, hZ⟩ : ∃ Z : World, Z = V2.alloc (.cells #[.slice ia' il ic', .slice oa' ol oc', .int .i64 rg, .slice sa' sl sc', .int .i64 h, .slice (some ⟨Fd, 0, none⟩) il il, .bool false, .slice none 0 0, .slice none 0 0] 105) := ⟨_, rfl⟩
    have hvz : Below V2.heap.size V2 Z := by rw [hZ]; exact (Below.refl _ _).alloc (Nat.le_refl _) _
    have bZ : Below W.heap.size W Z := bV2.trans (hvz.mono bV2.size)
    obtain ⟨mb, hmb⟩ : ∃ mb, mb = V2.heap.size := ⟨_, rfl⟩
    have hmB : W.heap.size ≤ mb := by rw [hmb]; exact bV2.size
    have hKM : Z.heap[mb]? = some (.cells #[.slice ia' il ic', .slice oa' ol oc', .int .i64 rg, .slice sa' sl sc', .int .i64 h, .slice (some ⟨Fd, 0, none⟩) il il, .bool false, .slice none 0 0, .slice none 0 0] 105 (0, 0)) := by rw [hZ, hmb]; exact heap_alloc_last _ _
    have HZE : Hid (Z = V2.alloc (.cells #[.slice ia' il ic', .slice oa' ol oc', .int .i64 rg, .slice sa' sl sc', .int .i64 h, .slice (some ⟨Fd, 0, none⟩) il il, .bool false, .slice none 0 0, .slice none 0 0] 105)) := hZ
    have HME : Hid (mb = V2.heap.size) := hmb
    clear hZ hmb
    go_simp
    rw [← HZE.out, ← HME.out]
    refine hK.out _ _ ?_ (fun hHeld => ?_)
    · exact bZ
    clear hK K
    try simp only [Act.put, List.setIfInBounds_toArray, List.set_cons_zero, List.set_cons_succ]
    refine wpAnyH_take (i := 9) (oi := { dst := some 4, op := Op.assign (Operand.tmp 27), type := 54, pos := "exec.go:30", after := #[{ on := 8, ground := Ground.data }, { on := 1, ground := Ground.chain }, { on := 0, ground := Ground.phase }, { on := 1, ground := Ground.phase }, { on := 2, ground := Ground.phase }, { on := 3, ground := Ground.phase }, { on := 4, ground := Ground.phase }, { on := 5, ground := Ground.phase }, { on := 6, ground := Ground.phase }, { on := 7, ground := Ground.phase }, { on := 8, ground := Ground.phase }], guard := none }) (v := ?_) rfl (by kernel_rfl) (by kernel_rfl) (by kernel_rfl) (fun _ _ _ h => h) (Or.inl ⟨by rfl, ?_⟩) hHeld ?_
    rotate_left
    · intro u hSw
      go_simp
      try with_reducible rfl
    try simp only [Act.put, List.setIfInBounds_toArray, List.set_cons_zero, List.set_cons_succ]
    refine wpAnyH_take (i := 10) (oi := { dst := some 5, op := Op.assign (Operand.const Value.nilIface), type := 29, pos := "exec.go:30", after := #[{ on := 9, ground := Ground.chain }, { on := 0, ground := Ground.phase }, { on := 1, ground := Ground.phase }, { on := 2, ground := Ground.phase }, { on := 3, ground := Ground.phase }, { on := 4, ground := Ground.phase }, { on := 5, ground := Ground.phase }, { on := 6, ground := Ground.phase }, { on := 7, ground := Ground.phase }, { on := 8, ground := Ground.phase }, { on := 9, ground := Ground.phase }], guard := none }) (v := ?_) rfl (by kernel_rfl) (by kernel_rfl) (by kernel_rfl) (fun _ _ _ h => h) (Or.inl ⟨by rfl, ?_⟩) hHeld ?_
    rotate_left
    · intro u hSw
      go_simp
      try with_reducible rfl
    try simp only [Act.put, List.setIfInBounds_toArray, List.set_cons_zero, List.set_cons_succ]
    refine wpAnyH_done (by kernel_rfl) ?_ _
    refine NoPanic.normal ?_
    have HMC : Hid (MacW N W.heap.size Z mb Fd ia' oa' sa' il ic' ol oc' sl sc' rg h ins outs ss (fun _ => none) X false (.slice none 0 0)) :=
      ⟨hKM, own_below hO1 hvz, own_below hO2 hvz, own_below hO3 hvz, HF.out, H1.out, H64.out, heap_later hF2 hvz, (fun i hi p hp => absurd hp (fun e => by cases e)), (fun e => by cases e), (fun e => by cases e), hmB, hfB⟩
    have HBZ : Hid (Below w.heap.size w Z) := HW.out.trans (bZ.mono HW.out.size)
    have HWS : Hid (w.heap.size ≤ W.heap.size) := HW.out.size
    go_wp2
    go_ret2
    exact ⟨mb, Fd, ia', ic', oa', oc', sa', sc', rfl, HMC.out.lower HWS.out, HBZ.out⟩
  · have hmk := run_makeN il h (by omega) X0
    obtain ⟨V1, hV1⟩ : ∃ Z : World, Z = X0.alloc (.cells (slO il h (fun _ => none)) 31) := ⟨_, rfl⟩
    have hv1 : Below X0.heap.size X0 V1 := by rw [hV1]; exact (Below.refl _ _).alloc (Nat.le_refl _) _
    have bV1 : Below W.heap.size W V1 := B0.trans (hv1.mono B0.size)
    obtain ⟨Fd, hFd⟩ : ∃ Fd, Fd = X0.heap.size := ⟨_, rfl⟩
    have hfB : W.heap.size ≤ Fd := by rw [hFd]; exact B0.size
    have hF1 : V1.heap[Fd]? = some (.cells (slO il h (fun _ => none)) 31 (0, 0)) := by rw [hV1, hFd]; exact heap_alloc_last _ _
    have HV1 : Hid (V1 = X0.alloc (.cells (slO il h (fun _ => none)) 31)) := hV1
    have HFE : Hid (Fd = X0.heap.size) := hFd
    clear hV1 hFd
    go_simp
    rw [← HV1.out, ← HFE.out]
    refine hK.out _ _ ?_ (fun hHeld => ?_)
    · exact bV1
    clear hK K
    try simp only [Act.put, List.setIfInBounds_toArray, List.set_cons_zero, List.set_cons_succ]
    refine wpAnyH_ready (rs := [1]) (by kernel_rfl) (by simp) ?_
    refine (AllReadyH.cons (o := { dst := some 20, op := Op.call { callee := Callee.value (Operand.func 54), args := #[Operand.tmp 19], argTypes := #[25] }, type := 25, pos := "exec.go:30", after := #[{ on := 0, ground := Ground.data }], guard := none }) rfl (fun K hK => ?_) AllReadyH.nil)
    go_simp
    refine Calls.mono (own_F ia oa sa il ic ol oc sl sc rg ins outs ss _ (HP.out.below (HW.out.trans (bV1.mono HW.out.size))) (by omega) (by omega) (by omega)) ?_
    rintro e V2 ⟨ia', ic', oa', oc', sa', sc', rfl, ho1, ho2, ho3, hv2⟩
    have bV2 : Below W.heap.size W V2 := bV1.trans (hv2.mono bV1.size)
    have hO1 := own_mono9E ho1 (B' := W.heap.size) bV1.size
    have hO2 := own_mono9E ho2 (B' := W.heap.size) bV1.size
    have hO3 := own_mono9E ho3 (B' := W.heap.size) bV1.size
    clear ho1 ho2 ho3
    have hF2 := heap_later hF1 hv2
    go_wp2_with fail
    refine hK.out _ _ ?_ (fun hHeld => ?_)
    · exact bV2
    clear hK K
    try simp only [Act.put, List.setIfInBounds_toArray, List.set_cons_zero, List.set_cons_succ]
    refine wpAnyH_take (i := 7) (oi := { dst := some 26, op := Op.build 105 #[(0, Operand.tmp 20), (1, Operand.tmp 21), (2, Operand.tmp 25)], type := 105, pos := "exec.go:30", after := #[{ on := 1, ground := Ground.data }, { on := 2, ground := Ground.data }, { on := 6, ground := Ground.data }], guard := none }) (v := ?_) rfl (by kernel_rfl) (by kernel_rfl) (by kernel_rfl) (fun _ _ _ h => h) (Or.inl ⟨by rfl, ?_⟩) hHeld ?_
    rotate_left
    · intro u hSw
      go_simp
      try with_reducible rfl
    try simp only [Act.put, List.setIfInBounds_toArray, List.set_cons_zero, List.set_cons_succ]
    refine wpAnyH_ready (rs := [8]) (by kernel_rfl) (by simp) ?_
    refine (AllReadyH.cons (o := { dst := some 27, op := Op.box 105 (Operand.tmp 26), type := 54, pos := "exec.go:30", after := #[{ on := 7, ground := Ground.data }], guard := none }) rfl (fun K hK => ?_) AllReadyH.nil)
    obtain ⟨Z, hZ⟩ : ∃ Z : World, Z = V2.alloc (.cells #[.slice ia' il ic', .slice oa' ol oc', .int .i64 rg, .slice sa' sl sc', .int .i64 h, .slice (some ⟨Fd, 0, none⟩) il il, .bool false, .slice none 0 0, .slice none 0 0] 105) := ⟨_, rfl⟩
    have hvz : Below V2.heap.size V2 Z := by rw [hZ]; exact (Below.refl _ _).alloc (Nat.le_refl _) _
    have bZ : Below W.heap.size W Z := bV2.trans (hvz.mono bV2.size)
    obtain ⟨mb, hmb⟩ : ∃ mb, mb = V2.heap.size := ⟨_, rfl⟩
    have hmB : W.heap.size ≤ mb := by rw [hmb]; exact bV2.size
    have hKM : Z.heap[mb]? = some (.cells #[.slice ia' il ic', .slice oa' ol oc', .int .i64 rg, .slice sa' sl sc', .int .i64 h, .slice (some ⟨Fd, 0, none⟩) il il, .bool false, .slice none 0 0, .slice none 0 0] 105 (0, 0)) := by rw [hZ, hmb]; exact heap_alloc_last _ _
    have HZE : Hid (Z = V2.alloc (.cells #[.slice ia' il ic', .slice oa' ol oc', .int .i64 rg, .slice sa' sl sc', .int .i64 h, .slice (some ⟨Fd, 0, none⟩) il il, .bool false, .slice none 0 0, .slice none 0 0] 105)) := hZ
    have HME : Hid (mb = V2.heap.size) := hmb
    clear hZ hmb
    go_simp
    rw [← HZE.out, ← HME.out]
    refine hK.out _ _ ?_ (fun hHeld => ?_)
    · exact bZ
    clear hK K
    try simp only [Act.put, List.setIfInBounds_toArray, List.set_cons_zero, List.set_cons_succ]
    refine wpAnyH_take (i := 9) (oi := { dst := some 4, op := Op.assign (Operand.tmp 27), type := 54, pos := "exec.go:30", after := #[{ on := 8, ground := Ground.data }, { on := 1, ground := Ground.chain }, { on := 0, ground := Ground.phase }, { on := 1, ground := Ground.phase }, { on := 2, ground := Ground.phase }, { on := 3, ground := Ground.phase }, { on := 4, ground := Ground.phase }, { on := 5, ground := Ground.phase }, { on := 6, ground := Ground.phase }, { on := 7, ground := Ground.phase }, { on := 8, ground := Ground.phase }], guard := none }) (v := ?_) rfl (by kernel_rfl) (by kernel_rfl) (by kernel_rfl) (fun _ _ _ h => h) (Or.inl ⟨by rfl, ?_⟩) hHeld ?_
    rotate_left
    · intro u hSw
      go_simp
      try with_reducible rfl
    try simp only [Act.put, List.setIfInBounds_toArray, List.set_cons_zero, List.set_cons_succ]
    refine wpAnyH_take (i := 10) (oi := { dst := some 5, op := Op.assign (Operand.const Value.nilIface), type := 29, pos := "exec.go:30", after := #[{ on := 9, ground := Ground.chain }, { on := 0, ground := Ground.phase }, { on := 1, ground := Ground.phase }, { on := 2, ground := Ground.phase }, { on := 3, ground := Ground.phase }, { on := 4, ground := Ground.phase }, { on := 5, ground := Ground.phase }, { on := 6, ground := Ground.phase }, { on := 7, ground := Ground.phase }, { on := 8, ground := Ground.phase }, { on := 9, ground := Ground.phase }], guard := none }) (v := ?_) rfl (by kernel_rfl) (by kernel_rfl) (by kernel_rfl) (fun _ _ _ h => h) (Or.inl ⟨by rfl, ?_⟩) hHeld ?_
    rotate_left
    · intro u hSw
      go_simp
      try with_reducible rfl
    try simp only [Act.put, List.setIfInBounds_toArray, List.set_cons_zero, List.set_cons_succ]
    refine wpAnyH_done (by kernel_rfl) ?_ _
    refine NoPanic.normal ?_
    have HMC : Hid (MacW N W.heap.size Z mb Fd ia' oa' sa' il ic' ol oc' sl sc' rg h ins outs ss (fun _ => none) X false (.slice none 0 0)) :=
      ⟨hKM, own_below hO1 hvz, own_below hO2 hvz, own_below hO3 hvz, HF.out, H1.out, H64.out, heap_later hF2 hvz, (fun i hi p hp => absurd hp (fun e => by cases e)), (fun e => by cases e), (fun e => by cases e), hmB, hfB⟩
    have HBZ : Hid (Below w.heap.size w Z) := HW.out.trans (bZ.mono HW.out.size)
    have HWS : Hid (w.heap.size ≤ W.heap.size) := HW.out.size
    go_wp2
    go_ret2
    exact ⟨mb, Fd, ia', ic', oa', oc', sa', sc', rfl, HMC.out.lower HWS.out, HBZ.out⟩
set_option maxHeartbeats 4000000 in
theorem new_bad (ia oa sa : Option Addr) (il ic ol oc sl sc : Nat) (rg h : Int) (ins outs : List Int) (ss : List Stp) (w : World) (s : Addr) (hP : PrgW w ia oa sa il ic ol oc sl sc ins outs ss) (hs : w.cell? ⟨0, 0, none⟩ = some (errAt s)) (hF : ¬ InF ins outs rg ss) :
    Calls Tryd.prog 23 #[.agg #[.slice ia il ic, .slice oa ol oc, .int .i64 rg, .slice sa sl sc], .int .i64 h] w fun e w' => e = .returned (.tuple #[.pointer none, errAt s]) ∧ Below w.heap.size w w' := by
  have hb0 : Below w.heap.size w (w.alloc (.cells #[.slice ia il ic, .slice oa ol oc, .int .i64 rg, .slice sa sl sc] 25)) := (Below.refl _ _).alloc (Nat.le_refl _) _
  have HB0 : Hid _ := hb0
  have HX0 : Hid ((w.alloc (.cells #[.slice ia il ic, .slice oa ol oc, .int .i64 rg, .slice sa sl sc] 25)).heap[w.heap.size]? = some (.cells #[.slice ia il ic, .slice oa ol oc, .int .i64 rg, .slice sa sl sc] 25 (0, 0))) := heap_alloc_last _ _
  have HC : Hid _ := pcheck_bad ia oa sa il ic ol oc sl sc ins outs rg ss _ s (hP.below hb0) (cell_later hb0 hs) hF
  have k0 := cellAt HX0.out 0 _ rfl
  have k1 := cellAt HX0.out 1 _ rfl
  have k2 := cellAt HX0.out 2 _ rfl
  have k3 := cellAt HX0.out 3 _ rfl
  clear hP hs hF hb0
  go_enter Tryd.func23, Tryd.ntmps23
  go_wp2_with fail
  refine Calls.mono HC.out ?_
  unfold errAt
  rintro e W ⟨rfl, hb1⟩
  have HW : Hid (Below w.heap.size w W) := HB0.out.trans (hb1.mono HB0.out.size)
  clear hb1 k0 k1 k2 k3 HC HB0 HX0
  go_wp2
  go_ret2
  exact ⟨rfl, HW.out⟩
set_option maxHeartbeats 4000000 in
theorem new_size (ia oa sa : Option Addr) (il ic ol oc sl sc : Nat) (rg h : Int) (ins outs : List Int) (ss : List Stp) (w : World) (s z : Addr) (hP : PrgW w ia oa sa il ic ol oc sl sc ins outs ss) (hs : w.cell? ⟨0, 0, none⟩ = some (errAt s)) (hz : w.cell? ⟨1, 0, none⟩ = some (errAt z)) (hF : InF ins outs rg ss) (hh : ¬ (1 ≤ h ∧ h ≤ 64)) :
    Calls Tryd.prog 23 #[.agg #[.slice ia il ic, .slice oa ol oc, .int .i64 rg, .slice sa sl sc], .int .i64 h] w fun e w' => e = .returned (.tuple #[.pointer none, errAt z]) ∧ Below w.heap.size w w' := by
  have hb0 : Below w.heap.size w (w.alloc (.cells #[.slice ia il ic, .slice oa ol oc, .int .i64 rg, .slice sa sl sc] 25)) := (Below.refl _ _).alloc (Nat.le_refl _) _
  have HB0 : Hid _ := hb0
  have HX0 : Hid ((w.alloc (.cells #[.slice ia il ic, .slice oa ol oc, .int .i64 rg, .slice sa sl sc] 25)).heap[w.heap.size]? = some (.cells #[.slice ia il ic, .slice oa ol oc, .int .i64 rg, .slice sa sl sc] 25 (0, 0))) := heap_alloc_last _ _
  have HC : Hid _ := pcheck_ok ia oa sa il ic ol oc sl sc ins outs rg ss _ s (hP.below hb0) (cell_later hb0 hs) hF
  have HZ : Hid (w.cell? ⟨1, 0, none⟩ = some (errAt z)) := hz
  have k0 := cellAt HX0.out 0 _ rfl
  have k1 := cellAt HX0.out 1 _ rfl
  have k2 := cellAt HX0.out 2 _ rfl
  have k3 := cellAt HX0.out 3 _ rfl
  clear hP hs hF hb0 hz
  go_enter Tryd.func23, Tryd.ntmps23
  go_wp2_with fail
  refine Calls.mono HC.out ?_
  rintro e W ⟨rfl, hb1⟩
  have HW : Hid (Below w.heap.size w W) := HB0.out.trans (hb1.mono HB0.out.size)
  have z9 := cell_later HW.out HZ.out
  clear hb1 k0 k1 k2 k3 HC HB0 HX0
  by_cases h1 : h < 1
  · have n1 : decide (h < 1) = true := decide_eq_true h1
    clear hh h1
    go_wp2
    go_region
    go_wp2
    go_ret2
    exact ⟨rfl, HW.out.drew⟩
  · have n1 : decide (h < 1) = false := decide_eq_false h1
    have n2 : decide (64 < h) = true := decide_eq_true (by omega)
    clear hh h1
    go_wp2
    go_region
    go_wp2
    go_ret2
    exact ⟨rfl, HW.out.drew⟩
end Go.Proofs.YtanmgpgiepkogaaDoor

/- What Feed and Out of package exec answer. -/
namespace Go.Proofs.YtanmgpgiepkogaaDoor
open Go.RowKit Gf
set_option linter.unusedVariables false
set_option maxRecDepth 20000
set_option linter.unusedSimpArgs false
theorem own_kind {w w' : World} {B size n r : Nat} {v : Value} {e t : TypeId} {xs : List Value} {cs : Array Value} {fr : Nat × Nat} (ho : w.ownsRow B e size v n xs) (hk : w.heap[r]? = some (.cells cs t fr)) (hne : t ≠ e) (hg : w.grownBy w' (some r)) : w'.ownsRow B e size v n xs :=
  ho.kept hg (by
    rcases ho.2 with ⟨rfl, _⟩ | ⟨g, cap, cur, rfl, _, h, _⟩
    · exact .inl rfl
    · refine .inr fun e2 => ?_
      have e3 : g = r := by simpa [Value.ownBlock] using e2
      rw [e3, hk] at h
      cases h
      exact hne rfl)
variable {N B : Nat} {w : World} {mb Fd : Nat} {ia oa sa : Option Addr} {il ic ol oc sl sc rg h : Nat} {ins outs : List Int} {ss : List Stp} {fd : Nat → Option (Option Addr × Nat)} {X : Int → Nat → F} {ran : Bool} {ov : Value}
/-- a block of another kind turned, or another machine's -/
theorem MacW.grown {w' : World} {r : Nat} {cs : Array Value} {t : TypeId} {fr : Nat × Nat} (hm : MacW N B w mb Fd ia oa sa il ic ol oc sl sc rg h ins outs ss fd X ran ov) (hg : w.grownBy w' (some r)) (hk : w.heap[r]? = some (.cells cs t fr)) (h1 : t ≠ 3) (h2 : t ≠ 48) (h3 : t ≠ 5) (hr : r ≠ mb) (hf : r ≠ Fd) (hn : r < N) :
    MacW N B w' mb Fd ia oa sa il ic ol oc sl sc rg h ins outs ss fd X ran ov := by
  have hne : NoElems w (some r) := noElems_some hk h3
  refine { hm with blk := (hg.block mb (ltHeap hm.blk) (fun e => hr (Option.some.inj e).symm)).trans hm.blk, I := own_kind hm.I hk h1 hg, O := own_kind hm.O hk h1 hg, S := own_kind hm.S hk h2 hg, fed := (hg.block Fd (ltHeap hm.fed) (fun e => hf (Option.some.inj e).symm)).trans hm.fed, row := fun i hi p hp => ⟨row8T_grown (hm.row i hi p hp).1 hg hne, (hm.row i hi p hp).2⟩, out := fun hr2 => ?_ }
  obtain ⟨Q, g, q1, q2, q3, q4⟩ := hm.out hr2
  refine ⟨Q, g, q1, q2, (hg.block Q (ltHeap q3) (fun e => by have := Option.some.inj e; omega)).trans q3, fun d hd => ?_⟩
  obtain ⟨p, p1, p2, p3⟩ := q4 d hd
  exact ⟨p, p1, row8T_grown p2 hg hne, p3⟩
/-- an input fed -/
theorem MacW.feed {p q c : Nat} {xs : List F} (hm : MacW N B w mb Fd ia oa sa il ic ol oc sl sc rg h ins outs ss fd X ran ov) (hp : p < il) (hfp : fd p = none) (h8 : Has8 w q xs c) (hx : xs.length = h) :
    MacW N B (w.setCell ⟨Fd, p, none⟩ (.slice (some ⟨q, 0, none⟩) h c)) mb Fd ia oa sa il ic ol oc sl sc rg h ins outs ss (fun i => if i = p then some (some ⟨q, 0, none⟩, c) else fd i) (fun i => if i = (p : Int) then at8 xs else X i) ran ov := by
  have hg : w.grownBy (w.setCell ⟨Fd, p, none⟩ (.slice (some ⟨q, 0, none⟩) h c)) (some Fd) := grownBy_setCell (World.grownBy.refl _ _) _
  have hne : NoElems w (some Fd) := noElems_some hm.fed (by decide)
  have hmF : mb ≠ Fd := fun e => by
    have h1 := hm.blk
    rw [e, hm.fed] at h1
    injection h1 with h1
    injection h1 with h1 h2 h3
    exact absurd h2 (by decide)
  refine { hm with blk := (heap_setCell_other _ _ _ _ hmF).trans hm.blk, I := own_kind hm.I hm.fed (by decide) hg, O := own_kind hm.O hm.fed (by decide) hg, S := own_kind hm.S hm.fed (by decide) hg, fed := ?_, row := fun i hi p9 hp9 => ?_, all := fun hr => ?_, out := fun hr => ?_ }
  · rw [heap_setCell_same _ _ _ _ _ _ hm.fed, slO_set (some ⟨q, 0, none⟩, c) hp]
  · by_cases e : i = p
    · subst e
      simp only [if_true, Option.some.injEq] at hp9
      subst hp9
      simp only [if_true]
      have e8 : rowF h (at8 xs) = xs := (rowF_eq (by rw [hx]) fun j hj => rfl).symm
      rw [e8]
      refine ⟨row8T_grown (has8_U h8) hg hne, ?_, fun e => by cases e⟩
      obtain ⟨cur, _, _, hl, _⟩ := h8
      rw [← hx]; exact hl
    · simp only [e, if_false] at hp9
      rw [if_neg (show (i : Int) ≠ (p : Int) by omega)]
      exact ⟨row8T_grown (hm.row i hi p9 hp9).1 hg hne, (hm.row i hi p9 hp9).2⟩
  · have := hm.all hr p hp
    rw [hfp] at this
    cases this
  · have := hm.all hr p hp
    rw [hfp] at this
    cases this
theorem clone8_F9 (l cap : Nat) (bp : Addr) (xs : List F) (w : World) (hl : l = xs.length) (hl9 : l ≤ 140737488355328) (hX : Row8 w (some bp) xs) :
    Calls Tryd.prog 63 #[.slice (some bp) l cap] w fun e w' => ∃ q c, e = .returned (.slice (some ⟨q, 0, none⟩) l c) ∧ Has8 w' q xs c ∧ w.heap.size ≤ q ∧ Below w.heap.size w w' := clone8_A l cap bp xs w hl hl9 hX
set_option maxRecDepth 100000 in
set_option maxHeartbeats 8000000 in
theorem feed_ok (hm : MacW N B w mb Fd ia oa sa il ic ol oc sl sc rg h ins outs ss fd X ran ov) (half : Int) (p lb cb : Nat) (ba : Option Addr) (xs : List F) (hp : ins[p]? = some half) (hfp : fd p = none) (hlb : lb = xs.length) (hlh : lb = h) (hxs : Row8 w ba xs) :
    Calls Tryd.prog 35 #[.pointer (some ⟨mb, 0, none⟩), .int .i64 half, .slice ba lb cb] w fun e w' => ∃ q c, e = .returned .nilIface ∧
      MacW N B w' mb Fd ia oa sa il ic ol oc sl sc rg h ins outs ss (fun i => if i = p then some (some ⟨q, 0, none⟩, c) else fd i) (fun i => if i = (p : Int) then at8 xs else X i) ran ov ∧ w.grownBy w' (some Fd) := by
  obtain ⟨hil, hol, hrg, hsl⟩ := hm.sizes
  have hp9 := hm.prg
  have q23 := fun (w : World) (a : Option Addr) (l c : Nat) => run_neq_slice_nil (P := Tryd.prog) w 31 5 a l c Tryd.underlying31
  have hpl : p < il := by rw [hp9.eil]; exact (List.getElem?_eq_some_iff.1 hp).1
  have hl64 : lb ≤ 64 := by have := hm.h64; omega
  obtain ⟨bp, hbp⟩ : ∃ bp, ba = some bp := by
    rcases hxs with e | ⟨b, off, e, _⟩
    · have := hm.h1
      rw [e] at hlb
      simp at hlb
      omega
    · exact ⟨_, e⟩
  subst hbp
  have HXS : Hid (Row8 w (some bp) xs) := hxs
  have HM : Hid (MacW N B w mb Fd ia oa sa il ic ol oc sl sc rg h ins outs ss fd X ran ov) := hm
  have HC : Hid _ := index_at il ic ia ins half p w hp9.eil (by omega) hp9.I hp (good_at hm.frm.1 half)
  have HLB : Hid (lb = xs.length) := hlb
  have HFP : Hid (fd p = none) := hfp
  have k0 := cellAt hm.blk 0 _ rfl
  have k4 := cellAt hm.blk 4 _ rfl
  have k5 := cellAt hm.blk 5 _ rfl
  have k6 := cellAt hm.fed p _ (slO_at hpl)
  rw [svO, hfp] at k6
  simp only at k6
  have HK5 : Hid (∀ u, w.grownBy u (some Fd) → u.cell? ⟨mb, 5, none⟩ = some (.slice (some ⟨Fd, 0, none⟩) il il)) := fun u hu => by
    have hne : mb ≠ Fd := fun e => by
      have h1 := HM.out.blk
      rw [e, HM.out.fed] at h1
      injection h1 with h1
      injection h1 with h1 h2 h3
      exact absurd h2 (by decide)
    exact cell_grown9 hu (cellAt HM.out.blk 5 _ rfl) hne
  subst hlh
  clear hm hp9 hp hfp hlb hxs
  go_enter Tryd.func35, Tryd.ntmps35
  go_wp2_with fail
  refine Calls.mono HC.out ?_
  rintro e w1 ⟨rfl, rfl⟩
  go_upto_region 8 with fail
  clear k0 k4 k5 k6
  refine wp_region_noPanic ?_
  refine wp_region_held_drew (S := fun u => w.grownBy u (some Fd)) (by kernel_rfl) ?_ (fun hHeld => ?_)
  · exact grownBy_drew (World.grownBy.refl _ _)
  refine wpAnyH_take (i := 0) (oi := { dst := some 35, op := Op.move (Operand.tmp 0), type := 54, pos := "exec.go:64", after := #[], guard := none }) (v := ?_) rfl (by kernel_rfl) (by kernel_rfl) (by kernel_rfl) (fun _ _ _ h => h) (Or.inl ⟨by rfl, ?_⟩) hHeld ?_
  rotate_left
  · intro u hSw
    go_simp
    try with_reducible rfl
  try simp only [Act.put, List.setIfInBounds_toArray, List.set_cons_zero, List.set_cons_succ]
  refine wpAnyH_take (i := 1) (oi := { dst := some 36, op := Op.nilCheck (Operand.tmp 35), type := 0, pos := "exec.go:64", after := #[{ on := 0, ground := Ground.data }], guard := none }) (v := ?_) rfl (by kernel_rfl) (by kernel_rfl) (by kernel_rfl) (fun _ _ _ h => h) (Or.inl ⟨by rfl, ?_⟩) hHeld ?_
  rotate_left
  · intro u hSw
    go_simp
    try with_reducible rfl
  try simp only [Act.put, List.setIfInBounds_toArray, List.set_cons_zero, List.set_cons_succ]
  refine wpAnyH_take (i := 2) (oi := { dst := some 37, op := Op.fieldAddr 105 (Operand.tmp 36) 2, type := 0, pos := "exec.go:64", after := #[{ on := 1, ground := Ground.data }], guard := none }) (v := ?_) rfl (by kernel_rfl) (by kernel_rfl) (by kernel_rfl) (fun _ _ _ h => h) (Or.inl ⟨by rfl, ?_⟩) hHeld ?_
  rotate_left
  · intro u hSw
    go_simp
    try with_reducible rfl
  try simp only [Act.put, List.setIfInBounds_toArray, List.set_cons_zero, List.set_cons_succ]
  refine wpAnyH_take (i := 3) (oi := { dst := some 38, op := Op.load 67 (Operand.tmp 37), type := 67, pos := "exec.go:64", after := #[{ on := 2, ground := Ground.data }], guard := none }) (v := ?_) rfl (by kernel_rfl) (by kernel_rfl) (by kernel_rfl) (fun _ _ _ h => h) (Or.inl ⟨by rfl, ?_⟩) hHeld ?_
  rotate_left
  · intro u hSw
    have k9 := HK5.out u hSw
    go_simp
    try with_reducible rfl
  try simp only [Act.put, List.setIfInBounds_toArray, List.set_cons_zero, List.set_cons_succ]
  refine wpAnyH_take (i := 4) (oi := { dst := some 39, op := Op.move (Operand.tmp 7), type := 3, pos := "exec.go:64", after := #[], guard := none }) (v := ?_) rfl (by kernel_rfl) (by kernel_rfl) (by kernel_rfl) (fun _ _ _ h => h) (Or.inl ⟨by rfl, ?_⟩) hHeld ?_
  rotate_left
  · intro u hSw
    go_simp
    try with_reducible rfl
  try simp only [Act.put, List.setIfInBounds_toArray, List.set_cons_zero, List.set_cons_succ]
  refine wpAnyH_take (i := 5) (oi := { dst := some 40, op := Op.move (Operand.tmp 2), type := 31, pos := "exec.go:64", after := #[], guard := none }) (v := ?_) rfl (by kernel_rfl) (by kernel_rfl) (by kernel_rfl) (fun _ _ _ h => h) (Or.inl ⟨by rfl, ?_⟩) hHeld ?_
  rotate_left
  · intro u hSw
    go_simp
    try with_reducible rfl
  try simp only [Act.put, List.setIfInBounds_toArray, List.set_cons_zero, List.set_cons_succ]
  refine wpAnyH_ready (rs := [6]) (by kernel_rfl) (by simp) ?_
  refine (AllReadyH.cons (o := { dst := some 41, op := Op.call { callee := Callee.value (Operand.func 63), args := #[Operand.tmp 40], argTypes := #[31] }, type := 31, pos := "exec.go:64", after := #[{ on := 5, ground := Ground.data }], guard := none }) rfl (fun K hK => ?_) AllReadyH.nil)
  go_simp
  refine Calls.mono (clone8_F9 lb cb bp xs _ HLB.out (by omega) (row8_below HXS.out (Below.drew (Below.refl _ w)))) ?_
  rintro e V ⟨q, c, rfl, h8, hq, hv⟩
  have bV : Below w.heap.size w V := (Below.drew (Below.refl _ w)).trans hv
  have gV : w.grownBy V (some Fd) := grown_below (grownBy_drew (World.grownBy.refl _ _)) hv
  go_wp2_with fail
  refine hK.out _ _ ?_ (fun hHeld => ?_)
  · exact gV
  clear hK K
  try simp only [Act.put, List.setIfInBounds_toArray, List.set_cons_zero, List.set_cons_succ]
  refine wpAnyH_take (i := 7) (oi := { dst := some 42, op := Op.indexAddr 67 (Operand.tmp 38) (Operand.tmp 39), type := 0, pos := "exec.go:64", after := #[{ on := 3, ground := Ground.data }, { on := 4, ground := Ground.data }, { on := 0, ground := Ground.phase }, { on := 1, ground := Ground.phase }, { on := 2, ground := Ground.phase }, { on := 3, ground := Ground.phase }, { on := 4, ground := Ground.phase }, { on := 5, ground := Ground.phase }, { on := 6, ground := Ground.phase }], guard := none }) (v := ?_) rfl (by kernel_rfl) (by kernel_rfl) (by kernel_rfl) (fun _ _ _ h => h) (Or.inl ⟨by rfl, ?_⟩) hHeld ?_
  rotate_left
  · intro u hSw
    go_simp
    try with_reducible rfl
  try simp only [Act.put, List.setIfInBounds_toArray, List.set_cons_zero, List.set_cons_succ]
  refine wpAnyH_ready (rs := [8]) (by kernel_rfl) (by simp) ?_
  refine (AllReadyH.cons (o := { dst := none, op := Op.store 31 (Operand.tmp 42) (Operand.tmp 41), type := 0, pos := "exec.go:64", after := #[{ on := 7, ground := Ground.data }, { on := 6, ground := Ground.data }, { on := 6, ground := Ground.chain }, { on := 0, ground := Ground.phase }, { on := 1, ground := Ground.phase }, { on := 2, ground := Ground.phase }, { on := 3, ground := Ground.phase }, { on := 4, ground := Ground.phase }, { on := 5, ground := Ground.phase }, { on := 6, ground := Ground.phase }], guard := none }) rfl (fun K hK => ?_) AllReadyH.nil)
  have hmv := HM.out.below bV
  have q0 := cellAt hmv.fed p _ (slO_at hpl)
  have q1 : V.frozen? ⟨Fd, p, none⟩ = false := frozen_of_row _ _ _ _ _ hmv.fed
  go_simp
  refine hK.out _ _ ?_ (fun hHeld => ?_)
  · exact grownBy_setCell gV _
  clear hK K
  try simp only [Act.put, List.setIfInBounds_toArray, List.set_cons_zero, List.set_cons_succ]
  refine wpAnyH_done (by kernel_rfl) ?_ _
  refine NoPanic.normal ?_
  obtain ⟨Z, hZ⟩ : ∃ Z, Z = V.setCell ⟨Fd, p, none⟩ (.slice (some ⟨q, 0, none⟩) lb c) := ⟨_, rfl⟩
  have HMZ : Hid _ := hmv.feed hpl HFP.out h8 HLB.out.symm
  have HGZ : Hid (w.grownBy Z (some Fd)) := by show World.grownBy ..; rw [hZ]; exact grownBy_setCell gV _
  rw [← hZ] at HMZ ⊢
  clear hZ q0 q1 hmv h8
  go_wp2
  go_ret
  exact ⟨q, c, rfl, HMZ.out, HGZ.out⟩
set_option maxHeartbeats 4000000 in
/-- Feed of a half that is no input -/
theorem feed_half (hm : MacW N B w mb Fd ia oa sa il ic ol oc sl sc rg h ins outs ss fd X ran ov) (half : Int) (v : Value) (s : Addr) (hs : w.cell? ⟨6, 0, none⟩ = some (errAt s)) (hp : half ∉ ins) :
    Calls Tryd.prog 35 #[.pointer (some ⟨mb, 0, none⟩), .int .i64 half, v] w fun e w' => e = .returned (errAt s) ∧ Below w.heap.size w w' := by
  obtain ⟨hil, hol, hrg, hsl⟩ := hm.sizes
  have hp9 := hm.prg
  have HC : Hid _ := index_no il ic ia ins half w hp9.eil (by omega) hp9.I hp
  have HS : Hid (w.cell? ⟨6, 0, none⟩ = some (errAt s)) := hs
  have k0 := cellAt hm.blk 0 _ rfl
  clear hm hp9 hp hs
  go_enter Tryd.func35, Tryd.ntmps35
  go_wp2_with fail
  refine Calls.mono HC.out ?_
  rintro e w1 ⟨rfl, rfl⟩
  have k9 := HS.out
  clear k0
  go_wp2
  go_ret
  exact ⟨rfl, Below.refl _ _⟩
set_option maxHeartbeats 4000000 in
/-- Feed of an input that is there -/
theorem feed_there (hm : MacW N B w mb Fd ia oa sa il ic ol oc sl sc rg h ins outs ss fd X ran ov) (half : Int) (p : Nat) (v : Value) (s : Addr) (hs : w.cell? ⟨8, 0, none⟩ = some (errAt s)) (hp : ins[p]? = some half) (hfp : (fd p).isSome = true) :
    Calls Tryd.prog 35 #[.pointer (some ⟨mb, 0, none⟩), .int .i64 half, v] w fun e w' => e = .returned (errAt s) ∧ Below w.heap.size w w' := by
  obtain ⟨hil, hol, hrg, hsl⟩ := hm.sizes
  have hp9 := hm.prg
  have q23 := fun (w : World) (a : Option Addr) (l c : Nat) => run_neq_slice_nil (P := Tryd.prog) w 31 5 a l c Tryd.underlying31
  have hpl : p < il := by rw [hp9.eil]; exact (List.getElem?_eq_some_iff.1 hp).1
  have HC : Hid _ := index_at il ic ia ins half p w hp9.eil (by omega) hp9.I hp (good_at hm.frm.1 half)
  have HS : Hid (w.cell? ⟨8, 0, none⟩ = some (errAt s)) := hs
  obtain ⟨q, hq⟩ := Option.isSome_iff_exists.1 hfp
  obtain ⟨b9, o9, hp8⟩ := row8T_some hm.h1 (hm.row p hpl q hq).1
  have k0 := cellAt hm.blk 0 _ rfl
  have k5 := cellAt hm.blk 5 _ rfl
  have k6 := cellAt hm.fed p _ (slO_at hpl)
  rw [svO, hq] at k6
  simp only at k6
  rw [hp8] at k6
  clear hm hp9 hp hs hq hp8 hfp
  go_enter Tryd.func35, Tryd.ntmps35
  go_wp2_with fail
  refine Calls.mono HC.out ?_
  rintro e w1 ⟨rfl, rfl⟩
  have k9 := HS.out
  go_wp2
  go_ret
  exact ⟨rfl, Below.refl _ _⟩
set_option maxHeartbeats 4000000 in
/-- Feed of bytes of another size -/
theorem feed_data (hm : MacW N B w mb Fd ia oa sa il ic ol oc sl sc rg h ins outs ss fd X ran ov) (half : Int) (p lb cb : Nat) (ba : Option Addr) (s : Addr) (hs : w.cell? ⟨2, 0, none⟩ = some (errAt s)) (hp : ins[p]? = some half) (hfp : fd p = none) (hl : lb ≠ h) (hl9 : lb ≤ 4611686018427387904) :
    Calls Tryd.prog 35 #[.pointer (some ⟨mb, 0, none⟩), .int .i64 half, .slice ba lb cb] w fun e w' => e = .returned (errAt s) ∧ Below w.heap.size w w' := by
  obtain ⟨hil, hol, hrg, hsl⟩ := hm.sizes
  have hp9 := hm.prg
  have q23 := fun (w : World) (a : Option Addr) (l c : Nat) => run_neq_slice_nil (P := Tryd.prog) w 31 5 a l c Tryd.underlying31
  have hpl : p < il := by rw [hp9.eil]; exact (List.getElem?_eq_some_iff.1 hp).1
  have HC : Hid _ := index_at il ic ia ins half p w hp9.eil (by omega) hp9.I hp (good_at hm.frm.1 half)
  have HS : Hid (w.cell? ⟨2, 0, none⟩ = some (errAt s)) := hs
  have k0 := cellAt hm.blk 0 _ rfl
  have k4 := cellAt hm.blk 4 _ rfl
  have k5 := cellAt hm.blk 5 _ rfl
  have k6 := cellAt hm.fed p _ (slO_at hpl)
  rw [svO, hfp] at k6
  simp only at k6
  have e4 : ((lb : Int) == (h : Int)) = false := beq_eq_false_iff_ne.2 (by omega)
  clear hm hp9 hp hs hfp hl
  go_enter Tryd.func35, Tryd.ntmps35
  go_wp2_with fail
  refine Calls.mono HC.out ?_
  rintro e w1 ⟨rfl, rfl⟩
  have k9 := HS.out
  go_wp2
  go_ret
  exact ⟨rfl, Below.refl _ _⟩
set_option maxHeartbeats 4000000 in
/-- Out of a half that is no output -/
theorem out_half (hm : MacW N B w mb Fd ia oa sa il ic ol oc sl sc rg h ins outs ss fd X ran ov) (half : Int) (s : Addr) (hs : w.cell? ⟨6, 0, none⟩ = some (errAt s)) (hp : half ∉ outs) :
    Calls Tryd.prog 37 #[.pointer (some ⟨mb, 0, none⟩), .int .i64 half] w fun e w' => e = .returned (.tuple #[.slice none 0 0, errAt s]) ∧ Below w.heap.size w w' := by
  obtain ⟨hil, hol, hrg, hsl⟩ := hm.sizes
  have hp9 := hm.prg
  have HC : Hid _ := index_no ol oc oa outs half w hp9.eol (by omega) hp9.O hp
  have HS : Hid (w.cell? ⟨6, 0, none⟩ = some (errAt s)) := hs
  have k0 := cellAt hm.blk 1 _ rfl
  clear hm hp9 hp hs
  go_enter Tryd.func37, Tryd.ntmps37
  go_wp2_with fail
  refine Calls.mono HC.out ?_
  rintro e w1 ⟨rfl, rfl⟩
  have k9 := HS.out
  clear k0
  go_wp2
  go_region
  go_wp2
  go_ret2
  exact ⟨rfl, (Below.refl _ _).drew⟩
set_option maxHeartbeats 4000000 in
/-- Out ahead of Run -/
theorem out_empty (hm : MacW N B w mb Fd ia oa sa il ic ol oc sl sc rg h ins outs ss fd X false ov) (half : Int) (p : Nat) (s : Addr) (hs : w.cell? ⟨9, 0, none⟩ = some (errAt s)) (hp : outs[p]? = some half) :
    Calls Tryd.prog 37 #[.pointer (some ⟨mb, 0, none⟩), .int .i64 half] w fun e w' => e = .returned (.tuple #[.slice none 0 0, errAt s]) ∧ Below w.heap.size w w' := by
  obtain ⟨hil, hol, hrg, hsl⟩ := hm.sizes
  have hp9 := hm.prg
  have HC : Hid _ := index_at ol oc oa outs half p w hp9.eol (by omega) hp9.O hp (good_at hm.frm.2.1 half)
  have HS : Hid (w.cell? ⟨9, 0, none⟩ = some (errAt s)) := hs
  have k0 := cellAt hm.blk 1 _ rfl
  have k6 := cellAt hm.blk 6 _ rfl
  clear hm hp9 hp hs
  go_enter Tryd.func37, Tryd.ntmps37
  go_wp2_with fail
  refine Calls.mono HC.out ?_
  rintro e w1 ⟨rfl, rfl⟩
  have k9 := HS.out
  clear k0
  go_wp2
  go_region
  go_wp2
  go_ret2
  exact ⟨rfl, (Below.refl _ _).drew⟩
set_option maxHeartbeats 4000000 in
/-- Out behind Run -/
theorem out_ok (hm : MacW N B w mb Fd ia oa sa il ic ol oc sl sc rg h ins outs ss fd X true ov) (half : Int) (p : Nat) (hp : outs[p]? = some half) :
    Calls Tryd.prog 37 #[.pointer (some ⟨mb, 0, none⟩), .int .i64 half] w fun e w' => ∃ q c, e = .returned (.tuple #[.slice (some ⟨q, 0, none⟩) h c, .nilIface]) ∧ Has8 w' q (rowF h (runO X ss noR noR (p : Int))) c ∧ w.heap.size ≤ q ∧ Below w.heap.size w w' := by
  obtain ⟨hil, hol, hrg, hsl⟩ := hm.sizes
  have hp9 := hm.prg
  have hpl : p < ol := by rw [hp9.eol]; exact (List.getElem?_eq_some_iff.1 hp).1
  have HC : Hid _ := index_at ol oc oa outs half p w hp9.eol (by omega) hp9.O hp (good_at hm.frm.2.1 half)
  have k0 := cellAt hm.blk 1 _ rfl
  have k6 := cellAt hm.blk 6 _ rfl
  have k8 := cellAt hm.blk 8 _ rfl
  obtain ⟨Q, g, rfl, hQ, hq, hrow⟩ := hm.out rfl
  obtain ⟨r, hr1, hr2, hr3⟩ := hrow p hpl
  obtain ⟨b9, o9, hp8⟩ := row8T_some hm.h1 hr2
  have k7 := cellAt hq p _ (slO_at hpl)
  rw [svO, hr1] at k7
  simp only at k7
  rw [hp8] at k7 hr2
  have HR : Hid (Row8 w (some ⟨b9, o9, none⟩) (rowF h (runO X ss noR noR (p : Int)))) := hr2.row8
  have h64 : h ≤ 64 := hm.h64
  clear hm hp9 hp hQ hq hrow hr1 hr2 hr3 hp8
  go_enter Tryd.func37, Tryd.ntmps37
  go_wp2_with fail
  refine Calls.mono HC.out ?_
  rintro e w1 ⟨rfl, rfl⟩
  clear k0
  go_wp2_with fail
  refine Calls.mono (clone8_A h _ ⟨b9, o9, none⟩ (rowF h (runO X ss noR noR (p : Int))) _ (rowF_len _ _).symm (by omega) HR.out) ?_
  rintro e w2 ⟨q, c, rfl, h8, hq, hb⟩
  have H8 : Hid _ := h8
  have HQ : Hid _ := hq
  have HB : Hid _ := hb
  clear h8 hq hb k6 k7 k8
  go_wp2
  go_ret2
  exact ⟨q, c, rfl, H8.out, HQ.out, HB.out⟩
end Go.Proofs.YtanmgpgiepkogaaDoor

/- What Run of package exec does. -/
namespace Go.Proofs.YtanmgpgiepkogaaDoor
open Go.RowKit Gf
set_option linter.unusedVariables false
set_option maxRecDepth 20000
set_option linter.unusedSimpArgs false
theorem grown_low {W Y Z : World} {r : Nat} (h : W.grownBy Y (some r)) (hb : Below W.heap.size Y Z) : W.grownBy Z (some r) :=
  ⟨hb.os.trans h.os, hb.tape.trans h.tape, hb.output.trans h.output, Nat.le_trans h.size hb.size, fun k hk hne => (hb.block k hk).trans (h.block k hk hne)⟩
/-- a machine while its registers are laid -/
structure IniX (B : Nat) (w : World) (cb M Q Fd n rg no il : Nat) (v0 v1 v2 v3 v6 : Value) (fd : Nat → Option (Option Addr × Nat)) (X : Int → Nat → F) (k : Nat) (g : Nat → Option (Option Addr × Nat)) : Prop where
  blk : w.heap[cb]? = some (.cells #[v0, v1, v2, v3, .int .i64 n, .slice (some ⟨Fd, 0, none⟩) il il, v6, .slice (some ⟨M, 0, none⟩) rg rg, .slice (some ⟨Q, 0, none⟩) no no] 105 (0, 0))
  regs : w.heap[M]? = some (.cells (slO rg n g) 31 (0, 0))
  outs : w.heap[Q]? = some (.cells (slO no n (fun _ => none)) 31 (0, 0))
  row : ∀ x, x < k → ∃ p, g x = some p ∧ Row8T w p.1 (rowF n (fun _ => 0)) ∧ n ≤ p.2 ∧ (p.1 = none → p.2 = 0)
  fed : w.heap[Fd]? = some (.cells (slO il n fd) 31 (0, 0))
  frow : ∀ i, i < il → ∃ p, fd i = some p ∧ Row8T w p.1 (rowF n (X (i : Int))) ∧ n ≤ p.2 ∧ (p.1 = none → p.2 = 0)
  hM : B ≤ M
  hQ : B ≤ Q
  hMQ : M ≠ Q
  hcM : cb ≠ M
  hcQ : cb ≠ Q
  hFM : Fd ≠ M
  hFQ : Fd ≠ Q
section
variable {B cb M Q Fd n rg no il k : Nat} {v0 v1 v2 v3 v6 : Value} {fd : Nat → Option (Option Addr × Nat)} {X : Int → Nat → F} {g : Nat → Option (Option Addr × Nat)} {w : World}
theorem IniX.below {w' : World} (h : IniX B w cb M Q Fd n rg no il v0 v1 v2 v3 v6 fd X k g) (hb : Below w.heap.size w w') : IniX B w' cb M Q Fd n rg no il v0 v1 v2 v3 v6 fd X k g :=
  { h with blk := heap_later h.blk hb, regs := heap_later h.regs hb, outs := heap_later h.outs hb, row := fun x hx => by obtain ⟨p, h1, h2, h3⟩ := h.row x hx; exact ⟨p, h1, row8T_below h2 hb, h3⟩, fed := heap_later h.fed hb, frow := fun i hi => by obtain ⟨p, h1, h2, h3⟩ := h.frow i hi; exact ⟨p, h1, row8T_below h2 hb, h3⟩ }
theorem IniX.drew (h : IniX B w cb M Q Fd n rg no il v0 v1 v2 v3 v6 fd X k g) : IniX B w.drew cb M Q Fd n rg no il v0 v1 v2 v3 v6 fd X k g :=
  { h with blk := h.blk, regs := h.regs, outs := h.outs, row := h.row, fed := h.fed, frow := h.frow }
theorem IniX.put (h : IniX B w cb M Q Fd n rg no il v0 v1 v2 v3 v6 fd X k g) (hk : k < rg) {a : Option Addr} {m : Nat} (ha : Row8T w a (rowF n (fun _ => 0))) (hm : n ≤ m) (hn : a = none → m = 0) :
    IniX B (w.setCell ⟨M, k, none⟩ (.slice a n m)) cb M Q Fd n rg no il v0 v1 v2 v3 v6 fd X (k + 1) (fun x => if x = k then some (a, m) else g x) := by
  have hg : w.grownBy (w.setCell ⟨M, k, none⟩ (.slice a n m)) (some M) := grownBy_setCell (World.grownBy.refl _ _) _
  have hne : NoElems w (some M) := noElems_some h.regs (by decide)
  refine { h with blk := ?_, regs := ?_, outs := ?_, row := fun x hx => ?_, fed := ?_, frow := fun i hi => ?_ }
  · exact (heap_setCell_other _ _ _ _ h.hcM).trans h.blk
  · rw [heap_setCell_same _ _ _ _ _ _ h.regs, slO_set (a, m) hk]
  · exact (heap_setCell_other _ _ _ _ (fun e => h.hMQ e.symm)).trans h.outs
  · by_cases e : x = k
    · exact ⟨(a, m), by simp [e], row8T_grown ha hg hne, hm, hn⟩
    · obtain ⟨p, h1, h2, h3⟩ := h.row x (by omega)
      exact ⟨p, by simp [e, h1], row8T_grown h2 hg hne, h3⟩
  · exact (heap_setCell_other _ _ _ _ h.hFM).trans h.fed
  · obtain ⟨p, h1, h2, h3⟩ := h.frow i hi
    exact ⟨p, h1, row8T_grown h2 hg hne, h3⟩
theorem IniX.done (h : IniX B w cb M Q Fd n rg no il v0 v1 v2 v3 v6 fd X rg g) : RnW B w cb M Q Fd n rg no il v0 v1 v2 v3 v6 fd X (fun x => (g x).getD (none, 0)) (fun _ => none) noR noR := by
  refine { h with blk := h.blk, regs := ⟨?_, fun x hx => ?_, fun x hx => ?_, fun x hx => ?_⟩, outs := h.outs, out := fun d hd p hp => by cases hp }
  · rw [h.regs]
    congr 2
    apply Array.ext_getElem?
    intro i
    by_cases hi : i < rg
    · obtain ⟨p, h1, _⟩ := h.row i hi
      rw [slO_at hi, slF_at hi, svO, h1]; rfl
    · rw [Array.getElem?_eq_none (by rw [slO_size]; omega), Array.getElem?_eq_none (by rw [slF_size]; omega)]
  · obtain ⟨p, h1, h2, h3⟩ := h.row x hx
    simp only [h1, Option.getD_some]; exact h2
  · obtain ⟨p, h1, h2, h3⟩ := h.row x hx
    simp only [h1, Option.getD_some]; exact h3.1
  · obtain ⟨p, h1, h2, h3⟩ := h.row x hx
    simp only [h1, Option.getD_some]; exact h3.2
end
def doM (op : Int) : Nat := if op = 1 then 79 else if op = 2 then 80 else if op = 3 then 81 else if op = 4 then 82 else 83
/-- what a step does, whichever it is -/
theorem xdoes_F (B cb M Q Fd n rg no il : Nat) (v0 v1 v2 v3 v6 : Value) (fd : Nat → Option (Option Addr × Nat)) (X : Int → Nat → F) (f : Nat → Option Addr × Nat) (g : Nat → Option (Option Addr × Nat)) (R O : Regs) (s : Stp) (m : Nat) (w : World) (hn : n ≤ 64) (hrg : rg ≤ 64) (hno : no ≤ 64) (hBw : B ≤ w.heap.size) (h : RnW B w cb M Q Fd n rg no il v0 v1 v2 v3 v6 fd X f g R O)
    (hok : OkS il no rg s) (hm : m = doM s.op) :
    Calls Tryd.prog m #[.pointer (some ⟨cb, 0, none⟩), .agg #[.int .i64 s.op, .int .i64 s.dst, .int .i64 s.src, .int .u8 (s.c.toNat : Int)]] w fun e w' => e = .returned (.tuple #[]) ∧ (∃ f' g', RnW B w' cb M Q Fd n rg no il v0 v1 v2 v3 v6 fd X f' g' (doR X s R) (doO s R O) ∧ ∀ d, (g' d).isSome = ((g d).isSome || (s.op == 5 && s.dst == (d : Int)))) ∧ Below B w w' ∧ (∀ (k : Nat) (o : Obj), k ≠ M → k ≠ Q → w.heap[k]? = some o → w'.heap[k]? = some o) := by
  obtain ⟨op, dst, src, c⟩ := s
  unfold OkS at hok
  simp only at hok hm ⊢
  rcases hok with ⟨rfl, h1, h2, h3⟩ | ⟨rfl, h1, h2, h3⟩ | ⟨rfl, h1, h2⟩ | ⟨rfl, h1, h2⟩ | ⟨rfl, h1, h2, h3⟩
  · obtain ⟨dst, rfl⟩ := Int.eq_ofNat_of_zero_le h1.1
    obtain ⟨src, rfl⟩ := Int.eq_ofNat_of_zero_le h2.1
    subst hm
    exact (xdoes_load B cb M Q Fd n rg no il v0 v1 v2 v3 v6 fd X f g R O 1 dst src c.toNat (by omega) (by omega) w hn hrg hno hBw h).mono fun e w' ⟨a, ⟨f', g', k, hg⟩, b⟩ => ⟨a, ⟨f', g', k, fun d => by rw [hg]; simp⟩, b⟩
  · obtain ⟨dst, rfl⟩ := Int.eq_ofNat_of_zero_le h1.1
    subst hm
    exact (xdoes_zero B cb M Q Fd n rg no il v0 v1 v2 v3 v6 fd X f g R O 2 dst src c.toNat (by omega) w hn hrg hno hBw h).mono fun e w' ⟨a, ⟨f', g', k, hg⟩, b⟩ => ⟨a, ⟨f', g', k, fun d => by rw [hg]; simp⟩, b⟩
  · obtain ⟨dst, rfl⟩ := Int.eq_ofNat_of_zero_le h1.1
    subst hm
    exact (xdoes_mul B cb M Q Fd n rg no il v0 v1 v2 v3 v6 fd X f g R O 3 dst src c (by omega) w hn hrg hno hBw h).mono fun e w' ⟨a, ⟨f', g', k, hg⟩, b⟩ => ⟨a, ⟨f', g', k, fun d => by rw [hg]; simp⟩, b⟩
  · obtain ⟨dst, rfl⟩ := Int.eq_ofNat_of_zero_le h1.1
    obtain ⟨src, rfl⟩ := Int.eq_ofNat_of_zero_le h2.1
    subst hm
    exact (xdoes_add B cb M Q Fd n rg no il v0 v1 v2 v3 v6 fd X f g R O 4 dst src c (by omega) (by omega) w hn hrg hno hBw h).mono fun e w' ⟨a, ⟨f', g', k, hg⟩, b⟩ => ⟨a, ⟨f', g', k, fun d => by rw [hg]; simp⟩, b⟩
  · obtain ⟨dst, rfl⟩ := Int.eq_ofNat_of_zero_le h1.1
    obtain ⟨src, rfl⟩ := Int.eq_ofNat_of_zero_le h2.1
    subst hm
    exact (xdoes_out B cb M Q Fd n rg no il v0 v1 v2 v3 v6 fd X f g R O 5 dst src c.toNat (by omega) (by omega) w hn hrg hno hBw h).mono fun e w' ⟨a, ⟨f', g', k, hg⟩, b⟩ => ⟨a, ⟨f', g', k, fun d => by
      rw [hg]
      by_cases e : d = dst
      · subst e; simp
      · simp [e, show ¬ (dst : Int) = (d : Int) by omega]⟩, b⟩
theorem opsE_at (cb : Nat) {op : Int} (h : 1 ≤ op ∧ op ≤ 5) : (opsE cb)[op.toNat]? = some (.func (.func (doM op)) #[opP cb] #[]) := by
  have : op = 1 ∨ op = 2 ∨ op = 3 ∨ op = 4 ∨ op = 5 := by omega
  rcases this with rfl | rfl | rfl | rfl | rfl <;> rfl
theorem doM_enter {op : Int} (h : 1 ≤ op ∧ op ≤ 5) : ∀ args w, (callFunc (doM op) args).run Tryd.prog w = .ok (.enter (doM op) args) w := by
  have : op = 1 ∨ op = 2 ∨ op = 3 ∨ op = 4 ∨ op = 5 := by omega
  rcases this with rfl | rfl | rfl | rfl | rfl
  · exact enters_of Tryd.func79 (by kernel_rfl) rfl
  · exact enters_of Tryd.func80 (by kernel_rfl) rfl
  · exact enters_of Tryd.func81 (by kernel_rfl) rfl
  · exact enters_of Tryd.func82 (by kernel_rfl) rfl
  · exact enters_of Tryd.func83 (by kernel_rfl) rfl
variable {N B : Nat} {w : World} {mb Fd : Nat} {ia oa sa : Option Addr} {il ic ol oc sl sc rg h : Nat} {ins outs : List Int} {ss : List Stp} {fd : Nat → Option (Option Addr × Nat)} {X : Int → Nat → F} {ran : Bool} {ov : Value}
theorem MacW.ne (hm : MacW N B w mb Fd ia oa sa il ic ol oc sl sc rg h ins outs ss fd X ran ov) : mb ≠ Fd := fun e => by
  have h1 := hm.blk
  rw [e, hm.fed] at h1
  injection h1 with h1
  injection h1 with h1 h2 h3
  exact absurd h2 (by decide)
theorem MacW.done {Z : World} {Q : Nat} {g : Nat → Option (Option Addr × Nat)} (hm : MacW N B w mb Fd ia oa sa il ic ol oc sl sc rg h ins outs ss fd X ran ov) (hall : ∀ i, i < il → (fd i).isSome = true) (hg : w.grownBy Z (some mb))
    (hk : Z.heap[mb]? = some (.cells #[.slice ia il ic, .slice oa ol oc, .int .i64 rg, .slice sa sl sc, .int .i64 h, .slice (some ⟨Fd, 0, none⟩) il il, .bool true, .slice none 0 0, .slice (some ⟨Q, 0, none⟩) ol ol] 105 (0, 0)))
    (hQ : N ≤ Q) (hq : Z.heap[Q]? = some (.cells (slO ol h g) 31 (0, 0))) (hr : ∀ d, d < ol → ∃ p, g d = some p ∧ Row8T Z p.1 (rowF h (runO X ss noR noR (d : Int))) ∧ h ≤ p.2) :
    MacW N B Z mb Fd ia oa sa il ic ol oc sl sc rg h ins outs ss fd X true (.slice (some ⟨Q, 0, none⟩) ol ol) := by
  have hne : NoElems w (some mb) := noElems_some hm.blk (by decide)
  exact { hm with blk := hk, I := own_kind hm.I hm.blk (by decide) hg, O := own_kind hm.O hm.blk (by decide) hg, S := own_kind hm.S hm.blk (by decide) hg, fed := (hg.block Fd (ltHeap hm.fed) (fun e => hm.ne (Option.some.inj e).symm)).trans hm.fed, row := fun i hi p hp => ⟨row8T_grown (hm.row i hi p hp).1 hg hne, (hm.row i hi p hp).2⟩, all := fun _ => hall, out := fun _ => ⟨Q, g, rfl, hQ, hq, hr⟩ }
set_option maxHeartbeats 4000000 in
/-- Run while inputs are missing -/
theorem run_empty (hm : MacW N B w mb Fd ia oa sa il ic ol oc sl sc rg h ins outs ss fd X ran ov) (i : Nat) (hi : i < il) (hfi : fd i = none) (s : Addr) (hs : w.cell? ⟨9, 0, none⟩ = some (errAt s)) :
    Calls Tryd.prog 36 #[.pointer (some ⟨mb, 0, none⟩)] w fun e w' => e = .returned (errAt s) ∧ Below w.heap.size w w' := by
  have hne := unfed_some (ins := ins) (fb := fun i => (fd i).isSome) hi (by simp [hfi])
  have HS : Hid (w.cell? ⟨9, 0, none⟩ = some (errAt s)) := hs
  have HM : Hid (MacW N B w mb Fd ia oa sa il ic ol oc sl sc rg h ins outs ss fd X ran ov) := hm
  have HNE : Hid (unfed ins (fun i => (fd i).isSome) il ≠ []) := hne
  have h9 : (unfed ins (fun i => (fd i).isSome) il).length ≤ 32 := by have := unfed_len ins (fun i => (fd i).isSome) il; have := hm.sizes.1; omega
  clear hm hs hne
  go_enter Tryd.func36, Tryd.ntmps36
  go_wp2_with fail
  refine Calls.mono (wants_F HM.out) ?_
  rintro e w1 ⟨v, n, rfl, hn, ho, hb⟩
  obtain ⟨a, c, rfl⟩ := own_shape ho
  have HB : Hid _ := hb
  have hn0 : decide (0 < n) = true := decide_eq_true (by
    have : 0 < (unfed ins (fun i => (fd i).isSome) il).length := List.length_pos_iff.2 HNE.out
    omega)
  have hn9 : n ≤ 32 := by omega
  have k9 := cell_later hb HS.out
  clear hn ho hb h9
  go_wp2
  go_ret
  exact ⟨rfl, HB.out⟩
set_option maxRecDepth 100000 in
set_option maxHeartbeats 16000000 in
/-- Run with all inputs there -/
theorem run_ok (hm : MacW N B w mb Fd ia oa sa il ic ol oc sl sc rg h ins outs ss fd X ran ov) (hall : ∀ i, i < il → (fd i).isSome = true) (hN : N ≤ w.heap.size) :
    Calls Tryd.prog 36 #[.pointer (some ⟨mb, 0, none⟩)] w fun e w' => e = .returned .nilIface ∧ ∃ ov', MacW N B w' mb Fd ia oa sa il ic ol oc sl sc rg h ins outs ss fd X true ov' ∧ w.grownBy w' (some mb) := by
  obtain ⟨hil, hol, hrg, hsl⟩ := hm.sizes
  have hp9 := hm.prg
  have hcsl := hp9.csl
  have h64 : h ≤ 64 := hm.h64
  have HM : Hid (MacW N B w mb Fd ia oa sa il ic ol oc sl sc rg h ins outs ss fd X ran ov) := hm
  have HALL : Hid (∀ i, i < il → (fd i).isSome = true) := hall
  have HNN : Hid (N ≤ w.heap.size) := hN
  have HNE : Hid (unfed ins (fun i => (fd i).isSome) il = []) := unfed_none hall
  have HP : Hid (PrgW w ia oa sa il ic ol oc sl sc ins outs ss) := hp9
  have HSL : Hid (sl = ss.length) := hp9.esl
  have HIL : Hid (il = ins.length) := hp9.eil
  have HOL : Hid (ol = outs.length) := hp9.eol
  clear hm hall hN hp9
  go_enter Tryd.func36, Tryd.ntmps36
  go_wp2_with fail
  refine Calls.mono (wants_F HM.out) ?_
  rintro e W ⟨v, n, rfl, hn, ho, hb⟩
  rw [HNE.out] at hn
  obtain rfl : n = 0 := hn
  obtain ⟨a, c, rfl⟩ := own_shape ho
  have HB : Hid (Below w.heap.size w W) := hb
  have HMW : Hid (MacW N B W mb Fd ia oa sa il ic ol oc sl sc rg h ins outs ss fd X ran ov) := HM.out.below hb
  have k1 := cellAt HMW.out.blk 1 _ rfl
  have mk1 := fun u : World => run_makeN ol h (by omega) u
  clear ho hb
  go_upto_region 3 with fail
  clear k1
  have hb0 : Below W.heap.size W (W.alloc (.cells (slO ol h (fun _ => none)) 31)) := (Below.refl _ _).alloc (Nat.le_refl _) _
  have hm0 := heap_later HMW.out.blk hb0
  have hq0 : (W.alloc (.cells (slO ol h (fun _ => none)) 31)).heap[W.heap.size]? = some (.cells (slO ol h (fun _ => none)) 31 (0, 0)) := heap_alloc_last _ _
  have c1 := cellAt HMW.out.blk 1 _ rfl
  have c8 := cellAt hm0 8 _ rfl
  have f8 : (W.alloc (.cells (slO ol h (fun _ => none)) 31)).frozen? ⟨mb, 8, none⟩ = false := frozen_of_row _ _ _ _ _ hm0
  have hmW := ltHeap HMW.out.blk
  obtain ⟨Y1, hY1⟩ : ∃ Y1, Y1 = (W.alloc (.cells (slO ol h (fun _ => none)) 31)).setCell ⟨mb, 8, none⟩ (.slice (some ⟨W.heap.size, 0, none⟩) ol ol) := ⟨_, rfl⟩
  have hg1 : W.grownBy Y1 (some mb) := by rw [hY1]; exact grownBy_setCell (grown_below (World.grownBy.refl _ _) hb0) _
  have hk1 : Y1.heap[mb]? = some (.cells #[.slice ia il ic, .slice oa ol oc, .int .i64 rg, .slice sa sl sc, .int .i64 h, .slice (some ⟨Fd, 0, none⟩) il il, .bool ran, .slice none 0 0, .slice (some ⟨W.heap.size, 0, none⟩) ol ol] 105 (0, 0)) := by
    rw [hY1, heap_setCell_same _ _ _ _ _ _ hm0]; rfl
  have hq1 : Y1.heap[W.heap.size]? = some (.cells (slO ol h (fun _ => none)) 31 (0, 0)) := by
    rw [hY1]; exact (heap_setCell_other _ _ _ _ (by show W.heap.size ≠ mb; omega)).trans hq0
  obtain ⟨Q, hQ⟩ : ∃ Q, Q = W.heap.size := ⟨_, rfl⟩
  have HQE : Hid (Q = W.heap.size) := hQ
  have HY1 : Hid (Y1 = (W.alloc (.cells (slO ol h (fun _ => none)) 31)).setCell ⟨mb, 8, none⟩ (.slice (some ⟨W.heap.size, 0, none⟩) ol ol)) := hY1
  have HG1 : Hid (W.grownBy Y1 (some mb)) := hg1
  rw [← hQ] at hk1 hq1
  have HK1 : Hid (Y1.heap[mb]? = some (.cells #[.slice ia il ic, .slice oa ol oc, .int .i64 rg, .slice sa sl sc, .int .i64 h, .slice (some ⟨Fd, 0, none⟩) il il, .bool ran, .slice none 0 0, .slice (some ⟨Q, 0, none⟩) ol ol] 105 (0, 0))) := hk1
  have HQ1 : Hid (Y1.heap[Q]? = some (.cells (slO ol h (fun _ => none)) 31 (0, 0))) := hq1
  have HMQ : Hid (mb < Q) := by show _ < _; omega
  clear hb0 hm0 hq0 hY1 hg1 hk1 hq1 hQ hmW
  go_upto_region 4 with fail
  rw [← HY1.out]
  clear HY1 c1 c8 f8 mk1
  have mk2 := fun u : World => run_makeN rg h (by omega) u
  have hb2 : Below Y1.heap.size Y1 (Y1.alloc (.cells (slO rg h (fun _ => none)) 31)) := (Below.refl _ _).alloc (Nat.le_refl _) _
  have hm2 := heap_later HK1.out hb2
  have c2 := cellAt HK1.out 2 _ rfl
  have c7 := cellAt hm2 7 _ rfl
  have f7 : (Y1.alloc (.cells (slO rg h (fun _ => none)) 31)).frozen? ⟨mb, 7, none⟩ = false := frozen_of_row _ _ _ _ _ hm2
  obtain ⟨M, hM⟩ : ∃ M, M = Y1.heap.size := ⟨_, rfl⟩
  obtain ⟨Y, hY⟩ : ∃ Y, Y = (Y1.alloc (.cells (slO rg h (fun _ => none)) 31)).setCell ⟨mb, 7, none⟩ (.slice (some ⟨Y1.heap.size, 0, none⟩) rg rg) := ⟨_, rfl⟩
  have hqM : Q < M := by rw [hM]; exact ltHeap HQ1.out
  have hmQ := HMQ.out
  have hk : Y.heap[mb]? = some (.cells #[.slice ia il ic, .slice oa ol oc, .int .i64 rg, .slice sa sl sc, .int .i64 h, .slice (some ⟨Fd, 0, none⟩) il il, .bool ran, .slice (some ⟨M, 0, none⟩) rg rg, .slice (some ⟨Q, 0, none⟩) ol ol] 105 (0, 0)) := by
    rw [hY, heap_setCell_same _ _ _ _ _ _ hm2, hM]; rfl
  have hg : W.grownBy Y (some mb) := by
    rw [hY]; exact grownBy_setCell (grown_below HG1.out hb2) _
  have hbW := HB.out.size
  have hW9 : Q = W.heap.size := HQE.out
  have HI0 : Hid (IniX W.heap.size Y mb M Q Fd h rg ol il (.slice ia il ic) (.slice oa ol oc) (.int .i64 rg) (.slice sa sl sc) (.bool ran) fd X 0 (fun _ => none)) := by
    have hfl := ltHeap HMW.out.fed
    refine ⟨hk, ?_, ?_, fun x hx => absurd hx (Nat.not_lt_zero _), (hg.block Fd hfl (fun e => HMW.out.ne (Option.some.inj e).symm)).trans HMW.out.fed, fun i hi => ?_, by omega, by omega, by omega, by omega, by omega, by omega, by omega⟩
    · rw [hY]; exact (heap_setCell_other _ _ _ _ (by show M ≠ mb; omega)).trans (by rw [hM]; exact heap_alloc_last _ _)
    · rw [hY]; exact (heap_setCell_other _ _ _ _ (by show Q ≠ mb; omega)).trans (heap_later HQ1.out hb2)
    · obtain ⟨p, hp⟩ := Option.isSome_iff_exists.1 (HALL.out i hi)
      obtain ⟨r1, r2⟩ := HMW.out.row i hi p hp
      exact ⟨p, hp, row8T_grown r1 hg (noElems_some HMW.out.blk (by decide)), r2⟩
  have HYE : Hid (Y = (Y1.alloc (.cells (slO rg h (fun _ => none)) 31)).setCell ⟨mb, 7, none⟩ (.slice (some ⟨Y1.heap.size, 0, none⟩) rg rg)) := hY
  have HME : Hid (M = Y1.heap.size) := hM
  have HGY : Hid (W.grownBy Y (some mb)) := hg
  have HYS : Hid (W.heap.size ≤ Y.heap.size) := hg.size
  clear hb2 hm2 hM hY hqM hmQ hk hg hbW hW9
  go_upto_region 5 with fail
  rw [← HYE.out, ← HME.out]
  clear HYE HME c2 c7 f7 mk2 HK1 HQ1 HG1
  have k7 := cellAt HI0.out.blk 7 _ rfl
  go_wp2
  clear k7
  go_loopw [36] (fun i wr => ∃ (k : Nat) (g : Nat → Option (Option Addr × Nat)), k ≤ rg ∧ i = .int .i64 k ∧ Below W.heap.size Y wr ∧ IniX W.heap.size wr mb M Q Fd h rg ol il (.slice ia il ic) (.slice oa ol oc) (.int .i64 rg) (.slice sa sl sc) (.bool ran) fd X k g) (fun i _ => rg - (intOf i).toNat)
  case atStart => exact ⟨0, _, Nat.zero_le _, rfl, Below.refl _ _, HI0.out⟩
  case round =>
    obtain ⟨k, g, hk, rfl, hbr, hir⟩ := hrel
    have HBR : Hid (Below W.heap.size Y wr) := hbr
    have HI : Hid (IniX W.heap.size wr mb M Q Fd h rg ol il (.slice ia il ic) (.slice oa ol oc) (.int .i64 rg) (.slice sa sl sc) (.bool ran) fd X k g) := hir
    clear hbr hir HI0
    by_cases hlt : k < rg
    · have HK7 : Hid (∀ u, wr.grownBy u (some M) → u.cell? ⟨mb, 7, none⟩ = some (.slice (some ⟨M, 0, none⟩) rg rg)) := fun u hu => cellAt ((hu.block mb (ltHeap HI.out.blk) (by simpa using HI.out.hcM)).trans HI.out.blk) 7 _ rfl
      go_wp2
      refine wp_region_noPanic ?_
      refine wp_region_held_drew (S := fun u => wr.grownBy u (some M)) (by kernel_rfl) ?_ (fun hHeld => ?_)
      · exact grownBy_drew (World.grownBy.refl _ _)
      refine wpAnyH_take (i := 0) (oi := { dst := some 39, op := Op.move (Operand.tmp 0), type := 54, pos := "exec.go:76", after := #[], guard := none }) (v := ?_) rfl (by kernel_rfl) (by kernel_rfl) (by kernel_rfl) (fun _ _ _ h => h) (Or.inl ⟨by rfl, ?_⟩) hHeld ?_
      rotate_left
      · intro u hSw
        go_simp
        try with_reducible rfl
      try simp only [Act.put, List.setIfInBounds_toArray, List.set_cons_zero, List.set_cons_succ]
      refine wpAnyH_take (i := 1) (oi := { dst := some 40, op := Op.nilCheck (Operand.tmp 39), type := 0, pos := "exec.go:76", after := #[{ on := 0, ground := Ground.data }], guard := none }) (v := ?_) rfl (by kernel_rfl) (by kernel_rfl) (by kernel_rfl) (fun _ _ _ h => h) (Or.inl ⟨by rfl, ?_⟩) hHeld ?_
      rotate_left
      · intro u hSw
        go_simp
        try with_reducible rfl
      try simp only [Act.put, List.setIfInBounds_toArray, List.set_cons_zero, List.set_cons_succ]
      refine wpAnyH_take (i := 2) (oi := { dst := some 41, op := Op.fieldAddr 105 (Operand.tmp 40) 4, type := 0, pos := "exec.go:76", after := #[{ on := 1, ground := Ground.data }], guard := none }) (v := ?_) rfl (by kernel_rfl) (by kernel_rfl) (by kernel_rfl) (fun _ _ _ h => h) (Or.inl ⟨by rfl, ?_⟩) hHeld ?_
      rotate_left
      · intro u hSw
        go_simp
        try with_reducible rfl
      try simp only [Act.put, List.setIfInBounds_toArray, List.set_cons_zero, List.set_cons_succ]
      refine wpAnyH_take (i := 3) (oi := { dst := some 42, op := Op.load 67 (Operand.tmp 41), type := 67, pos := "exec.go:76", after := #[{ on := 2, ground := Ground.data }], guard := none }) (v := ?_) rfl (by kernel_rfl) (by kernel_rfl) (by kernel_rfl) (fun _ _ _ h => h) (Or.inl ⟨by rfl, ?_⟩) hHeld ?_
      rotate_left
      · intro u hSw
        have k9 := HK7.out u hSw
        go_simp
        try with_reducible rfl
      try simp only [Act.put, List.setIfInBounds_toArray, List.set_cons_zero, List.set_cons_succ]
      refine wpAnyH_take (i := 4) (oi := { dst := some 43, op := Op.move (Operand.tmp 3), type := 3, pos := "exec.go:76", after := #[], guard := none }) (v := ?_) rfl (by kernel_rfl) (by kernel_rfl) (by kernel_rfl) (fun _ _ _ h => h) (Or.inl ⟨by rfl, ?_⟩) hHeld ?_
      rotate_left
      · intro u hSw
        go_simp
        try with_reducible rfl
      try simp only [Act.put, List.setIfInBounds_toArray, List.set_cons_zero, List.set_cons_succ]
      refine wpAnyH_take (i := 5) (oi := { dst := some 44, op := Op.move (Operand.tmp 0), type := 54, pos := "exec.go:76", after := #[], guard := none }) (v := ?_) rfl (by kernel_rfl) (by kernel_rfl) (by kernel_rfl) (fun _ _ _ h => h) (Or.inl ⟨by rfl, ?_⟩) hHeld ?_
      rotate_left
      · intro u hSw
        go_simp
        try with_reducible rfl
      try simp only [Act.put, List.setIfInBounds_toArray, List.set_cons_zero, List.set_cons_succ]
      refine wpAnyH_ready (rs := [6]) (by kernel_rfl) (by simp) ?_
      refine (AllReadyH.cons (o := { dst := some 45, op := Op.call { callee := Callee.value (Operand.func 64), args := #[Operand.tmp 44], argTypes := #[54] }, type := 31, pos := "exec.go:76", after := #[{ on := 5, ground := Ground.data }], guard := none }) rfl (fun K hK => ?_) AllReadyH.nil)
      go_simp
      refine Calls.mono (noughts_F mb h _ (by omega) (cellAt HI.out.drew.blk 4 _ rfl)) ?_
      rintro e w6 ⟨rfl, hw6⟩
      have hb6 : Below wr.drew.heap.size wr.drew w6 := by rw [hw6]; exact (Below.refl _ _).alloc (Nat.le_refl _) _
      have hr6 : w6.heap[wr.heap.size]? = some (.cells (vfs (zeros h)) 5 (0, 0)) := by rw [hw6]; exact heap_alloc_last _ _
      have hI6 := HI.out.drew.below hb6
      have hS6 : wr.grownBy w6 (some M) := grown_below (grownBy_drew (World.grownBy.refl _ _)) hb6
      clear hw6
      go_wp2_with fail
      refine hK.out _ _ ?_ (fun hHeld => ?_)
      · exact hS6
      clear hK K
      try simp only [Act.put, List.setIfInBounds_toArray, List.set_cons_zero, List.set_cons_succ]
      refine wpAnyH_take (i := 7) (oi := { dst := some 46, op := Op.indexAddr 67 (Operand.tmp 42) (Operand.tmp 43), type := 0, pos := "exec.go:76", after := #[{ on := 3, ground := Ground.data }, { on := 4, ground := Ground.data }, { on := 0, ground := Ground.phase }, { on := 1, ground := Ground.phase }, { on := 2, ground := Ground.phase }, { on := 3, ground := Ground.phase }, { on := 4, ground := Ground.phase }, { on := 5, ground := Ground.phase }, { on := 6, ground := Ground.phase }], guard := none }) (v := ?_) rfl (by kernel_rfl) (by kernel_rfl) (by kernel_rfl) (fun _ _ _ h => h) (Or.inl ⟨by rfl, ?_⟩) hHeld ?_
      rotate_left
      · intro u hSw
        go_simp
        try with_reducible rfl
      try simp only [Act.put, List.setIfInBounds_toArray, List.set_cons_zero, List.set_cons_succ]
      refine wpAnyH_ready (rs := [8]) (by kernel_rfl) (by simp) ?_
      refine (AllReadyH.cons (o := { dst := none, op := Op.store 31 (Operand.tmp 46) (Operand.tmp 45), type := 0, pos := "exec.go:76", after := #[{ on := 7, ground := Ground.data }, { on := 6, ground := Ground.data }, { on := 6, ground := Ground.chain }, { on := 0, ground := Ground.phase }, { on := 1, ground := Ground.phase }, { on := 2, ground := Ground.phase }, { on := 3, ground := Ground.phase }, { on := 4, ground := Ground.phase }, { on := 5, ground := Ground.phase }, { on := 6, ground := Ground.phase }], guard := none }) rfl (fun K hK => ?_) AllReadyH.nil)
      have d9 := cellAt hI6.regs k _ (slO_at hlt)
      have d8 : w6.frozen? ⟨M, k, none⟩ = false := frozen_of_row _ _ _ _ _ hI6.regs
      go_simp
      refine hK.out _ _ ?_ (fun hHeld => ?_)
      · exact grownBy_setCell hS6 _
      clear hK K
      try simp only [Act.put, List.setIfInBounds_toArray, List.set_cons_zero, List.set_cons_succ]
      refine wpAnyH_done (by kernel_rfl) ?_ _
      refine NoPanic.normal ?_
      have HP : Hid _ := hI6.put hlt (a := some ⟨wr.heap.size, 0, none⟩) (m := h) (by rw [← zeros_rowF]; exact row8T_own hr6) (Nat.le_refl _) (fun e => by cases e)
      have HPB : Hid (Below W.heap.size Y (w6.setCell ⟨M, k, none⟩ (.slice (some ⟨wr.heap.size, 0, none⟩) h h))) := ((HBR.out.drew).trans (hb6.mono (Nat.le_trans HYS.out HBR.out.size))).setCell (p := ⟨M, k, none⟩) HI.out.hM _
      clear hI6 hr6 hb6 hS6 hHeld
      go_wp2
      exact ⟨⟨k + 1, _, by omega, by go_num, HPB.out, HP.out⟩, by simp [intOf]; omega⟩
    · obtain rfl : k = rg := by omega
      have hr := HI.out.done
      have HR : Hid (RnW W.heap.size wr mb M Q Fd h k ol il (.slice ia il ic) (.slice oa ol oc) (.int .i64 k) (.slice sa sl sc) (.bool ran) fd X (fun x => (g x).getD (none, 0)) (fun _ => none) noR noR) := hr
      clear hr HI
      generalize wr = wq at *
      go_wp2_with fail
      refine Calls.mono (operations_F mb _) ?_
      rintro e w2 ⟨rfl, hb2⟩
      have HR2 : Hid (RnW W.heap.size w2 mb M Q Fd h k ol il (.slice ia il ic) (.slice oa ol oc) (.int .i64 k) (.slice sa sl sc) (.bool ran) fd X (fun x => (g x).getD (none, 0)) (fun _ => none) noR noR) := HR.out.below hb2
      have HB2 : Hid (Below W.heap.size Y w2) := HBR.out.trans (hb2.mono (Nat.le_trans HYS.out HBR.out.size))
      have HA : Hid _ := heap_alloc_last w2 (.cells opsN 118)
      have HI9 : Hid ((Tryd.prog.info? 118).map (·.size) = some (opsE mb).size) := infoE
      have H1 : Hid _ := opsE_one mb
      have HO : Hid (opsN.size = (opsE mb).size) := by show _ = _; rfl
      clear hb2 HR HBR
      have hbv0 : Below w2.heap.size w2 ((w2.alloc (.cells opsN 118)).setRow w2.heap.size (opsE mb)) := below_row ((Below.refl _ _).alloc (Nat.le_refl _) _) (Nat.le_refl _) _
      have HBV0 : Hid _ := hbv0
      have HAB0 : Hid (((w2.alloc (.cells opsN 118)).setRow w2.heap.size (opsE mb)).heap[w2.heap.size]? = some (.cells (opsE mb) 118 (0, 0))) := setRow_heap _ _ _ _ _ _ HA.out
      clear hbv0
      go_wp2_with (refine wpList_store_row rfl 118 _ _ rfl w2.heap.size (opsE mb) rfl rfl 118 opsN HA.out HI9.out HO.out H1.out ?_; generalize hV2 : World.setRow _ _ _ = V2; have hbv : Below w2.heap.size w2 V2 := (by rw [← hV2]; exact HBV0.out); have HAB : Hid (V2.heap[w2.heap.size]? = some (.cells (opsE mb) 118 (0, 0))) := (by show _ = _; rw [← hV2]; exact HAB0.out); have HRV2 : Hid (RnW W.heap.size V2 mb M Q Fd h k ol il (.slice ia il ic) (.slice oa ol oc) (.int .i64 k) (.slice sa sl sc) (.bool ran) fd X (fun x => (g x).getD (none, 0)) (fun _ => none) noR noR) := HR2.out.below hbv; have HBV2 : Hid (Below W.heap.size Y V2) := HB2.out.trans (hbv.mono (Nat.le_trans HYS.out HB2.out.size)); have k3 := cellAt HRV2.out.blk 3 _ rfl; clear hV2 hbv)
      obtain ⟨ab, hab⟩ : ∃ ab, ab = w2.heap.size := ⟨_, rfl⟩
      rw [← hab] at HAB ⊢
      have HABQ : Hid (ab ≠ M ∧ ab ≠ Q) := by have := ltHeap HR2.out.regs.blk; have := ltHeap HR2.out.outs; exact ⟨by omega, by omega⟩
      clear k3 HA HI9 H1 HO HAB0 HBV0 HR2 hab
      go_loopw [56] (fun i wr => ∃ (j : Nat) (f : Nat → Option Addr × Nat) (g : Nat → Option (Option Addr × Nat)), j ≤ sl ∧ i = .int .i64 j ∧ Below W.heap.size Y wr ∧ RnW W.heap.size wr mb M Q Fd h k ol il (.slice ia il ic) (.slice oa ol oc) (.int .i64 k) (.slice sa sl sc) (.bool ran) fd X f g (runR X (ss.take j) noR) (runO X (ss.take j) noR noR) ∧ (∀ d : Nat, (g d).isSome = decide (1 ≤ cntO (ss.take j) d)) ∧ wr.heap[ab]? = some (.cells (opsE mb) 118 (0, 0))) (fun i _ => sl - (intOf i).toNat)
      case atStart => exact ⟨0, _, _, Nat.zero_le _, rfl, HBV2.out, by rw [List.take_zero]; exact HRV2.out, fun d => by rw [List.take_zero]; rfl, HAB.out⟩
      case round =>
        obtain ⟨j, f, g2, hj, rfl, hbr, hcm, hgs, hak⟩ := hrel
        have HBR2 : Hid (Below W.heap.size Y wr) := hbr
        have HCM : Hid _ := hcm
        have HGS : Hid (∀ d : Nat, (g2 d).isSome = decide (1 ≤ cntO (ss.take j) d)) := hgs
        have HAKW : Hid (wr.heap[ab]? = some (.cells (opsE mb) 118 (0, 0))) := hak
        clear hbr hcm hgs hak HAB HRV2 HBV2
        by_cases hlj : j < sl
        · have hjs : j < ss.length := by rw [← HSL.out]; exact hlj
          have hsw : StpW wr sa ss := by
            have s2 := own_kind HMW.out.S HMW.out.blk (by decide) (grown_low HGY.out HBR2.out)
            exact (stpW_own HSL.out s2).elim fun a h => h.elim fun c h => by
              obtain ⟨e, _, _, h9⟩ := h
              cases e
              exact h9
          obtain ⟨b, off, hsa, hc⟩ := stpW_get hsw hjs
          obtain ⟨c0, c1, c2, c3⟩ := hc j hjs
          obtain ⟨⟨op, dst, src, c⟩, hs⟩ : ∃ s, ss[j] = s := ⟨_, rfl⟩
          rw [hs] at c0 c1 c2 c3
          simp only at c0 c1 c2 c3
          have hget : ss[j]? = some ⟨op, dst, src, c⟩ := by rw [List.getElem?_eq_getElem hjs, hs]
          have HTK : Hid (ss.take (j + 1) = ss.take j ++ [⟨op, dst, src, c⟩]) := by show _ = _; rw [List.take_add_one, hget]; rfl
          have hok : OkS il ol k ⟨op, dst, src, c⟩ := by rw [HIL.out, HOL.out]; exact HMW.out.frm.2.2.2.2.1 _ (List.mem_of_getElem? hget)
          have HOK : Hid (OkS il ol k ⟨op, dst, src, c⟩) := hok
          have hop : 1 ≤ op ∧ op ≤ 5 := by unfold OkS at hok; simp only at hok; omega
          obtain ⟨oq, hoq⟩ := Int.eq_ofNat_of_zero_le (show 0 ≤ op by omega)
          obtain ⟨m9, hm9⟩ : ∃ m9, m9 = doM op := ⟨_, rfl⟩
          have hfe := opsE_at mb hop
          have hem := doM_enter hop
          rw [← hm9] at hfe hem
          have HMM : Hid (m9 = doM op) := hm9
          have HOQ : Hid (op = (oq : Int)) := hoq
          rw [hoq] at hfe c0
          have hoq5 : (oq : Int) < 6 := by omega
          subst hsa
          clear hc hs hget hjs hok hop hm9 hoq hsw
          obtain ⟨V, hV⟩ : ∃ V, V = wr.alloc (.cells #[.int .i64 oq, .int .i64 dst, .int .i64 src, .int .u8 (c.toNat : Int)] 48) := ⟨_, rfl⟩
          have hba : Below wr.heap.size wr V := by rw [hV]; exact (Below.refl _ _).alloc (Nat.le_refl _) _
          have hsb : V.heap[wr.heap.size]? = some (.cells #[.int .i64 oq, .int .i64 dst, .int .i64 src, .int .u8 (c.toNat : Int)] 48 (0, 0)) := by rw [hV]; exact heap_alloc_last _ _
          have HSB : Hid _ := hsb
          have HRV : Hid _ := HCM.out.below hba
          have HBV : Hid (Below W.heap.size Y V) := HBR2.out.trans (hba.mono (Nat.le_trans HYS.out HBR2.out.size))
          have HVS : Hid (W.heap.size ≤ V.heap.size) := Nat.le_trans HYS.out HBV.out.size
          have HAV : Hid (V.heap[ab]? = some (.cells (opsE mb) 118 (0, 0))) := heap_later HAKW.out hba
          have HSQ : Hid (wr.heap.size ≠ M ∧ wr.heap.size ≠ Q) := by have := ltHeap HCM.out.regs.blk; have := ltHeap HCM.out.outs; exact ⟨by omega, by omega⟩
          have HVE : Hid (V = wr.alloc (.cells #[.int .i64 oq, .int .i64 dst, .int .i64 src, .int .u8 (c.toNat : Int)] 48)) := hV
          have P0 : Hid (∀ u : World, (∀ (k : Nat) (o : Obj), k ≠ M → k ≠ Q → V.heap[k]? = some o → u.heap[k]? = some o) → u.cell? ⟨wr.heap.size, 0, none⟩ = some (.int .i64 oq)) := fun u hu => cellAt (hu _ _ HSQ.out.1 HSQ.out.2 HSB.out) 0 _ rfl
          have P1 : Hid (∀ u : World, (∀ (k : Nat) (o : Obj), k ≠ M → k ≠ Q → V.heap[k]? = some o → u.heap[k]? = some o) → u.cell? ⟨wr.heap.size, 1, none⟩ = some (.int .i64 dst)) := fun u hu => cellAt (hu _ _ HSQ.out.1 HSQ.out.2 HSB.out) 1 _ rfl
          have P2 : Hid (∀ u : World, (∀ (k : Nat) (o : Obj), k ≠ M → k ≠ Q → V.heap[k]? = some o → u.heap[k]? = some o) → u.cell? ⟨wr.heap.size, 2, none⟩ = some (.int .i64 src)) := fun u hu => cellAt (hu _ _ HSQ.out.1 HSQ.out.2 HSB.out) 2 _ rfl
          have P3 : Hid (∀ u : World, (∀ (k : Nat) (o : Obj), k ≠ M → k ≠ Q → V.heap[k]? = some o → u.heap[k]? = some o) → u.cell? ⟨wr.heap.size, 3, none⟩ = some (.int .u8 (c.toNat : Int))) := fun u hu => cellAt (hu _ _ HSQ.out.1 HSQ.out.2 HSB.out) 3 _ rfl
          have HFE : Hid ((opsE mb)[oq]? = some (.func (.func m9) #[opP mb] #[])) := hfe
          have PF : Hid (∀ u : World, (∀ (k : Nat) (o : Obj), k ≠ M → k ≠ Q → V.heap[k]? = some o → u.heap[k]? = some o) → u.cell? ⟨ab, oq, none⟩ = some (.func (.func m9) #[.pointer (some ⟨mb, 0, none⟩)] #[])) := fun u hu => cellAt (hu _ _ HABQ.out.1 HABQ.out.2 HAV.out) oq _ HFE.out
          clear hba hsb hV hfe
          go_upto_region 14 with fail
          rw [← HVE.out]
          clear c0 c1 c2 c3 HVE
          refine wp_region_noPanic ?_
          refine wp_region_held_drew (S := fun u => ∀ (k : Nat) (o : Obj), k ≠ M → k ≠ Q → V.heap[k]? = some o → u.heap[k]? = some o) (by kernel_rfl) ?_ (fun hHeld => ?_)
          · exact fun k o _ _ h => h
          refine wpAnyH_take (i := 0) (oi := { dst := some 60, op := Op.fieldAddr 48 (Operand.tmp 6) 0, type := 0, pos := "exec.go:80", after := #[], guard := none }) (v := ?_) rfl (by kernel_rfl) (by kernel_rfl) (by kernel_rfl) (fun _ _ _ h => h) (Or.inl ⟨by rfl, ?_⟩) hHeld ?_
          rotate_left
          · intro u hSw
            go_simp
            try with_reducible rfl
          try simp only [Act.put, List.setIfInBounds_toArray, List.set_cons_zero, List.set_cons_succ]
          refine wpAnyH_take (i := 1) (oi := { dst := some 61, op := Op.load 3 (Operand.tmp 60), type := 3, pos := "exec.go:80", after := #[{ on := 0, ground := Ground.data }], guard := none }) (v := ?_) rfl (by kernel_rfl) (by kernel_rfl) (by kernel_rfl) (fun _ _ _ h => h) (Or.inl ⟨by rfl, ?_⟩) hHeld ?_
          rotate_left
          · intro u hSw
            have k9 := P0.out u hSw
            go_simp
            try with_reducible rfl
          try simp only [Act.put, List.setIfInBounds_toArray, List.set_cons_zero, List.set_cons_succ]
          refine wpAnyH_take (i := 2) (oi := { dst := some 62, op := Op.indexAddr 118 (Operand.tmp 4) (Operand.tmp 61), type := 0, pos := "exec.go:80", after := #[{ on := 1, ground := Ground.data }], guard := none }) (v := ?_) rfl (by kernel_rfl) (by kernel_rfl) (by kernel_rfl) (fun _ _ _ h => h) (Or.inl ⟨by rfl, ?_⟩) hHeld ?_
          rotate_left
          · intro u hSw
            go_simp
            try with_reducible rfl
          try simp only [Act.put, List.setIfInBounds_toArray, List.set_cons_zero, List.set_cons_succ]
          refine wpAnyH_take (i := 3) (oi := { dst := some 63, op := Op.load 117 (Operand.tmp 62), type := 117, pos := "exec.go:80", after := #[{ on := 2, ground := Ground.data }], guard := none }) (v := ?_) rfl (by kernel_rfl) (by kernel_rfl) (by kernel_rfl) (fun _ _ _ h => h) (Or.inl ⟨by rfl, ?_⟩) hHeld ?_
          rotate_left
          · intro u hSw
            have k9 := PF.out u hSw
            go_simp
            try with_reducible rfl
          try simp only [Act.put, List.setIfInBounds_toArray, List.set_cons_zero, List.set_cons_succ]
          refine wpAnyH_take (i := 4) (oi := { dst := some 64, op := Op.load 48 (Operand.tmp 6), type := 48, pos := "exec.go:80", after := #[], guard := none }) (v := ?_) rfl (by kernel_rfl) (by kernel_rfl) (by kernel_rfl) (fun _ _ _ h => h) (Or.inl ⟨by rfl, ?_⟩) hHeld ?_
          rotate_left
          · intro u hSw
            have k9 := P0.out u hSw
            have k8 := P1.out u hSw
            have k7 := P2.out u hSw
            have k6 := P3.out u hSw
            go_simp
            try with_reducible rfl
          try simp only [Act.put, List.setIfInBounds_toArray, List.set_cons_zero, List.set_cons_succ]
          refine wpAnyH_ready (rs := [5]) (by kernel_rfl) (by simp) ?_
          refine (AllReadyH.cons (o := { dst := some 65, op := Op.call { callee := Callee.value (Operand.tmp 63), args := #[Operand.tmp 64], argTypes := #[48] }, type := 0, pos := "exec.go:80", after := #[{ on := 3, ground := Ground.data }, { on := 4, ground := Ground.data }], guard := none }) rfl (fun K hK => ?_) AllReadyH.nil)
          go_simp
          refine Calls.mono (xdoes_F W.heap.size mb M Q Fd h k ol il _ _ _ _ _ fd X f g2 _ _ ⟨(oq : Int), dst, src, c⟩ m9 _ (by omega) (by omega) (by omega) HVS.out HRV.out.drew (by rw [← HOQ.out]; exact HOK.out) (by rw [HMM.out, HOQ.out])) ?_
          rintro e w4 ⟨rfl, ⟨f4, g4, hc4, hg4⟩, hb4, hk4⟩
          have hb4' : Below W.heap.size V w4 := (Below.drew (Below.refl _ V)).trans hb4
          go_wp2_with fail
          refine hK.out _ _ ?_ (fun hHeld => ?_)
          · exact hk4
          clear hK K
          try simp only [Act.put, List.setIfInBounds_toArray, List.set_cons_zero, List.set_cons_succ]
          refine wpAnyH_done (by kernel_rfl) ?_ _
          refine NoPanic.normal ?_
          have HB4 : Hid (Below W.heap.size Y w4) := HBV.out.trans hb4'
          have HA4 : Hid (w4.heap[ab]? = some (.cells (opsE mb) 118 (0, 0))) := hk4 _ _ HABQ.out.1 HABQ.out.2 HAV.out
          have HC4 : Hid (RnW W.heap.size w4 mb M Q Fd h k ol il (.slice ia il ic) (.slice oa ol oc) (.int .i64 k) (.slice (some ⟨b, off, none⟩) sl sc) (.bool ran) fd X f4 g4 (runR X (ss.take (j + 1)) noR) (runO X (ss.take (j + 1)) noR noR)) := by
            show RnW ..
            rw [HTK.out, runR_app, runO_app, HOQ.out]; exact hc4
          have HG4 : Hid (∀ d : Nat, (g4 d).isSome = decide (1 ≤ cntO (ss.take (j + 1)) d)) := fun d => by
            rw [hg4, HGS.out, HTK.out, ← HOQ.out]
            by_cases e1 : op = 5
            · by_cases e2 : dst = (d : Int)
              · rw [cnt_out e1 e2]; simp [e1, e2]
              · rw [cnt_other e2]; simp [e2]
            · rw [cnt_not e1]; simp [e1]
          clear hc4 hg4 hb4 hb4' hk4 hHeld
          go_wp2
          exact ⟨⟨j + 1, f4, g4, by omega, by go_num, HB4.out, HC4.out, HG4.out, HA4.out⟩, by simp [intOf]; omega⟩
        · obtain rfl : sl = j := by omega
          have hfull : ss.take sl = ss := by rw [HSL.out, List.take_length]
          have hgs := HGS.out
          have hcm := HCM.out
          rw [hfull] at hgs hcm
          have HR : Hid (RnW W.heap.size wr mb M Q Fd h k ol il (.slice ia il ic) (.slice oa ol oc) (.int .i64 k) (.slice sa sl sc) (.bool ran) fd X f g2 (runR X ss noR) (runO X ss noR noR)) := hcm
          have hgr := grown_low HGY.out HBR2.out
          have k7 := cellAt hcm.blk 7 _ rfl
          have f7 : wr.frozen? ⟨mb, 7, none⟩ = false := frozen_of_row _ _ _ _ _ hcm.blk
          obtain ⟨Z1, hZ1⟩ : ∃ Z1, Z1 = wr.setCell ⟨mb, 7, none⟩ (.slice none 0 0) := ⟨_, rfl⟩
          have hb1 : Z1.heap[mb]? = some (.cells #[.slice ia il ic, .slice oa ol oc, .int .i64 k, .slice sa sl sc, .int .i64 h, .slice (some ⟨Fd, 0, none⟩) il il, .bool ran, .slice none 0 0, .slice (some ⟨Q, 0, none⟩) ol ol] 105 (0, 0)) := by rw [hZ1, heap_setCell_same _ _ _ _ _ _ hcm.blk]; rfl
          have k6 := cellAt hb1 6 _ rfl
          have f6 : Z1.frozen? ⟨mb, 6, none⟩ = false := frozen_of_row _ _ _ _ _ hb1
          obtain ⟨Z, hZ⟩ : ∃ Z, Z = Z1.setCell ⟨mb, 6, none⟩ (.bool true) := ⟨_, rfl⟩
          have hbZ : Z.heap[mb]? = some (.cells #[.slice ia il ic, .slice oa ol oc, .int .i64 k, .slice sa sl sc, .int .i64 h, .slice (some ⟨Fd, 0, none⟩) il il, .bool true, .slice none 0 0, .slice (some ⟨Q, 0, none⟩) ol ol] 105 (0, 0)) := by rw [hZ, heap_setCell_same _ _ _ _ _ _ hb1]; rfl
          have hgZ0 : wr.grownBy Z (some mb) := by rw [hZ, hZ1]; exact grownBy_setCell (grownBy_setCell (World.grownBy.refl _ _) _) _
          have hgZ : W.grownBy Z (some mb) := by rw [hZ, hZ1]; exact grownBy_setCell (grownBy_setCell hgr _) _
          have hqQ : mb ≠ Q := hcm.hcQ
          have hqZ : Z.heap[Q]? = some (.cells (slO ol h g2) 31 (0, 0)) := (hgZ0.block Q (ltHeap hcm.outs) (fun e => hqQ (Option.some.inj e).symm)).trans hcm.outs
          have HFIN : Hid (MacW N B Z mb Fd ia oa sa il ic ol oc sl sc k h ins outs ss fd X true (.slice (some ⟨Q, 0, none⟩) ol ol)) := HMW.out.done HALL.out hgZ hbZ (by have := HQE.out; have := HNN.out; have := HB.out.size; omega) hqZ (fun d hd => by
            have h9 : (g2 d).isSome = true := by rw [hgs]; exact decide_eq_true (by have := HMW.out.frm.2.2.2.2.2 d (by rw [← HOL.out]; exact hd); omega)
            obtain ⟨p, hp⟩ := Option.isSome_iff_exists.1 h9
            obtain ⟨q1, q2, q3⟩ := hcm.out d hd p hp
            exact ⟨p, hp, row8T_grown q1 hgZ0 (noElems_some hcm.blk (by decide)), q2⟩)
          have HGF : Hid (w.grownBy Z (some mb)) := ⟨hgZ.os.trans HB.out.os, hgZ.tape.trans HB.out.tape, hgZ.output.trans HB.out.output, Nat.le_trans HB.out.size hgZ.size, fun k9 hk9 hne => (hgZ.block k9 (Nat.lt_of_lt_of_le hk9 HB.out.size) hne).trans (HB.out.block k9 hk9)⟩
          have HZ1 : Hid (Z1 = wr.setCell ⟨mb, 7, none⟩ (.slice none 0 0)) := hZ1
          have HZ : Hid (Z = Z1.setCell ⟨mb, 6, none⟩ (.bool true)) := hZ
          clear hfull hgs hcm hgr hZ1 hb1 hZ hbZ hgZ0 hgZ hqQ hqZ
          go_upto_region 17 with fail
          rw [← HZ1.out]
          clear k7 f7 HZ1
          go_upto_region 18 with fail
          rw [← HZ.out]
          clear k6 f6 HZ
          go_wp2
          go_ret
          exact ⟨rfl, _, HFIN.out, HGF.out⟩
end Go.Proofs.YtanmgpgiepkogaaDoor

/- What feedAll, allOuts and Do of package exec answer. -/
namespace Go.Proofs.YtanmgpgiepkogaaDoor
open Go.RowKit Gf
set_option linter.unusedVariables false
set_option maxRecDepth 20000
set_option linter.unusedSimpArgs false
theorem below_grownF {B r : Nat} {w0 w Z : World} (h : Below B w0 w) (hg : w.grownBy Z (some r)) (hr : B ≤ r) (hB : B ≤ w.heap.size) : Below B w0 Z :=
  h.trans ⟨hg.os, hg.tape, hg.output, hg.size, fun k hk => hg.block k (by omega) (fun e => by have := Option.some.inj e; omega)⟩
theorem grown_same {w Y Z : World} {r : Nat} (h : w.grownBy Y (some r)) (hg : Y.grownBy Z (some r)) : w.grownBy Z (some r) :=
  ⟨hg.os.trans h.os, hg.tape.trans h.tape, hg.output.trans h.output, Nat.le_trans h.size hg.size, fun k hk hne => (hg.block k (Nat.lt_of_lt_of_le hk h.size) hne).trans (h.block k hk hne)⟩
theorem grown_below' {w Y Z : World} {r : Nat} (h : w.grownBy Y (some r)) (hb : Below Y.heap.size Y Z) : w.grownBy Z (some r) := grown_below h hb
variable {N B : Nat} {w : World} {mb Fd : Nat} {ia oa sa : Option Addr} {il ic ol oc sl sc rg h : Nat} {ins outs : List Int} {ss : List Stp} {fd : Nat → Option (Option Addr × Nat)} {X : Int → Nat → F} {ran : Bool} {ov : Value}
theorem MacW.congrX {X' : Int → Nat → F} (hm : MacW N B w mb Fd ia oa sa il ic ol oc sl sc rg h ins outs ss fd X false ov) (e : ∀ i : Nat, i < il → X (i : Int) = X' (i : Int)) : MacW N B w mb Fd ia oa sa il ic ol oc sl sc rg h ins outs ss fd X' false ov :=
  { hm with row := fun i hi p hp => by rw [← e i hi]; exact hm.row i hi p hp, out := fun e => by cases e }
theorem inX_eq {L : List (List F)} {i : Nat} {xs : List F} (h : L[i]? = some xs) : inX L (i : Int) = at8 xs := funext fun j => inX_at h j
/-- each of a list of lists, in memory -/
theorem rows8_cell {xa : Option Addr} {L : List (List F)} {k : Nat} {xs : List F} (hX : Rows8 w xa L) (hk : L[k]? = some xs) : ∃ b off a c, xa = some ⟨b, off, none⟩ ∧ w.cell? ⟨b, off + k, none⟩ = some (.slice a xs.length c) ∧ Row8 w a xs := by
  rcases hX with rfl | ⟨b, off, rfl, h⟩
  · cases hk
  · obtain ⟨a, c, h1, h2⟩ := h k xs hk
    exact ⟨b, off, a, c, rfl, h1, h2⟩
set_option maxRecDepth 100000 in
set_option maxHeartbeats 8000000 in
theorem feedAll_F (w0 : World) (xa : Option Addr) (n nc : Nat) (L : List (List F)) (s : Addr) (hm : MacW N B w mb Fd ia oa sa il ic ol oc sl sc rg h ins outs ss (fun _ => none) X false ov) (hn : n = L.length) (hni : n = il) (hLB : ∀ xs ∈ L, xs.length ≤ 4611686018427387904) (hX : Rows8 w0 xa L) (h0 : Below w0.heap.size w0 w) (hF0 : w0.heap.size ≤ Fd) (hs : w0.cell? ⟨2, 0, none⟩ = some (errAt s)) :
    Calls Tryd.prog 60 #[.pointer (some ⟨mb, 0, none⟩), .slice xa n nc] w fun e w' => ((∀ xs ∈ L, xs.length = h) ∧ e = .returned .nilIface ∧ (∃ fd', MacW N B w' mb Fd ia oa sa il ic ol oc sl sc rg h ins outs ss fd' (inX L) false ov ∧ ∀ i, i < il → (fd' i).isSome = true) ∨ (¬ ∀ xs ∈ L, xs.length = h) ∧ e = .returned (errAt s)) ∧ w.grownBy w' (some Fd) := by
  obtain ⟨hil, hol, hrg, hsl⟩ := hm.sizes
  have HM : Hid (MacW N B w mb Fd ia oa sa il ic ol oc sl sc rg h ins outs ss (fun _ => none) X false ov) := hm
  have HX : Hid (Rows8 w0 xa L) := hX
  have H0 : Hid (Below w0.heap.size w0 w) := h0
  have HF0 : Hid (w0.heap.size ≤ Fd) := hF0
  have HS : Hid (w0.cell? ⟨2, 0, none⟩ = some (errAt s)) := hs
  have HN : Hid (n = L.length) := hn
  have HLB : Hid (∀ xs ∈ L, xs.length ≤ 4611686018427387904) := hLB
  have HIL : Hid (il = ins.length) := hm.prg.eil
  have k0 := cellAt hm.blk 0 _ rfl
  subst hni
  clear hm hX h0 hF0 hs hn hLB
  unfold errAt
  go_enter Tryd.func60, Tryd.ntmps60
  go_wp2
  clear k0
  go_loopw [20] (fun i wr => ∃ (k : Nat) (fd : Nat → Option (Option Addr × Nat)) (X' : Int → Nat → F), k ≤ n ∧ i = .int .i64 k ∧ MacW N B wr mb Fd ia oa sa n ic ol oc sl sc rg h ins outs ss fd X' false ov ∧ (∀ i : Nat, (fd i).isSome = decide (i < k)) ∧ (∀ i : Nat, i < k → X' (i : Int) = inX L (i : Int)) ∧ (∀ i xs, i < k → L[i]? = some xs → xs.length = h) ∧ w.grownBy wr (some Fd)) (fun i _ => n - (intOf i).toNat)
  case atStart => exact ⟨0, _, X, Nat.zero_le _, rfl, HM.out, fun i => by simp, fun i hi => absurd hi (Nat.not_lt_zero _), fun i xs hi => absurd hi (Nat.not_lt_zero _), World.grownBy.refl _ _⟩
  case round =>
    obtain ⟨k, fd, X', hk, rfl, hmr, hfd, hX', hlen, hg⟩ := hrel
    have HMR : Hid (MacW N B wr mb Fd ia oa sa n ic ol oc sl sc rg h ins outs ss fd X' false ov) := hmr
    have HFD : Hid (∀ i : Nat, (fd i).isSome = decide (i < k)) := hfd
    have HXE : Hid (∀ i : Nat, i < k → X' (i : Int) = inX L (i : Int)) := hX'
    have HLE : Hid (∀ i xs, i < k → L[i]? = some xs → xs.length = h) := hlen
    have HG : Hid (w.grownBy wr (some Fd)) := hg
    have HB0 : Hid (Below w0.heap.size w0 wr) := below_grownF H0.out hg HF0.out H0.out.size
    clear hmr hfd hX' hlen hg
    by_cases hlt : k < n
    · have hkl : k < L.length := by rw [← HN.out]; exact hlt
      obtain ⟨xs, hxs⟩ : ∃ xs, L[k]? = some xs := ⟨_, List.getElem?_eq_getElem hkl⟩
      have HXS : Hid (L[k]? = some xs) := hxs
      have hxb := HLB.out xs (List.mem_of_getElem? hxs)
      obtain ⟨b, off, a, c, rfl, hc1, hr1⟩ := rows8_cell (rows8_below HX.out HB0.out) hxs
      have HR1 : Hid (Row8 wr a xs) := hr1
      have hki : k < ins.length := by rw [← HIL.out]; exact hlt
      obtain ⟨b2, off2, rfl, hb2, hc2⟩ := rowI_cell HMR.out.prg.I hki
      have c2 := hc2 k hki
      obtain ⟨x, hx⟩ : ∃ x, x = ins.getD k 0 := ⟨_, rfl⟩
      rw [← hx] at c2
      have HIX : Hid (ins[k]? = some x) := by show _ = _; rw [hx, List.getD_eq_getElem?_getD, List.getElem?_eq_getElem hki]; rfl
      have hfk : fd k = none := by
        have := HFD.out k
        simp at this
        exact this
      have HFK : Hid (fd k = none) := hfk
      have k0 := cellAt HMR.out.blk 0 _ rfl
      clear hxs hr1 hb2 hc2 hx hfk hki hkl
      by_cases he : xs.length = h
      · have HE : Hid (xs.length = h) := he
        clear he
        go_wp2_with fail
        refine Calls.mono (feed_ok HMR.out x k xs.length _ _ xs HIX.out HFK.out rfl HE.out HR1.out) ?_
        rintro e w6 ⟨q, c9, rfl, hm6, hg6⟩
        have HM6 : Hid _ := hm6
        have HG6 : Hid (w.grownBy w6 (some Fd)) := grown_same HG.out hg6
        clear hm6 hg6 k0 c2 hc1
        go_wp2
        refine ⟨⟨k + 1, _, _, by omega, by go_num, HM6.out, fun i => ?_, fun i hi => ?_, fun i ys hi hy => ?_, HG6.out⟩, by simp [intOf]; omega⟩
        · by_cases e : i = k
          · subst e; simp
          · simp only [e, if_false]
            rw [HFD.out]
            by_cases e2 : i < k
            · rw [decide_eq_true e2, decide_eq_true (by omega)]
            · rw [decide_eq_false e2, decide_eq_false (by omega)]
        · by_cases e : i = k
          · subst e; simp only [if_true]; exact (inX_eq HXS.out).symm
          · rw [if_neg (show (i : Int) ≠ (k : Int) by omega)]; exact HXE.out i (by omega)
        · by_cases e : i = k
          · subst e
            rw [HXS.out] at hy
            rw [← Option.some.inj hy]; exact HE.out
          · exact HLE.out i ys (by omega) hy
      · have HE : Hid (¬ xs.length = h) := he
        have ks := cell_later HB0.out HS.out
        clear he
        go_wp2_with fail
        refine Calls.mono (feed_data HMR.out x k xs.length _ _ s ks HIX.out HFK.out HE.out (by omega)) ?_
        unfold errAt
        rintro e w6 ⟨rfl, hb6⟩
        have HG6 : Hid (w.grownBy w6 (some Fd)) := grown_below HG.out hb6
        clear hb6 k0 c2 hc1
        go_wp2
        go_ret
        exact ⟨.inr ⟨fun hh => HE.out (hh xs (List.mem_of_getElem? HXS.out)), rfl⟩, HG6.out⟩
    · obtain rfl : n = k := by omega
      go_wp2
      go_ret
      refine ⟨.inl ⟨fun xs hx => ?_, rfl, fd, HMR.out.congrX HXE.out, fun i hi => by rw [HFD.out]; exact decide_eq_true hi⟩, HG.out⟩
      obtain ⟨i, hi, e⟩ := List.getElem_of_mem hx
      exact HLE.out i xs (by rw [HN.out]; exact hi) (by rw [List.getElem?_eq_getElem hi, e])
/-- the outputs of Do in memory -/
structure OutL (w : World) (G ol h : Nat) (qs cs : Nat → Nat) (X : Int → Nat → F) (ss : List Stp) (k : Nat) : Prop where
  blk : w.heap[G]? = some (.cells (slO ol h (fun d => if d < k then some (some ⟨qs d, 0, none⟩, cs d) else none)) 31 (0, 0))
  row : ∀ d, d < k → Has8 w (qs d) (rowF h (runO X ss noR noR (d : Int))) (cs d)
  up : ∀ d, d < k → G < qs d
  rise : ∀ d e, d < e → e < k → qs d < qs e
theorem OutL.cell {G d : Nat} {qs cs : Nat → Nat} (ho : OutL w G ol h qs cs X ss ol) (hd : d < ol) : w.cell? ⟨G, d, none⟩ = some (.slice (some ⟨qs d, 0, none⟩) h (cs d)) := by
  have := cellAt ho.blk d _ (slO_at hd)
  rw [svO, if_pos hd] at this
  exact this
theorem OutL.below {G k : Nat} {qs cs : Nat → Nat} {w' : World} (ho : OutL w G ol h qs cs X ss k) (hb : Below w.heap.size w w') : OutL w' G ol h qs cs X ss k :=
  { ho with blk := heap_later ho.blk hb, row := fun d hd => has8_below (ho.row d hd) hb }
theorem OutL.next {G k q c : Nat} {qs cs : Nat → Nat} {w' : World} (ho : OutL w G ol h qs cs X ss k) (hk : k < ol) (hb : Below w.heap.size w w') (h8 : Has8 w' q (rowF h (runO X ss noR noR (k : Int))) c) (hq : w.heap.size ≤ q) :
    OutL (w'.setCell ⟨G, k, none⟩ (.slice (some ⟨q, 0, none⟩) h c)) G ol h (fun d => if d = k then q else qs d) (fun d => if d = k then c else cs d) X ss (k + 1) := by
  have hG := ltHeap ho.blk
  refine ⟨?_, fun d hd => ?_, fun d hd => ?_, fun d e hde he => ?_⟩
  · rw [heap_setCell_same _ _ _ _ _ _ (heap_later ho.blk hb), slO_set (some ⟨q, 0, none⟩, c) hk]
    congr 3
    funext d
    by_cases e : d = k
    · subst e; simp
    · by_cases e2 : d < k
      · simp [e, e2, show d < k + 1 by omega]
      · simp [e, e2, show ¬ d < k + 1 by omega]
  · by_cases e : d = k
    · subst e; simp only [if_true]; exact has8_set_otherE h8 (by show q ≠ G; omega)
    · simp only [e, if_false]
      exact has8_set_otherE (has8_below (ho.row d (by omega)) hb) (by have := ho.up d (by omega); show qs d ≠ G; omega)
  · by_cases e : d = k
    · simp only [e, if_true]; omega
    · simp only [e, if_false]; exact ho.up d (by omega)
  · have hdk : d ≠ k := by omega
    simp only [hdk, if_false]
    by_cases e2 : e = k
    · simp only [e2, if_true]
      obtain ⟨cur, h1, _⟩ := ho.row d (by omega)
      have := ltHeap h1
      omega
    · simp only [e2, if_false]; exact ho.rise d e hde (by omega)
set_option maxRecDepth 100000 in
set_option maxHeartbeats 8000000 in
theorem allOuts_F (hm : MacW N B w mb Fd ia oa sa il ic ol oc sl sc rg h ins outs ss fd X true ov) :
    Calls Tryd.prog 61 #[.pointer (some ⟨mb, 0, none⟩)] w fun e w' => ∃ G qs cs, e = .returned (.tuple #[.slice (some ⟨G, 0, none⟩) ol ol, .nilIface]) ∧ OutL w' G ol h qs cs X ss ol ∧ w.heap.size ≤ G ∧ Below w.heap.size w w' := by
  obtain ⟨hil, hol, hrg, hsl⟩ := hm.sizes
  have HM : Hid (MacW N B w mb Fd ia oa sa il ic ol oc sl sc rg h ins outs ss fd X true ov) := hm
  have HOL : Hid (ol = outs.length) := hm.prg.eol
  have hcol := hm.prg.col
  have mk1 := fun u : World => run_makeN ol h (by omega) u
  have hb0 : Below w.heap.size w (w.alloc (.cells (slO ol h (fun _ => none)) 31)) := (Below.refl _ _).alloc (Nat.le_refl _) _
  have k1 := cellAt hm.blk 1 _ rfl
  have k2 := cellAt (heap_later hm.blk hb0) 1 _ rfl
  have HB0 : Hid _ := hb0
  have HL0 : Hid (OutL (w.alloc (.cells (slO ol h (fun _ => none)) 31)) w.heap.size ol h (fun _ => 0) (fun _ => 0) X ss 0) := ⟨by simp only [Nat.not_lt_zero, if_false]; exact heap_alloc_last _ _, fun d hd => absurd hd (Nat.not_lt_zero _), fun d hd => absurd hd (Nat.not_lt_zero _), fun d e _ he => absurd he (Nat.not_lt_zero _)⟩
  clear hm hb0
  go_enter Tryd.func61, Tryd.ntmps61
  go_wp2
  clear k1 k2 mk1
  go_loopw [22] (fun i wr => ∃ (k : Nat) (qs cs : Nat → Nat), k ≤ ol ∧ i = .int .i64 k ∧ OutL wr w.heap.size ol h qs cs X ss k ∧ Below w.heap.size w wr) (fun i _ => ol - (intOf i).toNat)
  case atStart => exact ⟨0, _, _, Nat.zero_le _, rfl, HL0.out, HB0.out⟩
  case round =>
    obtain ⟨k, qs, cs, hk, rfl, ho, hb⟩ := hrel
    have HO : Hid (OutL wr w.heap.size ol h qs cs X ss k) := ho
    have HB : Hid (Below w.heap.size w wr) := hb
    clear ho hb HB0 HL0
    by_cases hlt : k < ol
    · have HMR : Hid _ := HM.out.below HB.out
      have hki : k < outs.length := by rw [← HOL.out]; exact hlt
      obtain ⟨b2, off2, rfl, hb2, hc2⟩ := rowI_cell HMR.out.prg.O hki
      have c2 := hc2 k hki
      obtain ⟨x, hx⟩ : ∃ x, x = outs.getD k 0 := ⟨_, rfl⟩
      rw [← hx] at c2
      have HIX : Hid (outs[k]? = some x) := by show _ = _; rw [hx, List.getD_eq_getElem?_getD, List.getElem?_eq_getElem hki]; rfl
      clear hb2 hc2 hx hki
      go_wp2_with fail
      refine Calls.mono (out_ok HMR.out x k HIX.out) ?_
      rintro e w6 ⟨q, c9, rfl, h8, hq, hb6⟩
      have d6 := cellAt (heap_later HO.out.blk hb6) k _ (slO_at hlt)
      rw [svO, if_neg (Nat.lt_irrefl k)] at d6
      simp only at d6
      have f6 : w6.frozen? ⟨w.heap.size, k, none⟩ = false := frozen_of_row _ _ _ _ _ (heap_later HO.out.blk hb6)
      have HNX : Hid _ := HO.out.next hlt hb6 h8 hq
      have HBN : Hid (Below w.heap.size w (w6.setCell ⟨w.heap.size, k, none⟩ (.slice (some ⟨q, 0, none⟩) h c9))) := (HB.out.trans (hb6.mono HB.out.size)).setCell (p := ⟨w.heap.size, k, none⟩) (Nat.le_refl _) _
      clear h8 hq hb6 c2
      go_wp2
      exact ⟨⟨k + 1, _, _, by omega, by go_num, HNX.out, HBN.out⟩, by simp [intOf]; omega⟩
    · obtain rfl : ol = k := by omega
      go_wp2
      go_ret2
      exact ⟨w.heap.size, qs, cs, rfl, HO.out, Nat.le_refl _, HB.out⟩
end Go.Proofs.YtanmgpgiepkogaaDoor

/- What Do of package exec answers. -/
namespace Go.Proofs.YtanmgpgiepkogaaDoor
open Go.RowKit Gf
set_option linter.unusedVariables false
set_option maxRecDepth 20000
set_option linter.unusedSimpArgs false
set_option maxRecDepth 100000 in
set_option maxHeartbeats 8000000 in
theorem do_F (ia oa sa xa : Option Addr) (il ic ol oc sl sc rg h n nc : Nat) (ins outs : List Int) (ss : List Stp) (L : List (List F)) (w : World) (s d : Addr) (hP : PrgW w ia oa sa il ic ol oc sl sc ins outs ss) (hs : w.cell? ⟨0, 0, none⟩ = some (errAt s)) (hd : w.cell? ⟨2, 0, none⟩ = some (errAt d)) (hF : InF ins outs rg ss) (h1 : 1 ≤ h) (h64 : h ≤ 64)
    (hn : n = L.length) (hni : n = il) (hLB : ∀ xs ∈ L, xs.length ≤ 4611686018427387904) (hX : Rows8 w xa L) :
    Calls Tryd.prog 28 #[.agg #[.slice ia il ic, .slice oa ol oc, .int .i64 rg, .slice sa sl sc], .int .i64 h, .slice xa n nc] w fun e w' => ((∀ xs ∈ L, xs.length = h) ∧ (∃ G qs cs, e = .returned (.tuple #[.slice (some ⟨G, 0, none⟩) ol ol, .nilIface]) ∧ OutL w' G ol h qs cs (inX L) ss ol ∧ w.heap.size ≤ G) ∨ (¬ ∀ xs ∈ L, xs.length = h) ∧ e = .returned (.tuple #[.slice none 0 0, errAt d])) ∧ Below w.heap.size w w' := by
  have hb0 : Below w.heap.size w (w.alloc (.cells #[.slice ia il ic, .slice oa ol oc, .int .i64 rg, .slice sa sl sc] 25)) := (Below.refl _ _).alloc (Nat.le_refl _) _
  have hx0 : (w.alloc (.cells #[.slice ia il ic, .slice oa ol oc, .int .i64 rg, .slice sa sl sc] 25)).heap[w.heap.size]? = some (.cells #[.slice ia il ic, .slice oa ol oc, .int .i64 rg, .slice sa sl sc] 25 (0, 0)) := heap_alloc_last _ _
  have HB0 : Hid _ := hb0
  have HNW : Hid _ := new_ok 0 (inX L) ia oa sa il ic ol oc sl sc rg h ins outs ss _ s (hP.below hb0) (cell_later hb0 hs) hF h1 h64
  have HX : Hid (Rows8 w xa L) := hX
  have HD : Hid (w.cell? ⟨2, 0, none⟩ = some (errAt d)) := hd
  have HN : Hid (n = L.length) := hn
  have HNI : Hid (n = il) := hni
  have HLB : Hid (∀ xs ∈ L, xs.length ≤ 4611686018427387904) := hLB
  have HZ0 : Hid (w.heap.size ≤ (w.alloc (.cells #[.slice ia il ic, .slice oa ol oc, .int .i64 rg, .slice sa sl sc] 25)).heap.size) := by show _ ≤ _; simp
  have k0 := cellAt hx0 0 _ rfl
  have k1 := cellAt hx0 1 _ rfl
  have k2 := cellAt hx0 2 _ rfl
  have k3 := cellAt hx0 3 _ rfl
  clear hP hs hd hF hn hni hLB hX hb0 hx0
  go_enter Tryd.func28, Tryd.ntmps28
  go_wp2_with fail
  refine Calls.mono HNW.out ?_
  rintro e w1 ⟨mb, Fd, ia', ic', oa', oc', sa', sc', rfl, hm, hb1⟩
  have HM : Hid _ := hm
  have HB1 : Hid (Below w.heap.size w w1) := HB0.out.trans (hb1.mono HB0.out.size)
  have HFB : Hid (w.heap.size ≤ Fd) := Nat.le_trans HZ0.out hm.hFd
  have HMB : Hid (w.heap.size ≤ mb) := Nat.le_trans HZ0.out hm.hmb
  clear hm hb1 k0 k1 k2 k3 HNW
  go_wp2_with fail
  refine Calls.mono (feedAll_F w xa n nc L d HM.out HN.out HNI.out HLB.out HX.out HB1.out HFB.out HD.out) ?_
  rintro e w2 ⟨hres, hg2⟩
  have HB2 : Hid (Below w.heap.size w w2) := below_grownF HB1.out hg2 HFB.out HB1.out.size
  clear hg2
  rcases hres with ⟨hall, rfl, fd', hm2, hfd⟩ | ⟨hbad, rfl⟩
  · have HALL : Hid (∀ xs ∈ L, xs.length = h) := hall
    have HM2 : Hid _ := hm2
    have HFD : Hid _ := hfd
    clear hall hm2 hfd
    go_wp2_with fail
    refine Calls.mono (run_ok HM2.out HFD.out (Nat.zero_le _)) ?_
    rintro e w3 ⟨rfl, ov', hm3, hg3⟩
    have HM3 : Hid _ := hm3
    have HB3 : Hid (Below w.heap.size w w3) := below_grownF HB2.out hg3 HMB.out HB2.out.size
    clear hm3 hg3
    go_wp2_with fail
    refine Calls.mono (allOuts_F HM3.out) ?_
    rintro e w4 ⟨G, qs, cs, rfl, ho, hG, hb4⟩
    have HO : Hid _ := ho
    have HG : Hid (w.heap.size ≤ G) := Nat.le_trans HB3.out.size hG
    have HB4 : Hid (Below w.heap.size w w4) := HB3.out.trans (hb4.mono HB3.out.size)
    clear ho hG hb4
    go_wp2
    go_ret2
    exact ⟨.inl ⟨HALL.out, G, qs, cs, rfl, HO.out, HG.out⟩, HB4.out⟩
  · have HBAD : Hid (¬ ∀ xs ∈ L, xs.length = h) := hbad
    clear hbad
    unfold errAt
    go_wp2
    go_ret2
    exact ⟨.inr ⟨HBAD.out, rfl⟩, HB2.out⟩
set_option maxHeartbeats 4000000 in
theorem do_bad (ia oa sa xa : Option Addr) (il ic ol oc sl sc n nc : Nat) (rg h : Int) (ins outs : List Int) (ss : List Stp) (w : World) (s : Addr) (hP : PrgW w ia oa sa il ic ol oc sl sc ins outs ss) (hs : w.cell? ⟨0, 0, none⟩ = some (errAt s)) (hF : ¬ InF ins outs rg ss) :
    Calls Tryd.prog 28 #[.agg #[.slice ia il ic, .slice oa ol oc, .int .i64 rg, .slice sa sl sc], .int .i64 h, .slice xa n nc] w fun e w' => e = .returned (.tuple #[.slice none 0 0, errAt s]) ∧ Below w.heap.size w w' := by
  have hb0 : Below w.heap.size w (w.alloc (.cells #[.slice ia il ic, .slice oa ol oc, .int .i64 rg, .slice sa sl sc] 25)) := (Below.refl _ _).alloc (Nat.le_refl _) _
  have hx0 : (w.alloc (.cells #[.slice ia il ic, .slice oa ol oc, .int .i64 rg, .slice sa sl sc] 25)).heap[w.heap.size]? = some (.cells #[.slice ia il ic, .slice oa ol oc, .int .i64 rg, .slice sa sl sc] 25 (0, 0)) := heap_alloc_last _ _
  have HB0 : Hid _ := hb0
  have HNW : Hid _ := new_bad ia oa sa il ic ol oc sl sc rg h ins outs ss _ s (hP.below hb0) (cell_later hb0 hs) hF
  have k0 := cellAt hx0 0 _ rfl
  have k1 := cellAt hx0 1 _ rfl
  have k2 := cellAt hx0 2 _ rfl
  have k3 := cellAt hx0 3 _ rfl
  clear hP hs hF hb0 hx0
  go_enter Tryd.func28, Tryd.ntmps28
  go_wp2_with fail
  refine Calls.mono HNW.out ?_
  unfold errAt
  rintro e w1 ⟨rfl, hb1⟩
  have HB1 : Hid (Below w.heap.size w w1) := HB0.out.trans (hb1.mono HB0.out.size)
  clear hb1 k0 k1 k2 k3 HNW
  go_wp2
  go_ret2
  exact ⟨rfl, HB1.out⟩
set_option maxHeartbeats 4000000 in
theorem do_size (ia oa sa xa : Option Addr) (il ic ol oc sl sc n nc : Nat) (rg h : Int) (ins outs : List Int) (ss : List Stp) (w : World) (s z : Addr) (hP : PrgW w ia oa sa il ic ol oc sl sc ins outs ss) (hs : w.cell? ⟨0, 0, none⟩ = some (errAt s)) (hz : w.cell? ⟨1, 0, none⟩ = some (errAt z)) (hF : InF ins outs rg ss) (hh : ¬ (1 ≤ h ∧ h ≤ 64)) :
    Calls Tryd.prog 28 #[.agg #[.slice ia il ic, .slice oa ol oc, .int .i64 rg, .slice sa sl sc], .int .i64 h, .slice xa n nc] w fun e w' => e = .returned (.tuple #[.slice none 0 0, errAt z]) ∧ Below w.heap.size w w' := by
  have hb0 : Below w.heap.size w (w.alloc (.cells #[.slice ia il ic, .slice oa ol oc, .int .i64 rg, .slice sa sl sc] 25)) := (Below.refl _ _).alloc (Nat.le_refl _) _
  have hx0 : (w.alloc (.cells #[.slice ia il ic, .slice oa ol oc, .int .i64 rg, .slice sa sl sc] 25)).heap[w.heap.size]? = some (.cells #[.slice ia il ic, .slice oa ol oc, .int .i64 rg, .slice sa sl sc] 25 (0, 0)) := heap_alloc_last _ _
  have HB0 : Hid _ := hb0
  have HNW : Hid _ := new_size ia oa sa il ic ol oc sl sc rg h ins outs ss _ s z (hP.below hb0) (cell_later hb0 hs) (cell_later hb0 hz) hF hh
  have k0 := cellAt hx0 0 _ rfl
  have k1 := cellAt hx0 1 _ rfl
  have k2 := cellAt hx0 2 _ rfl
  have k3 := cellAt hx0 3 _ rfl
  clear hP hs hz hF hh hb0 hx0
  go_enter Tryd.func28, Tryd.ntmps28
  go_wp2_with fail
  refine Calls.mono HNW.out ?_
  unfold errAt
  rintro e w1 ⟨rfl, hb1⟩
  have HB1 : Hid (Below w.heap.size w w1) := HB0.out.trans (hb1.mono HB0.out.size)
  clear hb1 k0 k1 k2 k3 HNW
  go_wp2
  go_ret2
  exact ⟨rfl, HB1.out⟩
set_option maxHeartbeats 4000000 in
/-- another number of inputs than the program has -/
theorem do_count (ia oa sa xa : Option Addr) (il ic ol oc sl sc rg h n nc : Nat) (ins outs : List Int) (ss : List Stp) (w : World) (s d : Addr) (hP : PrgW w ia oa sa il ic ol oc sl sc ins outs ss) (hs : w.cell? ⟨0, 0, none⟩ = some (errAt s)) (hd : w.cell? ⟨2, 0, none⟩ = some (errAt d)) (hF : InF ins outs rg ss) (h1 : 1 ≤ h) (h64 : h ≤ 64)
    (hni : n ≠ il) :
    Calls Tryd.prog 28 #[.agg #[.slice ia il ic, .slice oa ol oc, .int .i64 rg, .slice sa sl sc], .int .i64 h, .slice xa n nc] w fun e w' => e = .returned (.tuple #[.slice none 0 0, errAt d]) ∧ Below w.heap.size w w' := by
  have hb0 : Below w.heap.size w (w.alloc (.cells #[.slice ia il ic, .slice oa ol oc, .int .i64 rg, .slice sa sl sc] 25)) := (Below.refl _ _).alloc (Nat.le_refl _) _
  have hx0 : (w.alloc (.cells #[.slice ia il ic, .slice oa ol oc, .int .i64 rg, .slice sa sl sc] 25)).heap[w.heap.size]? = some (.cells #[.slice ia il ic, .slice oa ol oc, .int .i64 rg, .slice sa sl sc] 25 (0, 0)) := heap_alloc_last _ _
  have HB0 : Hid _ := hb0
  have HNW : Hid _ := new_ok 0 (fun _ _ => 0) ia oa sa il ic ol oc sl sc rg h ins outs ss _ s (hP.below hb0) (cell_later hb0 hs) hF h1 h64
  have HD : Hid (w.cell? ⟨2, 0, none⟩ = some (errAt d)) := hd
  have k0 := cellAt hx0 0 _ rfl
  have k1 := cellAt hx0 1 _ rfl
  have k2 := cellAt hx0 2 _ rfl
  have k3 := cellAt hx0 3 _ rfl
  have e4 : ((n : Int) == (il : Int)) = false := beq_eq_false_iff_ne.2 (by omega)
  clear hP hs hd hF hb0 hx0 hni
  go_enter Tryd.func28, Tryd.ntmps28
  go_wp2_with fail
  refine Calls.mono HNW.out ?_
  rintro e w1 ⟨mb, Fd, ia', ic', oa', oc', sa', sc', rfl, hm, hb1⟩
  have HB1 : Hid (Below w.heap.size w w1) := HB0.out.trans (hb1.mono HB0.out.size)
  have q0 := cellAt hm.blk 0 _ rfl
  have hcount : Calls Tryd.prog 60 #[.pointer (some ⟨mb, 0, none⟩), .slice xa n nc] w1 fun e w' => e = .returned (errAt d) ∧ w1 = w' := by
    have q9 := cell_later HB1.out HD.out
    unfold errAt at q9 ⊢
    clear hm hb1 k0 k1 k2 k3 HNW
    go_enter Tryd.func60, Tryd.ntmps60
    go_wp2
    go_ret
    exact ⟨rfl, rfl⟩
  have HC : Hid _ := hcount
  clear hm hb1 k0 k1 k2 k3 HNW hcount
  go_wp2_with fail
  refine Calls.mono HC.out ?_
  unfold errAt
  rintro e w2 ⟨rfl, rfl⟩
  go_wp2
  go_ret2
  exact ⟨rfl, HB1.out⟩
end Go.Proofs.YtanmgpgiepkogaaDoor

/- The chapter's example of package exec: alive of stage 10 returns true. -/
namespace Go.Proofs.YtanmgpgiepkogaaDoor
open Go.RowKit Gf
set_option linter.unusedVariables false
set_option maxRecDepth 20000
set_option linter.unusedSimpArgs false
theorem rowI_list10 {w : World} {g o : Nat} {cs : Array Value} {t : TypeId} {fr : Nat × Nat} {ns : List Int} (h : w.heap[g]? = some (.cells cs t fr)) (hn : ∀ j n, ns[j]? = some n → cs[o + j]? = some (.int .i64 n)) : RowI w (some ⟨g, o, none⟩) ns :=
  .inr ⟨g, o, rfl, fun j n hj => cellAt h (o + j) _ (hn j n hj)⟩
def smallE : List Stp := [⟨1, 0, 0, 0⟩, ⟨1, 1, 1, 0⟩, ⟨3, 0, 0, 3⟩, ⟨4, 0, 1, 7⟩, ⟨5, 0, 0, 0⟩]
theorem smallE_in : InF [2, 5] [0] 2 smallE := by
  refine ⟨?_, ?_, by omega, by decide, ?_, ?_⟩
  · exact goodH_of (n := 32) (ns := [2, 5]) (by decide) (by decide)
  · exact goodH_of (n := 32) (ns := [0]) (by decide) (by decide)
  · intro s hs
    simp only [smallE, List.mem_cons, List.not_mem_nil, or_false] at hs
    rcases hs with rfl | rfl | rfl | rfl | rfl <;> simp [OkS]
  · intro d hd
    obtain rfl : d = 0 := by simp only [List.length_cons, List.length_nil] at hd; omega
    rfl
theorem small10_F (w : World) : Calls Tryd.prog 53 #[] w fun e w' => ∃ ia oa sa, e = .returned (.agg #[.slice ia 2 2, .slice oa 1 1, .int .i64 2, .slice sa 5 5]) ∧ PrgW w' ia oa sa 2 2 1 1 5 5 [2, 5] [0] smallE ∧ Below w.heap.size w w' := by
  go_enter Tryd.func53, Tryd.ntmps53
  go_wp2
  have hA := holds_new (holds_new (holds_new (holds_new (holds_nil w) #[.slice (some ⟨w.heap.size + 1, 0, none⟩) 2 2, .slice (some ⟨w.heap.size + 1 + 1, 0, none⟩) 1 1, .int .i64 2, .slice (some ⟨w.heap.size + 1 + 1 + 1, 0, none⟩) 5 5] 25) #[.int .i64 2, .int .i64 5] 3) #[.int .i64 0] 3) #[.int .i64 1, .int .i64 0, .int .i64 0, .int .u8 0, .int .i64 1, .int .i64 1, .int .i64 1, .int .u8 0, .int .i64 3, .int .i64 0, .int .i64 0, .int .u8 3, .int .i64 4, .int .i64 0, .int .i64 1, .int .u8 7, .int .i64 5, .int .i64 0, .int .i64 0, .int .u8 0] 48
  have hB := ((((Below.refl _ w).alloc (Nat.le_refl _) (.cells #[.slice (some ⟨w.heap.size + 1, 0, none⟩) 2 2, .slice (some ⟨w.heap.size + 1 + 1, 0, none⟩) 1 1, .int .i64 2, .slice (some ⟨w.heap.size + 1 + 1 + 1, 0, none⟩) 5 5] 25)).alloc (by simp) (.cells #[.int .i64 2, .int .i64 5] 3)).alloc (by simp; omega) (.cells #[.int .i64 0] 3)).alloc (by simp; omega) (.cells #[.int .i64 1, .int .i64 0, .int .i64 0, .int .u8 0, .int .i64 1, .int .i64 1, .int .i64 1, .int .u8 0, .int .i64 3, .int .i64 0, .int .i64 0, .int .u8 3, .int .i64 4, .int .i64 0, .int .i64 1, .int .u8 7, .int .i64 5, .int .i64 0, .int .i64 0, .int .u8 0] 48)
  simp only [World.size_alloc] at hA
  generalize ((((w.alloc (.cells #[.slice (some ⟨w.heap.size + 1, 0, none⟩) 2 2, .slice (some ⟨w.heap.size + 1 + 1, 0, none⟩) 1 1, .int .i64 2, .slice (some ⟨w.heap.size + 1 + 1 + 1, 0, none⟩) 5 5] 25)).alloc (.cells #[.int .i64 2, .int .i64 5] 3)).alloc (.cells #[.int .i64 0] 3)).alloc (.cells #[.int .i64 1, .int .i64 0, .int .i64 0, .int .u8 0, .int .i64 1, .int .i64 1, .int .i64 1, .int .u8 0, .int .i64 3, .int .i64 0, .int .i64 0, .int .u8 3, .int .i64 4, .int .i64 0, .int .i64 1, .int .u8 7, .int .i64 5, .int .i64 0, .int .i64 0, .int .u8 0] 48)) = W at *
  have hk := holds_at hA 3 rfl
  have r0 := cellAt hk 0 _ rfl
  have r1 := cellAt hk 1 _ rfl
  have r2 := cellAt hk 2 _ rfl
  have r3 := cellAt hk 3 _ rfl
  have z := ltHeap hk
  refine bodyPost_ret (v := .agg #[.slice (some ⟨w.heap.size + 1, 0, none⟩) 2 2, .slice (some ⟨w.heap.size + 1 + 1, 0, none⟩) 1 1, .int .i64 2, .slice (some ⟨w.heap.size + 1 + 1 + 1, 0, none⟩) 5 5]) (by simp [results, Tryd.results53, go_sem, r0, r1, r2, r3, z]) rfl ⟨_, _, _, rfl, ⟨rfl, rfl, rfl, by decide, by decide, by decide, Nat.le_refl _, Nat.le_refl _, Nat.le_refl _, fun e => (by cases e), fun e => (by cases e), fun e => (by cases e), ?_, ?_, ?_⟩, hB⟩
  · exact rowI_list10 (holds_at hA 2 rfl) fun j n hj => by
      match j, hj with
      | 0, hj => cases hj; rfl
      | 1, hj => cases hj; rfl
      | j + 2, hj => cases hj
  · exact rowI_list10 (holds_at hA 1 rfl) fun j n hj => by
      match j, hj with
      | 0, hj => cases hj; rfl
      | j + 1, hj => cases hj
  · exact stpW_cells (o := 0) (holds_at hA 0 rfl) fun j hj => by rw [Nat.zero_add, ← List.getElem?_toArray]; rfl
theorem smallE_run : rowF 2 (runO (inX [[1, 0], [1, 2]]) smallE noR noR ((0 : Nat) : Int)) = [4, 14] := by decide +kernel
/-- the errors that exec knows -/
structure ErrsX (w : World) (E : Nat → Addr) : Prop where
  half : w.cell? ⟨6, 0, none⟩ = some (errAt (E 3))
  data : w.cell? ⟨2, 0, none⟩ = some (errAt (E 4))
  prog : w.cell? ⟨0, 0, none⟩ = some (errAt (E 6))
  there : w.cell? ⟨8, 0, none⟩ = some (errAt (E 7))
  empty : w.cell? ⟨9, 0, none⟩ = some (errAt (E 8))
  num : w.cell? ⟨1, 0, none⟩ = some (errAt (E 11))
theorem ErrsX.below {w w' : World} {E : Nat → Addr} (h : ErrsX w E) (hb : Below w.heap.size w w') : ErrsX w' E :=
  ⟨cell_later hb h.half, cell_later hb h.data, cell_later hb h.prog, cell_later hb h.there, cell_later hb h.empty, cell_later hb h.num⟩
set_option maxRecDepth 100000 in
set_option maxHeartbeats 8000000 in
theorem alive10_ok (w : World) (E : Nat → Addr) (hE : ErrsX w E) : Calls Tryd.prog 22 #[] w fun e w' => e = .returned (.bool true) ∧ Below w.heap.size w w' := by
  have HE : Hid (ErrsX w E) := hE
  clear hE
  go_enter Tryd.func22, Tryd.ntmps22
  go_wp2_with fail
  refine Calls.mono (small10_F _) ?_
  rintro e w1 ⟨ia, oa, sa, rfl, hP, hb1⟩
  have HP : Hid _ := hP
  have HB1 : Hid (Below w.heap.size w w1) := hb1
  clear hP hb1
  have hA := holds_new (holds_new (holds_new (holds_nil w1) #[.int .u8 1, .int .u8 0] 5) #[.int .u8 1, .int .u8 2] 5) #[.slice (some ⟨w1.heap.size, 0, none⟩) 2 2, .slice (some ⟨w1.heap.size + 1, 0, none⟩) 2 2] 31
  simp only [World.size_alloc] at hA
  obtain ⟨W, hW⟩ : ∃ W, W = ((w1.alloc (.cells #[.int .u8 1, .int .u8 0] 5)).alloc (.cells #[.int .u8 1, .int .u8 2] 5)).alloc (.cells #[.slice (some ⟨w1.heap.size, 0, none⟩) 2 2, .slice (some ⟨w1.heap.size + 1, 0, none⟩) 2 2] 31) := ⟨_, rfl⟩
  rw [← hW] at hA
  have hbW : Below w1.heap.size w1 W := by rw [hW]; exact (((Below.refl _ w1).alloc (Nat.le_refl _) _).alloc (by simp) _).alloc (by simp; omega) _
  have HWE : Hid (W = ((w1.alloc (.cells #[.int .u8 1, .int .u8 0] 5)).alloc (.cells #[.int .u8 1, .int .u8 2] 5)).alloc (.cells #[.slice (some ⟨w1.heap.size, 0, none⟩) 2 2, .slice (some ⟨w1.heap.size + 1, 0, none⟩) 2 2] 31)) := hW
  have HBW : Hid (Below w.heap.size w W) := HB1.out.trans (hbW.mono HB1.out.size)
  have HL : Hid (Rows8 W (some ⟨w1.heap.size + 1 + 1, 0, none⟩) [[1, 0], [1, 2]]) := by
    refine .inr ⟨_, 0, rfl, fun j xs hj => ?_⟩
    match j, hj with
    | 0, hj =>
      cases hj
      exact ⟨some ⟨w1.heap.size, 0, none⟩, 2, cellAt (holds_at hA 0 rfl) 0 _ rfl, holds_row (xs := [1, 0]) hA 2 rfl⟩
    | 1, hj =>
      cases hj
      exact ⟨some ⟨w1.heap.size + 1, 0, none⟩, 2, cellAt (holds_at hA 0 rfl) 1 _ rfl, holds_row (xs := [1, 2]) hA 1 rfl⟩
    | j + 2, hj => cases hj
  have HP2 : Hid _ := HP.out.below hbW
  have HEW : Hid _ := HE.out.below HBW.out
  clear hW hA hbW HP
  go_wp2_with fail
  rw [← HWE.out]
  refine Calls.mono (do_F ia oa sa (some ⟨w1.heap.size + 1 + 1, 0, none⟩) 2 2 1 1 5 5 2 2 2 2 [2, 5] [0] smallE [[1, 0], [1, 2]] W (E 6) (E 4) HP2.out HEW.out.prog HEW.out.data smallE_in (by decide) (by decide) rfl rfl (fun xs h => by rcases List.mem_cons.1 h with rfl | h <;> simp_all) HL.out) ?_
  rintro e w2 ⟨hres, hb2⟩
  have HB2 : Hid (Below w.heap.size w w2) := HBW.out.trans (hb2.mono HBW.out.size)
  rcases hres with ⟨_, G, qs, cs, rfl, ho, hG⟩ | ⟨hbad, _⟩
  rotate_left
  · exact absurd (by decide) hbad
  have HO : Hid (OutL w2 G 1 2 qs cs (inX [[1, 0], [1, 2]]) smallE 1) := ho
  clear ho hG hb2 HWE HL HP2 HEW
  go_wp2_with fail
  refine Calls.mono (small10_F _) ?_
  rintro e w3 ⟨ia3, oa3, sa3, rfl, hP3, hb3⟩
  have HP3 : Hid _ := hP3
  have HO3 : Hid _ := HO.out.below hb3
  have HB3 : Hid (Below w.heap.size w w3) := HB2.out.trans (hb3.mono HB2.out.size)
  clear hP3 hb3 HO
  go_wp2_with fail
  refine Calls.mono (new_ok 0 (fun _ _ => 0) ia3 oa3 sa3 2 2 1 1 5 5 2 2 [2, 5] [0] smallE w3 (E 6) HP3.out (HE.out.below HB3.out).prog smallE_in (by decide) (by decide)) ?_
  rintro e V ⟨mb, Fd, ia', ic', oa', oc', sa', sc', rfl, hm, hb4⟩
  have HM : Hid _ := hm
  have HBV : Hid (Below w.heap.size w V) := HB3.out.trans (hb4.mono HB3.out.size)
  have hov := HO3.out.below hb4
  have hr0 := hov.row 0 (by decide)
  rw [smallE_run] at hr0
  have HR0 : Hid (Has8 V (qs 0) [4, 14] (cs 0)) := hr0
  have HK0 : Hid (∀ u, Below V.heap.size V u → u.cell? ⟨G, 0, none⟩ = some (.slice (some ⟨qs 0, 0, none⟩) 2 (cs 0))) := fun u hu => cellAt (heap_later hov.blk hu) 0 _ rfl
  have HCV : Hid (∀ u, Below V.heap.size V u → (convert 31 9 (.slice (some ⟨qs 0, 0, none⟩) 2 (cs 0))).run Tryd.prog u = .ok (.string { data := #[4, 14] }) u) := fun u hu => by
    have h9 := conv8 (la := 2) (ca := cs 0) (xs := [4, 14]) rfl (has8_U (has8_below HR0.out hu)).row8
    rwa [show str8 [4, 14] = { data := #[4, 14] } by decide +kernel] at h9
  have hcs : 2 ≤ cs 0 := by obtain ⟨cur, _, _, hl, _⟩ := hr0; exact hl
  clear hm hb4 hov hr0 HP3 HO3
  go_upto_region 3 with fail
  refine wp_region_noPanic ?_
  refine wp_region_held_drew (S := fun u => Below V.heap.size V u) (by kernel_rfl) ?_ (fun hHeld => ?_)
  · exact Below.drew (Below.refl _ V)
  obtain ⟨X0, hX0⟩ : ∃ X, X = V.drew := ⟨_, rfl⟩
  have B0 : Below V.heap.size V X0 := by rw [hX0]; exact Below.drew (Below.refl _ V)
  rw [← hX0] at hHeld ⊢
  clear hX0
  refine wpAnyH_take (i := 0) (oi := { dst := some 18, op := Op.move (Operand.tmp 2), type := 29, pos := "law.go:34", after := #[], guard := none }) (v := ?_) rfl (by kernel_rfl) (by kernel_rfl) (by kernel_rfl) (fun _ _ _ h => h) (Or.inl ⟨by rfl, ?_⟩) hHeld ?_
  rotate_left
  · intro u hSw
    go_simp
    try with_reducible rfl
  try simp only [Act.put, List.setIfInBounds_toArray, List.set_cons_zero, List.set_cons_succ]
  refine wpAnyH_take (i := 1) (oi := { dst := some 19, op := Op.binOp BinOp.eql 29 (Operand.tmp 18) (Operand.const Value.nilIface) 29, type := 4, pos := "law.go:34", after := #[{ on := 0, ground := Ground.data }], guard := none }) (v := ?_) rfl (by kernel_rfl) (by kernel_rfl) (by kernel_rfl) (fun _ _ _ h => h) (Or.inl ⟨by rfl, ?_⟩) hHeld ?_
  rotate_left
  · intro u hSw
    go_simp
    try with_reducible rfl
  try simp only [Act.put, List.setIfInBounds_toArray, List.set_cons_zero, List.set_cons_succ]
  refine wpAnyH_take (i := 2) (oi := { dst := some 20, op := Op.move (Operand.tmp 19), type := 4, pos := "law.go:34", after := #[{ on := 1, ground := Ground.data }], guard := none }) (v := ?_) rfl (by kernel_rfl) (by kernel_rfl) (by kernel_rfl) (fun _ _ _ h => h) (Or.inl ⟨by rfl, ?_⟩) hHeld ?_
  rotate_left
  · intro u hSw
    go_simp
    try with_reducible rfl
  try simp only [Act.put, List.setIfInBounds_toArray, List.set_cons_zero, List.set_cons_succ]
  refine wpAnyH_take (i := 3) (oi := { dst := some 21, op := Op.move (Operand.tmp 1), type := 67, pos := "law.go:34", after := #[{ on := 2, ground := Ground.guard }], guard := some (2, true) }) (v := ?_) rfl (by kernel_rfl) (by kernel_rfl) (by kernel_rfl) (fun _ _ _ h => h) (Or.inl ⟨by rfl, ?_⟩) hHeld ?_
  rotate_left
  · intro u hSw
    go_simp
    try with_reducible rfl
  try simp only [Act.put, List.setIfInBounds_toArray, List.set_cons_zero, List.set_cons_succ]
  refine wpAnyH_take (i := 4) (oi := { dst := some 22, op := Op.call { callee := Callee.builtin Builtin.len, args := #[Operand.tmp 21], argTypes := #[67] }, type := 3, pos := "law.go:34", after := #[{ on := 3, ground := Ground.data }, { on := 2, ground := Ground.guard }], guard := some (2, true) }) (v := ?_) rfl (by kernel_rfl) (by kernel_rfl) (by kernel_rfl) (fun _ _ _ h => h) (Or.inl ⟨by rfl, ?_⟩) hHeld ?_
  rotate_left
  · intro u hSw
    go_simp
    try with_reducible rfl
  try simp only [Act.put, List.setIfInBounds_toArray, List.set_cons_zero, List.set_cons_succ]
  refine wpAnyH_take (i := 5) (oi := { dst := some 23, op := Op.binOp BinOp.eql 3 (Operand.tmp 22) (Operand.const (Value.int IntKind.i64 1)) 3, type := 4, pos := "law.go:34", after := #[{ on := 4, ground := Ground.data }, { on := 2, ground := Ground.guard }], guard := some (2, true) }) (v := ?_) rfl (by kernel_rfl) (by kernel_rfl) (by kernel_rfl) (fun _ _ _ h => h) (Or.inl ⟨by rfl, ?_⟩) hHeld ?_
  rotate_left
  · intro u hSw
    go_simp
    try with_reducible rfl
  try simp only [Act.put, List.setIfInBounds_toArray, List.set_cons_zero, List.set_cons_succ]
  refine wpAnyH_take (i := 6) (oi := { dst := some 24, op := Op.pick (Operand.tmp 20) (Operand.tmp 23) (Operand.const (Value.bool false)), type := 4, pos := "law.go:34", after := #[{ on := 2, ground := Ground.data }, { on := 5, ground := Ground.data }], guard := none }) (v := ?_) rfl (by kernel_rfl) (by kernel_rfl) (by kernel_rfl) (fun _ _ _ h => h) (Or.inl ⟨by rfl, ?_⟩) hHeld ?_
  rotate_left
  · intro u hSw
    go_simp
    try with_reducible rfl
  try simp only [Act.put, List.setIfInBounds_toArray, List.set_cons_zero, List.set_cons_succ]
  refine wpAnyH_take (i := 7) (oi := { dst := some 25, op := Op.move (Operand.tmp 24), type := 4, pos := "law.go:34", after := #[{ on := 6, ground := Ground.data }, { on := 2, ground := Ground.chain }], guard := none }) (v := ?_) rfl (by kernel_rfl) (by kernel_rfl) (by kernel_rfl) (fun _ _ _ h => h) (Or.inl ⟨by rfl, ?_⟩) hHeld ?_
  rotate_left
  · intro u hSw
    go_simp
    try with_reducible rfl
  try simp only [Act.put, List.setIfInBounds_toArray, List.set_cons_zero, List.set_cons_succ]
  refine wpAnyH_take (i := 8) (oi := { dst := some 26, op := Op.move (Operand.tmp 1), type := 67, pos := "law.go:34", after := #[{ on := 7, ground := Ground.guard }], guard := some (7, true) }) (v := ?_) rfl (by kernel_rfl) (by kernel_rfl) (by kernel_rfl) (fun _ _ _ h => h) (Or.inl ⟨by rfl, ?_⟩) hHeld ?_
  rotate_left
  · intro u hSw
    go_simp
    try with_reducible rfl
  try simp only [Act.put, List.setIfInBounds_toArray, List.set_cons_zero, List.set_cons_succ]
  refine wpAnyH_take (i := 9) (oi := { dst := some 27, op := Op.indexAddr 67 (Operand.tmp 26) (Operand.const (Value.int IntKind.i64 0)), type := 0, pos := "law.go:34", after := #[{ on := 8, ground := Ground.data }, { on := 7, ground := Ground.guard }], guard := some (7, true) }) (v := ?_) rfl (by kernel_rfl) (by kernel_rfl) (by kernel_rfl) (fun _ _ _ h => h) (Or.inl ⟨by rfl, ?_⟩) hHeld ?_
  rotate_left
  · intro u hSw
    go_simp
    try with_reducible rfl
  try simp only [Act.put, List.setIfInBounds_toArray, List.set_cons_zero, List.set_cons_succ]
  refine wpAnyH_take (i := 10) (oi := { dst := some 28, op := Op.load 31 (Operand.tmp 27), type := 31, pos := "law.go:34", after := #[{ on := 9, ground := Ground.data }, { on := 7, ground := Ground.guard }], guard := some (7, true) }) (v := ?_) rfl (by kernel_rfl) (by kernel_rfl) (by kernel_rfl) (fun _ _ _ h => h) (Or.inl ⟨by rfl, ?_⟩) hHeld ?_
  rotate_left
  · intro u hSw
    have k9 := HK0.out u hSw
    go_simp
    try with_reducible rfl
  try simp only [Act.put, List.setIfInBounds_toArray, List.set_cons_zero, List.set_cons_succ]
  refine wpAnyH_take (i := 11) (oi := { dst := some 29, op := Op.convert 31 9 (Operand.tmp 28), type := 9, pos := "law.go:34", after := #[{ on := 10, ground := Ground.data }, { on := 7, ground := Ground.guard }], guard := some (7, true) }) (v := ?_) rfl (by kernel_rfl) (by kernel_rfl) (by kernel_rfl) (fun _ _ _ h => h) (Or.inl ⟨by rfl, ?_⟩) hHeld ?_
  rotate_left
  · intro u hSw
    have k9 := HCV.out u hSw
    go_simp
    try with_reducible rfl
  try simp only [Act.put, List.setIfInBounds_toArray, List.set_cons_zero, List.set_cons_succ]
  refine wpAnyH_ready (rs := [12]) (by kernel_rfl) (by simp) ?_
  refine (AllReadyH.cons (o := { dst := some 30, op := Op.buildSlice 31 2 #[(0, Operand.const (Value.int IntKind.u8 4)), (1, Operand.const (Value.int IntKind.u8 14))], type := 31, pos := "law.go:34", after := #[{ on := 7, ground := Ground.guard }], guard := some (7, true) }) rfl (fun K hK => ?_) AllReadyH.nil)
  obtain ⟨V1, hV1⟩ : ∃ V1, V1 = X0.alloc (.cells #[.int .u8 4, .int .u8 14] 5) := ⟨_, rfl⟩
  have hv1 : Below X0.heap.size X0 V1 := by rw [hV1]; exact (Below.refl _ _).alloc (Nat.le_refl _) _
  have B1 : Below V.heap.size V V1 := B0.trans (hv1.mono B0.size)
  have hl1 : V1.heap[X0.heap.size]? = some (.cells (vfs [4, 14]) 5 (0, 0)) := by rw [hV1]; exact heap_alloc_last _ _
  have hcv := conv8 (la := 2) (ca := 2) (xs := [4, 14]) rfl (row8_own hl1)
  rw [show str8 [4, 14] = { data := #[4, 14] } by decide +kernel] at hcv
  have HV1 : Hid (V1 = X0.alloc (.cells #[.int .u8 4, .int .u8 14] 5)) := hV1
  clear hV1 hl1 hv1
  go_simp
  rw [← HV1.out]
  refine hK.out _ _ ?_ (fun hHeld => ?_)
  · exact B1
  clear hK K
  try simp only [Act.put, List.setIfInBounds_toArray, List.set_cons_zero, List.set_cons_succ]
  refine wpAnyH_ready (rs := [13]) (by kernel_rfl) (by simp) ?_
  refine (AllReadyH.cons (o := { dst := some 31, op := Op.convert 31 9 (Operand.tmp 30), type := 9, pos := "law.go:34", after := #[{ on := 12, ground := Ground.data }, { on := 7, ground := Ground.guard }], guard := some (7, true) }) rfl (fun K hK => ?_) AllReadyH.nil)
  go_simp
  refine hK.out _ _ ?_ (fun hHeld => ?_)
  · exact B1
  clear hK K
  try simp only [Act.put, List.setIfInBounds_toArray, List.set_cons_zero, List.set_cons_succ]
  refine wpAnyH_take (i := 14) (oi := { dst := some 32, op := Op.binOp BinOp.eql 9 (Operand.tmp 29) (Operand.tmp 31) 9, type := 4, pos := "law.go:34", after := #[{ on := 11, ground := Ground.data }, { on := 13, ground := Ground.data }, { on := 7, ground := Ground.guard }], guard := some (7, true) }) (v := ?_) rfl (by kernel_rfl) (by kernel_rfl) (by kernel_rfl) (fun _ _ _ h => h) (Or.inl ⟨by rfl, ?_⟩) hHeld ?_
  rotate_left
  · intro u hSw
    have k9 : ((ByteArray.mk #[4, 14]).toList == (ByteArray.mk #[4, 14]).toList) = true := by decide +kernel
    go_simp
    try with_reducible rfl
  try simp only [Act.put, List.setIfInBounds_toArray, List.set_cons_zero, List.set_cons_succ]
  refine wpAnyH_take (i := 15) (oi := { dst := some 33, op := Op.pick (Operand.tmp 25) (Operand.tmp 32) (Operand.const (Value.bool false)), type := 4, pos := "law.go:34", after := #[{ on := 7, ground := Ground.data }, { on := 14, ground := Ground.data }], guard := none }) (v := ?_) rfl (by kernel_rfl) (by kernel_rfl) (by kernel_rfl) (fun _ _ _ h => h) (Or.inl ⟨by rfl, ?_⟩) hHeld ?_
  rotate_left
  · intro u hSw
    go_simp
    try with_reducible rfl
  try simp only [Act.put, List.setIfInBounds_toArray, List.set_cons_zero, List.set_cons_succ]
  refine wpAnyH_take (i := 16) (oi := { dst := some 34, op := Op.move (Operand.tmp 33), type := 4, pos := "law.go:34", after := #[{ on := 15, ground := Ground.data }, { on := 7, ground := Ground.chain }], guard := none }) (v := ?_) rfl (by kernel_rfl) (by kernel_rfl) (by kernel_rfl) (fun _ _ _ h => h) (Or.inl ⟨by rfl, ?_⟩) hHeld ?_
  rotate_left
  · intro u hSw
    go_simp
    try with_reducible rfl
  try simp only [Act.put, List.setIfInBounds_toArray, List.set_cons_zero, List.set_cons_succ]
  refine wpAnyH_take (i := 17) (oi := { dst := some 35, op := Op.move (Operand.tmp 4), type := 29, pos := "law.go:34", after := #[{ on := 16, ground := Ground.guard }], guard := some (16, true) }) (v := ?_) rfl (by kernel_rfl) (by kernel_rfl) (by kernel_rfl) (fun _ _ _ h => h) (Or.inl ⟨by rfl, ?_⟩) hHeld ?_
  rotate_left
  · intro u hSw
    go_simp
    try with_reducible rfl
  try simp only [Act.put, List.setIfInBounds_toArray, List.set_cons_zero, List.set_cons_succ]
  refine wpAnyH_take (i := 18) (oi := { dst := some 36, op := Op.binOp BinOp.eql 29 (Operand.tmp 35) (Operand.const Value.nilIface) 29, type := 4, pos := "law.go:34", after := #[{ on := 17, ground := Ground.data }, { on := 16, ground := Ground.guard }], guard := some (16, true) }) (v := ?_) rfl (by kernel_rfl) (by kernel_rfl) (by kernel_rfl) (fun _ _ _ h => h) (Or.inl ⟨by rfl, ?_⟩) hHeld ?_
  rotate_left
  · intro u hSw
    go_simp
    try with_reducible rfl
  try simp only [Act.put, List.setIfInBounds_toArray, List.set_cons_zero, List.set_cons_succ]
  refine wpAnyH_take (i := 19) (oi := { dst := some 37, op := Op.pick (Operand.tmp 34) (Operand.tmp 36) (Operand.const (Value.bool false)), type := 4, pos := "law.go:34", after := #[{ on := 16, ground := Ground.data }, { on := 18, ground := Ground.data }], guard := none }) (v := ?_) rfl (by kernel_rfl) (by kernel_rfl) (by kernel_rfl) (fun _ _ _ h => h) (Or.inl ⟨by rfl, ?_⟩) hHeld ?_
  rotate_left
  · intro u hSw
    go_simp
    try with_reducible rfl
  try simp only [Act.put, List.setIfInBounds_toArray, List.set_cons_zero, List.set_cons_succ]
  refine wpAnyH_take (i := 20) (oi := { dst := some 38, op := Op.move (Operand.tmp 37), type := 4, pos := "law.go:34", after := #[{ on := 19, ground := Ground.data }, { on := 16, ground := Ground.chain }], guard := none }) (v := ?_) rfl (by kernel_rfl) (by kernel_rfl) (by kernel_rfl) (fun _ _ _ h => h) (Or.inl ⟨by rfl, ?_⟩) hHeld ?_
  rotate_left
  · intro u hSw
    go_simp
    try with_reducible rfl
  try simp only [Act.put, List.setIfInBounds_toArray, List.set_cons_zero, List.set_cons_succ]
  refine wpAnyH_take (i := 21) (oi := { dst := some 39, op := Op.move (Operand.tmp 3), type := 54, pos := "law.go:34", after := #[{ on := 20, ground := Ground.guard }], guard := some (20, true) }) (v := ?_) rfl (by kernel_rfl) (by kernel_rfl) (by kernel_rfl) (fun _ _ _ h => h) (Or.inl ⟨by rfl, ?_⟩) hHeld ?_
  rotate_left
  · intro u hSw
    go_simp
    try with_reducible rfl
  try simp only [Act.put, List.setIfInBounds_toArray, List.set_cons_zero, List.set_cons_succ]
  refine wpAnyH_take (i := 22) (oi := { dst := some 40, op := Op.binOp BinOp.neq 54 (Operand.tmp 39) (Operand.const (Value.pointer none)) 54, type := 4, pos := "law.go:34", after := #[{ on := 21, ground := Ground.data }, { on := 20, ground := Ground.guard }], guard := some (20, true) }) (v := ?_) rfl (by kernel_rfl) (by kernel_rfl) (by kernel_rfl) (fun _ _ _ h => h) (Or.inl ⟨by rfl, ?_⟩) hHeld ?_
  rotate_left
  · intro u hSw
    go_simp
    try with_reducible rfl
  try simp only [Act.put, List.setIfInBounds_toArray, List.set_cons_zero, List.set_cons_succ]
  refine wpAnyH_take (i := 23) (oi := { dst := some 41, op := Op.pick (Operand.tmp 38) (Operand.tmp 40) (Operand.const (Value.bool false)), type := 4, pos := "law.go:34", after := #[{ on := 20, ground := Ground.data }, { on := 22, ground := Ground.data }], guard := none }) (v := ?_) rfl (by kernel_rfl) (by kernel_rfl) (by kernel_rfl) (fun _ _ _ h => h) (Or.inl ⟨by rfl, ?_⟩) hHeld ?_
  rotate_left
  · intro u hSw
    go_simp
    try with_reducible rfl
  try simp only [Act.put, List.setIfInBounds_toArray, List.set_cons_zero, List.set_cons_succ]
  refine wpAnyH_take (i := 24) (oi := { dst := some 42, op := Op.move (Operand.tmp 41), type := 4, pos := "law.go:34", after := #[{ on := 23, ground := Ground.data }, { on := 20, ground := Ground.chain }], guard := none }) (v := ?_) rfl (by kernel_rfl) (by kernel_rfl) (by kernel_rfl) (fun _ _ _ h => h) (Or.inl ⟨by rfl, ?_⟩) hHeld ?_
  rotate_left
  · intro u hSw
    go_simp
    try with_reducible rfl
  try simp only [Act.put, List.setIfInBounds_toArray, List.set_cons_zero, List.set_cons_succ]
  refine wpAnyH_take (i := 25) (oi := { dst := some 43, op := Op.move (Operand.tmp 3), type := 54, pos := "law.go:34", after := #[{ on := 24, ground := Ground.guard }], guard := some (24, true) }) (v := ?_) rfl (by kernel_rfl) (by kernel_rfl) (by kernel_rfl) (fun _ _ _ h => h) (Or.inl ⟨by rfl, ?_⟩) hHeld ?_
  rotate_left
  · intro u hSw
    go_simp
    try with_reducible rfl
  try simp only [Act.put, List.setIfInBounds_toArray, List.set_cons_zero, List.set_cons_succ]
  refine wpAnyH_ready (rs := [26]) (by kernel_rfl) (by simp) ?_
  refine (AllReadyH.cons (o := { dst := some 44, op := Op.call { callee := Callee.value (Operand.func 34), args := #[Operand.tmp 43], argTypes := #[54] }, type := 22, pos := "law.go:34", after := #[{ on := 25, ground := Ground.data }, { on := 24, ground := Ground.chain }, { on := 24, ground := Ground.guard }], guard := some (24, true) }) rfl (fun K hK => ?_) AllReadyH.nil)
  go_simp
  refine Calls.mono (wants_F (HM.out.below B1)) ?_
  rintro e V2 ⟨v, n, rfl, hn, ho, hv2⟩
  obtain rfl : n = 2 := hn
  obtain ⟨a9, c9, rfl⟩ := own_shape ho
  have B2 : Below V.heap.size V V2 := B1.trans (hv2.mono B1.size)
  clear ho
  go_wp2_with fail
  refine hK.out _ _ ?_ (fun hHeld => ?_)
  · exact B2
  clear hK K
  try simp only [Act.put, List.setIfInBounds_toArray, List.set_cons_zero, List.set_cons_succ]
  refine wpAnyH_take (i := 27) (oi := { dst := some 45, op := Op.call { callee := Callee.builtin Builtin.len, args := #[Operand.tmp 44], argTypes := #[22] }, type := 3, pos := "law.go:34", after := #[{ on := 26, ground := Ground.data }, { on := 24, ground := Ground.guard }], guard := some (24, true) }) (v := ?_) rfl (by kernel_rfl) (by kernel_rfl) (by kernel_rfl) (fun _ _ _ h => h) (Or.inl ⟨by rfl, ?_⟩) hHeld ?_
  rotate_left
  · intro u hSw
    go_simp
    try with_reducible rfl
  try simp only [Act.put, List.setIfInBounds_toArray, List.set_cons_zero, List.set_cons_succ]
  refine wpAnyH_take (i := 28) (oi := { dst := some 46, op := Op.binOp BinOp.eql 3 (Operand.tmp 45) (Operand.const (Value.int IntKind.i64 2)) 3, type := 4, pos := "law.go:34", after := #[{ on := 27, ground := Ground.data }, { on := 24, ground := Ground.guard }], guard := some (24, true) }) (v := ?_) rfl (by kernel_rfl) (by kernel_rfl) (by kernel_rfl) (fun _ _ _ h => h) (Or.inl ⟨by rfl, ?_⟩) hHeld ?_
  rotate_left
  · intro u hSw
    go_simp
    try with_reducible rfl
  try simp only [Act.put, List.setIfInBounds_toArray, List.set_cons_zero, List.set_cons_succ]
  refine wpAnyH_take (i := 29) (oi := { dst := some 47, op := Op.pick (Operand.tmp 42) (Operand.tmp 46) (Operand.const (Value.bool false)), type := 4, pos := "law.go:34", after := #[{ on := 24, ground := Ground.data }, { on := 28, ground := Ground.data }], guard := none }) (v := ?_) rfl (by kernel_rfl) (by kernel_rfl) (by kernel_rfl) (fun _ _ _ h => h) (Or.inl ⟨by rfl, ?_⟩) hHeld ?_
  rotate_left
  · intro u hSw
    go_simp
    try with_reducible rfl
  try simp only [Act.put, List.setIfInBounds_toArray, List.set_cons_zero, List.set_cons_succ]
  refine wpAnyH_take (i := 30) (oi := { dst := some 0, op := Op.assign (Operand.tmp 47), type := 4, pos := "law.go:34", after := #[{ on := 29, ground := Ground.data }, { on := 26, ground := Ground.chain }, { on := 0, ground := Ground.phase }, { on := 1, ground := Ground.phase }, { on := 2, ground := Ground.phase }, { on := 3, ground := Ground.phase }, { on := 4, ground := Ground.phase }, { on := 5, ground := Ground.phase }, { on := 6, ground := Ground.phase }, { on := 7, ground := Ground.phase }, { on := 8, ground := Ground.phase }, { on := 9, ground := Ground.phase }, { on := 10, ground := Ground.phase }, { on := 11, ground := Ground.phase }, { on := 12, ground := Ground.phase }, { on := 13, ground := Ground.phase }, { on := 14, ground := Ground.phase }, { on := 15, ground := Ground.phase }, { on := 16, ground := Ground.phase }, { on := 17, ground := Ground.phase }, { on := 18, ground := Ground.phase }, { on := 19, ground := Ground.phase }, { on := 20, ground := Ground.phase }, { on := 21, ground := Ground.phase }, { on := 22, ground := Ground.phase }, { on := 23, ground := Ground.phase }, { on := 24, ground := Ground.phase }, { on := 25, ground := Ground.phase }, { on := 26, ground := Ground.phase }, { on := 27, ground := Ground.phase }, { on := 28, ground := Ground.phase }, { on := 29, ground := Ground.phase }], guard := none }) (v := ?_) rfl (by kernel_rfl) (by kernel_rfl) (by kernel_rfl) (fun _ _ _ h => h) (Or.inl ⟨by rfl, ?_⟩) hHeld ?_
  rotate_left
  · intro u hSw
    go_simp
    try with_reducible rfl
  try simp only [Act.put, List.setIfInBounds_toArray, List.set_cons_zero, List.set_cons_succ]
  refine wpAnyH_done (by kernel_rfl) ?_ _
  refine NoPanic.normal ?_
  have HBF : Hid (Below w.heap.size w V2) := HBV.out.trans (B2.mono HBV.out.size)
  clear B2 B1 B0
  go_wp2
  go_ret
  exact ⟨rfl, HBF.out⟩
end Go.Proofs.YtanmgpgiepkogaaDoor

/- The errors that the rows of stage 10 list. -/
namespace Go.Proofs.YtanmgpgiepkogaaDoor
open Go.RowKit Gf
set_option linter.unusedVariables false
set_option maxRecDepth 20000
def gsX : List Nat := [6, 2, 0, 8, 9, 1]
def ofX (es : List Addr) (n : Nat) : Addr := es.getD (if n = 3 then 0 else if n = 4 then 1 else if n = 6 then 2 else if n = 7 then 3 else if n = 8 then 4 else 5) ⟨0, 0, none⟩
theorem errsX_of {w : World} {es : List Addr} (h : ErrsAt w gsX es) : ErrsX w (ofX es) := by
  have hl : es.length = 6 := h.1.symm
  match es, hl with
  | [a, b, c, d, e, f], _ => exact ⟨(h.2.2 0 _ a rfl rfl).1, (h.2.2 1 _ b rfl rfl).1, (h.2.2 2 _ c rfl rfl).1, (h.2.2 3 _ d rfl rfl).1, (h.2.2 4 _ e rfl rfl).1, (h.2.2 5 _ f rfl rfl).1⟩
end Go.Proofs.YtanmgpgiepkogaaDoor

/- The statements' own way to fill inputs out of bytes. -/
namespace Go.Proofs.YtanmgpgiepkogaaDoor
open Go.RowKit Gf
set_option linter.unusedVariables false
set_option maxRecDepth 20000
set_option linter.unusedSimpArgs false
/-- byte j of filled list i -/
def filF (h : Nat) (xs : List F) (i j : Nat) : F := if xs.length = 0 then 0 else at8 xs ((i * h + j) % xs.length)
def filL (n h : Nat) (xs : List F) : List (List F) := (List.range n).map fun i => rowF h (filF h xs i)
theorem filL_len (n h : Nat) (xs : List F) : (filL n h xs).length = n := by simp [filL]
theorem filL_at {n h i : Nat} {xs : List F} (hi : i < n) : (filL n h xs)[i]? = some (rowF h (filF h xs i)) := by simp [filL, hi]
/-- lists of bytes in blocks of their own behind a list of one's own -/
structure FilW (w : World) (B : Nat) (v : Value) (n h : Nat) (qs : Nat → Nat) (f : Nat → Nat → F) : Prop where
  own : w.ownsRow B 31 1 v n ((List.range n).map fun i => .slice (some ⟨qs i, 0, none⟩) h h)
  row : ∀ i, i < n → w.heap[qs i]? = some (.cells (vfs (rowF h (f i))) 5 (0, 0))
  low : ∀ i, i < n → B ≤ qs i
  rise : ∀ i j, i < j → j < n → qs i < qs j
theorem FilW.below {w w' : World} {B n h : Nat} {v : Value} {qs : Nat → Nat} {f : Nat → Nat → F} (hf : FilW w B v n h qs f) (hb : Below w.heap.size w w') : FilW w' B v n h qs f :=
  { hf with own := own_below hf.own hb, row := fun i hi => heap_later (hf.row i hi) hb }
theorem FilW.grown {w w' : World} {B n h q : Nat} {v : Value} {qs : Nat → Nat} {f : Nat → Nat → F} {cs : Array Value} {fr : Nat × Nat} (hf : FilW w B v n h qs f) (hk : w.heap[q]? = some (.cells cs 5 fr)) (hg : w.grownBy w' (some q)) (hq : ∀ i, i < n → qs i ≠ q) : FilW w' B v n h qs f :=
  { hf with own := own_kind hf.own hk (by decide) hg, row := fun i hi => (hg.block (qs i) (ltHeap (hf.row i hi)) (fun e => hq i hi (Option.some.inj e))).trans (hf.row i hi) }
theorem FilW.slice {w : World} {B n h : Nat} {v : Value} {qs : Nat → Nat} {f : Nat → Nat → F} (hf : FilW w B v n h qs f) : ∃ a c, v = .slice a n c := own_shape hf.own
theorem FilW.rows {w : World} {B n h c : Nat} {a : Option Addr} {qs : Nat → Nat} {f : Nat → Nat → F} (hf : FilW w B (.slice a n c) n h qs f) : Rows8 w a ((List.range n).map fun i => rowF h (f i)) := by
  rcases hf.own.2 with ⟨e, h0⟩ | ⟨g, cap, cur, e, hB, hg, hle, h5, h6, h7⟩
  · subst h0
    exact .inl rfl
  · cases e
    refine .inr ⟨g, 0, rfl, fun j xs hj => ?_⟩
    have hjn : j < n := by
      have := (List.getElem?_eq_some_iff.1 hj).1
      simpa using this
    rw [List.getElem?_map, List.getElem?_range hjn, Option.map_some] at hj
    obtain rfl := Option.some.inj hj
    refine ⟨some ⟨qs j, 0, none⟩, h, ?_, row8_own (hf.row j hjn)⟩
    rw [rowF_len, Nat.zero_add]
    have h8 : cur[j]? = some (.slice (some ⟨qs j, 0, none⟩) h h) := by
      have h9 : (cur.toList.take (n * 1))[j]? = some (.slice (some ⟨qs j, 0, none⟩) h h) := by
        rw [h7, List.getElem?_map, List.getElem?_range hjn]; rfl
      rw [List.getElem?_take, if_pos (by omega)] at h9
      simpa using h9
    exact cellAt hg j _ h8
theorem FilW.cell {w : World} {B n h c i : Nat} {a : Option Addr} {qs : Nat → Nat} {f : Nat → Nat → F} (hf : FilW w B (.slice a n c) n h qs f) (hi : i < n) : ∃ g cs, a = some ⟨g, 0, none⟩ ∧ w.heap[g]? = some (.cells cs 31 (0, 0)) ∧ cs[i]? = some (.slice (some ⟨qs i, 0, none⟩) h h) ∧ B ≤ g := by
  rcases hf.own.2 with ⟨e, h0⟩ | ⟨g, cap, cur, e, hB, hg, hle, h5, h6, h7⟩
  · omega
  · cases e
    have h9 : (cur.toList.take (n * 1))[i]? = some (.slice (some ⟨qs i, 0, none⟩) h h) := by
      rw [h7, List.getElem?_map, List.getElem?_range hi]; rfl
    rw [List.getElem?_take, if_pos (by omega)] at h9
    exact ⟨g, cur, rfl, hg, by simpa using h9, hB⟩
theorem FilW.poke {w w' : World} {B n h k : Nat} {v : Value} {qs : Nat → Nat} {f f' : Nat → Nat → F} (hf : FilW w B v n h qs f) (hk : k < n) (hg : w.grownBy w' (some (qs k))) (hr : w'.heap[qs k]? = some (.cells (vfs (rowF h (f' k))) 5 (0, 0))) (he : ∀ i, i < n → i ≠ k → f' i = f i) : FilW w' B v n h qs f' := by
  refine { hf with own := own_kind hf.own (hf.row k hk) (by decide) hg, row := fun i hi => ?_ }
  by_cases e : i = k
  · subst e; exact hr
  · rw [he i hi e]
    refine (hg.block (qs i) (ltHeap (hf.row i hi)) (fun e2 => ?_)).trans (hf.row i hi)
    have e3 := Option.some.inj e2
    rcases Nat.lt_or_gt_of_ne e with h1 | h1
    · have := hf.rise i k h1 hk; omega
    · have := hf.rise k i h1 hi; omega
theorem FilW.congr {w : World} {B n h : Nat} {v : Value} {qs : Nat → Nat} {f f' : Nat → Nat → F} (hf : FilW w B v n h qs f) (he : ∀ i, i < n → f' i = f i) : FilW w B v n h qs f' :=
  { hf with row := fun i hi => by rw [he i hi]; exact hf.row i hi }
theorem FilW.next {X Y : World} {B n h q g c : Nat} {v : Value} {qs : Nat → Nat} {f : Nat → Nat → F} (hf : FilW X B v n h qs f) (hlt : ∀ i, i < n → qs i < q) (hqB : B ≤ q) (hr : X.heap[q]? = some (.cells (vfs (rowF h (f n))) 5 (0, 0))) (hg : X.grownBy Y v.ownBlock)
    (ho : Y.ownsRow B 31 1 (.slice (some ⟨g, 0, none⟩) (n + 1) c) (n + 1) (((List.range n).map fun i => .slice (some ⟨qs i, 0, none⟩) h h) ++ [.slice (some ⟨q, 0, none⟩) h h])) : FilW Y B (.slice (some ⟨g, 0, none⟩) (n + 1) c) (n + 1) h (fun i => if i = n then q else qs i) f := by
  have hox := hf.own
  refine ⟨?_, fun i hi => ?_, fun i hi => ?_, fun i j hij hj => ?_⟩
  · have e : ((List.range (n + 1)).map fun i => Value.slice (some ⟨if i = n then q else qs i, 0, none⟩) h h) = ((List.range n).map fun i => Value.slice (some ⟨qs i, 0, none⟩) h h) ++ [.slice (some ⟨q, 0, none⟩) h h] := by
      rw [List.range_succ, List.map_append]
      congr 1
      · apply List.map_congr_left
        intro i hi
        have := List.mem_range.1 hi
        rw [if_neg (by omega)]
      · simp
    rw [e]; exact ho
  · by_cases e : i = n
    · subst e; simp only [if_true]; exact own_other hox hg hr (by decide)
    · simp only [e, if_false]; exact own_other hox hg (hf.row i (by omega)) (by decide)
  · by_cases e : i = n
    · simp only [e, if_true]; exact hqB
    · simp only [e, if_false]; exact hf.low i (by omega)
  · have hin : i ≠ n := by omega
    simp only [hin, if_false]
    by_cases e : j = n
    · simp only [e, if_true]; exact hlt i (by omega)
    · simp only [e, if_false]; exact hf.rise i j hij (by omega)
set_option maxRecDepth 100000 in
set_option maxHeartbeats 8000000 in
theorem filled_F (n h lb cb : Nat) (ba : Option Addr) (xs : List F) (w : World) (hn : n ≤ 64) (hh : h ≤ 64) (hlb : lb = xs.length) (hl9 : lb ≤ 140737488355328) (hX : Row8 w ba xs) :
    Calls Tryd.prog 33 #[.int .i64 n, .int .i64 h, .slice ba lb cb] w fun e w' => ∃ v qs, e = .returned v ∧ FilW w' w.heap.size v n h qs (filF h xs) ∧ Below w.heap.size w w' := by
  have HX : Hid (Row8 w ba xs) := hX
  have HLB : Hid (lb = xs.length) := hlb
  have hb0 : Below w.heap.size w (w.alloc (.cells #[] 31)) := (Below.refl _ _).alloc (Nat.le_refl _) _
  have HB0 : Hid _ := hb0
  have HF0 : Hid (FilW (w.alloc (.cells #[] 31)) w.heap.size (.slice (some ⟨w.heap.size, 0, none⟩) 0 0) 0 h (fun _ => 0) (filF h xs)) :=
    ⟨own_empty (heap_alloc_last _ _) (Nat.le_refl _), fun i hi => absurd hi (Nat.not_lt_zero _), fun i hi => absurd hi (Nat.not_lt_zero _), fun i j _ hj => absurd hj (Nat.not_lt_zero _)⟩
  clear hX hlb hb0
  go_enter Tryd.func33, Tryd.ntmps33
  go_wp2
  go_loopw [8, 7] (fun i v wr => ∃ (k : Nat) (qs : Nat → Nat), k ≤ n ∧ i = .int .i64 k ∧ FilW wr w.heap.size v k h qs (filF h xs) ∧ Below w.heap.size w wr) (fun i _ _ => n - (intOf i).toNat)
  case atStart => exact ⟨0, _, Nat.zero_le _, rfl, HF0.out, HB0.out⟩
  case round =>
    obtain ⟨k, qs, hk, rfl, hf, hb⟩ := hrel
    have HF : Hid _ := hf
    have HB : Hid (Below w.heap.size w wr) := hb
    obtain ⟨av, cv, rfl⟩ := hf.slice
    clear hf hb HF0 HB0
    by_cases hlt : k < n
    · have mk3 := fun u : World => run_make8 h (by omega) u
      generalize wr = wo at *
      obtain ⟨q, hq⟩ : ∃ q, q = wo.heap.size := ⟨_, rfl⟩
      obtain ⟨W, hW⟩ : ∃ W, W = wo.alloc (.cells (vfs (zeros h)) 5) := ⟨_, rfl⟩
      have hbW : Below wo.heap.size wo W := by rw [hW]; exact (Below.refl _ _).alloc (Nat.le_refl _) _
      have HQE : Hid (q = wo.heap.size) := hq
      have HBW : Hid (Below wo.heap.size wo W) := hbW
      have HR0' : Hid (W.heap[q]? = some (.cells (vfs (zeros h)) 5 (0, 0))) := by show _ = _; rw [hW, hq]; exact heap_alloc_last _ _
      have HR0 : Hid (W.heap[q]? = some (.cells (vfs (rowF h (fun t => if t < 0 then filF h xs k t else 0))) 5 (0, 0))) := by
        show _ = _
        simp only [Nat.not_lt_zero, if_false]
        rw [← zeros_rowF, hW, hq]; exact heap_alloc_last _ _
      have HWE : Hid (W = wo.alloc (.cells (vfs (zeros h)) 5)) := hW
      clear hq hW hbW
      go_upto_region 6 with fail
      rw [← HWE.out, ← HQE.out]
      clear HWE mk3
      go_wp2
      go_loopw [21] (fun i wr => ∃ j : Nat, j ≤ h ∧ i = .int .i64 j ∧ W.grownBy wr (some q) ∧ wr.heap[q]? = some (.cells (vfs (rowF h (fun t => if t < j then filF h xs k t else 0))) 5 (0, 0))) (fun i _ => h - (intOf i).toNat)
      case atStart => exact ⟨0, Nat.zero_le _, rfl, World.grownBy.refl _ _, HR0.out⟩
      case round =>
        obtain ⟨j, hj, rfl, hg, hr⟩ := hrel
        have HG : Hid (W.grownBy wr (some q)) := hg
        have HR : Hid (wr.heap[q]? = some (.cells (vfs (rowF h (fun t => if t < j then filF h xs k t else 0))) 5 (0, 0))) := hr
        clear hg hr HR0
        by_cases hlj : j < h
        · by_cases h0 : lb = 0
          · have hx0 : xs.length = 0 := by rw [← HLB.out]; exact h0
            have HRN : Hid (wr.heap[q]? = some (.cells (vfs (rowF h (fun t => if t < j + 1 then filF h xs k t else 0))) 5 (0, 0))) := by
              show _ = _
              rw [HR.out]
              congr 3
              refine rowF_congr fun t _ => ?_
              simp only [filF, hx0, if_true]
              simp
            clear hx0
            subst h0
            go_wp2
            exact ⟨⟨j + 1, by omega, by go_num, HG.out, HRN.out⟩, by simp [intOf]; omega⟩
          · have hlb0 : 0 < xs.length := by rw [← HLB.out]; omega
            obtain ⟨p, hp⟩ : ∃ p, p = (k * h + j) % lb := ⟨_, rfl⟩
            have hpl : p < lb := by rw [hp]; exact Nat.mod_lt _ (by omega)
            have hkh : k * h ≤ 4096 := Nat.le_trans (Nat.mul_le_mul (show k ≤ 64 by omega) hh) (by decide)
            have hww : Below w.heap.size w wr := below_grownF (HB.out.trans (HBW.out.mono HB.out.size)) HG.out (by rw [HQE.out]; exact HB.out.size) (Nat.le_trans HB.out.size HBW.out.size)
            obtain ⟨rb, ro, rfl, _, hc⟩ := row8_get (row8_below HX.out hww) hlb0
            have c1 := hc p (by rw [← HLB.out]; exact hpl)
            have HPE : Hid (at8 xs p = filF h xs k j) := by
              show _ = _
              rw [filF, if_neg (by omega), hp, HLB.out]
            have hmul : IntKind.i64.wrap ((k : Int) * (h : Int)) = ((k * h : Nat) : Int) := by
              rw [show (k : Int) * (h : Int) = ((k * h : Nat) : Int) by simp, IntKind.wrap_i64]; omega
            have hadd : IntKind.i64.wrap (((k * h : Nat) : Int) + (j : Int)) = ((k * h + j : Nat) : Int) := by
              rw [show ((k * h : Nat) : Int) + (j : Int) = ((k * h + j : Nat) : Int) by simp, IntKind.wrap_i64]; omega
            have hrem : (((k * h + j : Nat) : Int)).tmod (lb : Int) = (p : Int) := by
              rw [hp, Int.tmod_eq_emod_of_nonneg (by omega)]; simp
            have k1 := cellAt HR.out j _ (vfs_get _ j (by rw [rowF_len]; exact hlj))
            have f1 : wr.frozen? ⟨q, j, none⟩ = false := frozen_of_row _ _ _ _ _ HR.out
            have hne : ¬ lb = 0 := h0
            have HGN : Hid (W.grownBy (wr.setCell ⟨q, j, none⟩ (.int .u8 ((at8 xs p).toNat : Int))) (some q)) := grownBy_setCell HG.out _
            have HRN : Hid ((wr.setCell ⟨q, j, none⟩ (.int .u8 ((at8 xs p).toNat : Int))).heap[q]? = some (.cells (vfs (rowF h (fun t => if t < j + 1 then filF h xs k t else 0))) 5 (0, 0))) := by
              show _ = _
              rw [heap_setCell_same _ _ _ _ _ _ HR.out]
              congr 2
              have e9 := vfs_set (rowF h (fun t => if t < j then filF h xs k t else 0)) j (at8 xs p)
              rw [show (Value.int .u8 ((at8 xs p).toNat : Int)) = vf (at8 xs p) from rfl] 
              refine (show (vfs _).setIfInBounds j (vf (at8 xs p)) = _ from e9).trans ?_
              rw [rowF_set]
              congr 1
              refine rowF_congr fun t _ => ?_
              by_cases e : t = j
              · subst e; rw [if_pos rfl, if_pos (by omega), HPE.out]
              · rw [if_neg e]
                by_cases e2 : t < j
                · rw [if_pos e2, if_pos (by omega)]
                · rw [if_neg e2, if_neg (by omega)]
            have hplI : (p : Int) < (lb : Int) := by omega
            have hdec : decide (0 < lb) = true := decide_eq_true (by omega)
            have hr1 : ((k : Int) * (h : Int) + (j : Int)) % (lb : Int) = (p : Int) := by rw [hp]; simp
            have hr2 : (k * h + j) % lb = p := hp.symm
            clear hc hww hp h0 hlb0 hrem
            go_wp2
            exact ⟨⟨j + 1, by omega, by go_num, HGN.out, HRN.out⟩, by simp [intOf]; omega⟩
        · obtain rfl : h = j := by omega
          have hrow : wr.heap[q]? = some (.cells (vfs (rowF h (filF h xs k))) 5 (0, 0)) := by
            rw [HR.out, rowF_congr (g := filF h xs k) fun t ht => if_pos ht]
          have hW : W.heap[q]? = some (.cells (vfs (zeros h)) 5 (0, 0)) := by
            have := HR0'.out
            exact this
          have hqs : ∀ i, i < k → qs i ≠ q := fun i hi => by have := ltHeap (HF.out.row i hi); rw [HQE.out]; omega
          have hfW := (HF.out.below HBW.out).grown hW HG.out hqs
          have hbr : Below w.heap.size w wr := below_grownF (HB.out.trans (HBW.out.mono HB.out.size)) HG.out (by rw [HQE.out]; exact HB.out.size) (Nat.le_trans HB.out.size HBW.out.size)
          have hba : Below wr.heap.size wr (wr.alloc (.cells #[.slice (some ⟨q, 0, none⟩) h h] 31)) := (Below.refl _ _).alloc (Nat.le_refl _) _
          obtain ⟨g, cap, w6, hrun, ho6, hgr, _⟩ := appendS (c := 1) 67 (own_below hfW.own hba) (cellAt (heap_alloc_last wr _) 0 _ rfl) rfl (by omega) (Nat.le_trans hbr.size hba.size)
          have HRun : Hid _ := hrun
          have HB6 : Hid (Below w.heap.size w w6) := below_own (hbr.trans (hba.mono hbr.size)) (own_below hfW.own hba) hgr (Nat.le_trans hbr.size hba.size)
          have HF6 : Hid (FilW w6 w.heap.size (.slice (some ⟨g, 0, none⟩) (k + 1) cap) (k + 1) h (fun i => if i = k then q else qs i) (filF h xs)) := by
            have hfX := hfW.below hba
            exact hfX.next (fun i hi => by have := ltHeap (HF.out.row i hi); rw [HQE.out]; omega) (by rw [HQE.out]; exact HB.out.size) (heap_later hrow hba) hgr ho6
          clear hrow hW hqs hfW hbr hba hrun ho6 hgr
          go_wp2_with (at_builtin; refine wpList_append_run rfl _ _ 67 rfl _ _ _ _ rfl rfl HRun.out ?_)
          exact ⟨⟨k + 1, _, by omega, by go_num, HF6.out, HB6.out⟩, by simp [intOf]; omega⟩
    · obtain rfl : n = k := by omega
      go_wp2
      go_ret
      exact ⟨_, qs, rfl, HF.out, HB.out⟩
end Go.Proofs.YtanmgpgiepkogaaDoor

/- Two machines side by side: what stays while they turn. -/
namespace Go.Proofs.YtanmgpgiepkogaaDoor
open Go.RowKit Gf
set_option linter.unusedVariables false
set_option maxRecDepth 20000
set_option linter.unusedSimpArgs false
/-- all blocks stay but some between lo and hi -/
structure Kp (lo hi : Nat) (W Z : World) : Prop where
  os : Z.os = W.os
  tape : Z.tape = W.tape
  output : Z.output = W.output
  size : W.heap.size ≤ Z.heap.size
  block : ∀ k, k < W.heap.size → (k < lo ∨ hi ≤ k) → Z.heap[k]? = W.heap[k]?
theorem Kp.refl (lo hi : Nat) (W : World) : Kp lo hi W W := ⟨rfl, rfl, rfl, Nat.le_refl _, fun _ _ _ => rfl⟩
theorem Kp.trans {lo hi : Nat} {W Y Z : World} (h : Kp lo hi W Y) (hg : Kp lo hi Y Z) : Kp lo hi W Z :=
  ⟨hg.os.trans h.os, hg.tape.trans h.tape, hg.output.trans h.output, Nat.le_trans h.size hg.size, fun k hk hk2 => (hg.block k (Nat.lt_of_lt_of_le hk h.size) hk2).trans (h.block k hk hk2)⟩
theorem Kp.grown {lo hi r : Nat} {W Y Z : World} (h : Kp lo hi W Y) (hg : Y.grownBy Z (some r)) (hr : lo ≤ r ∧ r < hi) : Kp lo hi W Z :=
  ⟨hg.os.trans h.os, hg.tape.trans h.tape, hg.output.trans h.output, Nat.le_trans h.size hg.size, fun k hk hk2 => (hg.block k (Nat.lt_of_lt_of_le hk h.size) (fun e => by have := Option.some.inj e; omega)).trans (h.block k hk hk2)⟩
theorem Kp.below {lo hi : Nat} {W Y Z : World} (h : Kp lo hi W Y) (hb : Below Y.heap.size Y Z) : Kp lo hi W Z :=
  ⟨hb.os.trans h.os, hb.tape.trans h.tape, hb.output.trans h.output, Nat.le_trans h.size hb.size, fun k hk hk2 => (hb.block k (Nat.lt_of_lt_of_le hk h.size)).trans (h.block k hk hk2)⟩
theorem Kp.heap {lo hi k : Nat} {o : Obj} {W Z : World} (h : Kp lo hi W Z) (ho : W.heap[k]? = some o) (hk : k < lo ∨ hi ≤ k) : Z.heap[k]? = some o := by
  have hl : k < W.heap.size := by
    by_cases hb : k < W.heap.size
    · exact hb
    · rw [Array.getElem?_eq_none (by omega)] at ho; cases ho
  exact (h.block k hl hk).trans ho
theorem Kp.low {B lo hi : Nat} {w W Z : World} (h : Kp lo hi W Z) (hb : Below B w W) (hB : B ≤ lo) (hBW : B ≤ W.heap.size) : Below B w Z :=
  hb.trans ⟨h.os, h.tape, h.output, h.size, fun k hk => h.block k (by omega) (.inl (by omega))⟩
theorem Kp.has8 {lo hi g c : Nat} {xs : List F} {W Z : World} (h : Kp lo hi W Z) (h8 : Has8 W g xs c) (hk : g < lo ∨ hi ≤ g) : Has8 Z g xs c := by
  obtain ⟨cur, h1, h2⟩ := h8
  exact ⟨cur, h.heap h1 hk, h2⟩
theorem Kp.filW {lo hi B n hh : Nat} {v : Value} {qs : Nat → Nat} {f : Nat → Nat → F} {V0 W Z : World} (h : Kp lo hi W Z) (hf : FilW V0 B v n hh qs f) (hb : Below V0.heap.size V0 W) (hlo : V0.heap.size ≤ lo) : FilW Z B v n hh qs f :=
  { hf with own := ⟨hf.own.1, hf.own.2.imp id fun ⟨g, cap, cur, h1, h2, h3, h4⟩ => ⟨g, cap, cur, h1, h2, h.heap (heap_later h3 hb) (.inl (by have := ltHeap h3; omega)), h4⟩⟩, row := fun i hi9 => h.heap (heap_later (hf.row i hi9) hb) (.inl (by have := ltHeap (hf.row i hi9); omega)) }
theorem Kp.outL {lo hi G ol h k : Nat} {qs cs : Nat → Nat} {X : Int → Nat → F} {ss : List Stp} {W Z : World} (hk : Kp lo hi W Z) (ho : OutL W G ol h qs cs X ss k) (hG : hi ≤ G) : OutL Z G ol h qs cs X ss k :=
  { ho with blk := hk.heap ho.blk (.inr hG), row := fun d hd => hk.has8 (ho.row d hd) (.inr (by have := ho.up d hd; omega)) }
theorem MacW.reN {N N' B : Nat} {w : World} {mb Fd : Nat} {ia oa sa : Option Addr} {il ic ol oc sl sc rg h : Nat} {ins outs : List Int} {ss : List Stp} {fd : Nat → Option (Option Addr × Nat)} {X : Int → Nat → F} {ov : Value} (hm : MacW N B w mb Fd ia oa sa il ic ol oc sl sc rg h ins outs ss fd X false ov) : MacW N' B w mb Fd ia oa sa il ic ol oc sl sc rg h ins outs ss fd X false ov :=
  { hm with out := fun e => by cases e }
end Go.Proofs.YtanmgpgiepkogaaDoor

/- What the document's own Meaning answers of programs in form. -/
namespace Go.Proofs.YtanmgpgiepkogaaDoor
open Go.RowKit Gf
set_option linter.unusedVariables false
set_option maxRecDepth 20000
set_option linter.unusedSimpArgs false
/-- unit rows in blocks of their own behind a list of one's own -/
structure UniW (w : World) (B : Nat) (v : Value) (n k : Nat) (qs : Nat → Nat) : Prop where
  own : w.ownsRow B 31 1 v k ((List.range k).map fun i => .slice (some ⟨qs i, 0, none⟩) n n)
  row : ∀ i, i < k → w.heap[qs i]? = some (.cells (vfs (rowF n (unX (i : Int)))) 5 (0, 0))
theorem UniW.rows {w : World} {B n k c : Nat} {a : Option Addr} {qs : Nat → Nat} (hf : UniW w B (.slice a k c) n k qs) : Rows8 w a ((List.range k).map fun (i : Nat) => rowF n (unX (i : Int))) := by
  rcases hf.own.2 with ⟨e, h0⟩ | ⟨g, cap, cur, e, hB, hg, hle, h5, h6, h7⟩
  · subst h0
    exact .inl rfl
  · cases e
    refine .inr ⟨g, 0, rfl, fun j xs hj => ?_⟩
    have hjn : j < k := by
      have := (List.getElem?_eq_some_iff.1 hj).1
      simpa using this
    rw [List.getElem?_map, List.getElem?_range hjn, Option.map_some] at hj
    obtain rfl := Option.some.inj hj
    refine ⟨some ⟨qs j, 0, none⟩, n, ?_, row8_own (hf.row j hjn)⟩
    rw [rowF_len, Nat.zero_add]
    have h9 : (cur.toList.take (k * 1))[j]? = some (.slice (some ⟨qs j, 0, none⟩) n n) := by
      rw [h7, List.getElem?_map, List.getElem?_range hjn]; rfl
    rw [List.getElem?_take, if_pos (by omega)] at h9
    exact cellAt hg j _ (by simpa using h9)
theorem UniW.next {X Y : World} {B n k q g c : Nat} {v : Value} {qs : Nat → Nat} (hf : UniW X B v n k qs) (hr : X.heap[q]? = some (.cells (vfs (rowF n (unX (k : Int)))) 5 (0, 0))) (hg : X.grownBy Y v.ownBlock)
    (ho : Y.ownsRow B 31 1 (.slice (some ⟨g, 0, none⟩) (k + 1) c) (k + 1) (((List.range k).map fun i => .slice (some ⟨qs i, 0, none⟩) n n) ++ [.slice (some ⟨q, 0, none⟩) n n])) : UniW Y B (.slice (some ⟨g, 0, none⟩) (k + 1) c) n (k + 1) (fun i => if i = k then q else qs i) := by
  refine ⟨?_, fun i hi => ?_⟩
  · have e : ((List.range (k + 1)).map fun i => Value.slice (some ⟨if i = k then q else qs i, 0, none⟩) n n) = ((List.range k).map fun i => Value.slice (some ⟨qs i, 0, none⟩) n n) ++ [.slice (some ⟨q, 0, none⟩) n n] := by
      rw [List.range_succ, List.map_append]
      congr 1
      · apply List.map_congr_left
        intro i hi
        have := List.mem_range.1 hi
        rw [if_neg (by omega)]
      · simp
    rw [e]; exact ho
  · by_cases e : i = k
    · subst e; simp only [if_true]; exact own_other hf.own hg hr (by decide)
    · simp only [e, if_false]; exact own_other hf.own hg (hf.row i (by omega)) (by decide)
theorem UniW.below {w w' : World} {B n k : Nat} {v : Value} {qs : Nat → Nat} (hf : UniW w B v n k qs) (hb : Below w.heap.size w w') : UniW w' B v n k qs := ⟨own_below hf.own hb, fun i hi => heap_later (hf.row i hi) hb⟩
theorem own_row9 {w : World} {B g i k n : Nat} {v u : Value} {qs : Nat → Nat} (hf : UniW w B v n k qs) {cs : Array Value} (hg : w.heap[g]? = some (.cells cs 5 (0, 0))) (hq : ∀ i, i < k → qs i ≠ g) : UniW (w.setCell ⟨g, i, none⟩ u) B v n k qs := by
  refine ⟨⟨hf.own.1, hf.own.2.imp id fun ⟨g', cap, cur, h1, h2, h3, h4⟩ => ⟨g', cap, cur, h1, h2, ?_, h4⟩⟩, fun j hj => (heap_setCell_other _ _ _ _ (hq j hj)).trans (hf.row j hj)⟩
  refine (heap_setCell_other _ _ _ _ (fun e => ?_)).trans h3
  have h5 : g' = g := e
  rw [h5, hg] at h3
  injection h3 with h6
  injection h6 with h6 h7 h8
  exact absurd h7 (by decide)
theorem below_of_grown9 {B r : Nat} {w0 w Z : World} (h : Below B w0 w) (hg : w.grownBy Z (some r)) (hr : B ≤ r) (hB : B ≤ w.heap.size) : Below B w0 Z :=
  h.trans ⟨hg.os, hg.tape, hg.output, hg.size, fun k hk => hg.block k (by omega) (fun e => by have := Option.some.inj e; omega)⟩
theorem row8_mat {Z Y : World} {M q : Nat} {a b : Int} {v : Value} {t : TypeId} {fr : Nat × Nat} {xs : List F} (hm : Z.heap[M]? = some (.cells #[.int .i64 a, .int .i64 b, v] t fr)) (hg : Z.grownBy Y (some M)) (hr : Row8 Z (some ⟨q, 0, none⟩) xs) : Row8 Y (some ⟨q, 0, none⟩) xs := by
  rcases hr with e | ⟨c, off, e, h⟩
  · exact .inl e
  · cases e
    by_cases h0 : xs.length = 0
    · exact .inl (List.eq_nil_of_length_eq_zero h0)
    · refine .inr ⟨_, _, rfl, fun j hj => cell_grown9 hg (h j hj) (fun e => ?_)⟩
      have h1 := h 0 (by omega)
      rw [e] at h1
      have h2 := cellAt hm 0 _ rfl
      rw [Nat.add_zero, h2] at h1
      cases h1
set_option maxRecDepth 100000 in
set_option maxHeartbeats 16000000 in
theorem rmeaning_F (ia oa sa : Option Addr) (il ic ol oc sl sc rg : Nat) (ins outs : List Int) (ss : List Stp) (w : World) (hP : PrgW w ia oa sa il ic ol oc sl sc ins outs ss) (hF : InF ins outs rg ss) :
    Calls Tryd.prog 20 #[.agg #[.slice ia il ic, .slice oa ol oc, .int .i64 rg, .slice sa sl sc]] w fun e w' => ∃ a' n cap', e = .returned (.agg #[.int .i64 ol, .int .i64 il, .slice a' n cap']) ∧ n = ol * il ∧ Row8 w' a' (meanL il ol ss) ∧ Below w.heap.size w w' := by
  have hil32 : il ≤ 32 := by rw [hP.eil]; exact goodH_len hF.1
  have hol32 : ol ≤ 32 := by rw [hP.eol]; exact goodH_len hF.2.1
  have HP : Hid (PrgW w ia oa sa il ic ol oc sl sc ins outs ss) := hP
  have HF : Hid (InF ins outs rg ss) := hF
  obtain ⟨N, hN⟩ : ∃ N, N = w.heap.size := ⟨_, rfl⟩
  have hA := holds_new (holds_new (holds_new (holds_nil w) #[.slice ia il ic, .slice oa ol oc, .int .i64 rg, .slice sa sl sc] 25) #[.int .i64 0, .int .i64 0, .slice none 0 0] 33) #[] 31
  simp only [World.size_alloc] at hA
  obtain ⟨W, hW⟩ : ∃ W, W = ((w.alloc (.cells #[.slice ia il ic, .slice oa ol oc, .int .i64 rg, .slice sa sl sc] 25)).alloc (.cells #[.int .i64 0, .int .i64 0, .slice none 0 0] 33)).alloc (.cells #[] 31) := ⟨_, rfl⟩
  rw [← hW, ← hN] at hA
  have hbW : Below w.heap.size w W := by rw [hW]; exact (((Below.refl _ w).alloc (Nat.le_refl _) _).alloc (by simp) _).alloc (by simp; omega) _
  have HBW : Hid (Below w.heap.size w W) := hbW
  have HPX : Hid (W.heap[N]? = some (.cells #[.slice ia il ic, .slice oa ol oc, .int .i64 rg, .slice sa sl sc] 25 (0, 0))) := holds_at hA 2 rfl
  have HRX : Hid (W.heap[N + 1]? = some (.cells #[.int .i64 0, .int .i64 0, .slice none 0 0] 33 (0, 0))) := holds_at hA 1 rfl
  have HU0 : Hid (UniW W (N + 2) (.slice (some ⟨N + 1 + 1, 0, none⟩) 0 0) il 0 (fun _ => 0)) := ⟨own_empty (holds_at hA 0 rfl) (Nat.le_refl _), fun i hi => absurd hi (Nat.not_lt_zero _)⟩
  have HWE : Hid (W = ((w.alloc (.cells #[.slice ia il ic, .slice oa ol oc, .int .i64 rg, .slice sa sl sc] 25)).alloc (.cells #[.int .i64 0, .int .i64 0, .slice none 0 0] 33)).alloc (.cells #[] 31)) := hW
  have HNE : Hid (N = w.heap.size) := hN
  have k0 : (((w.alloc (.cells #[.slice ia il ic, .slice oa ol oc, .int .i64 rg, .slice sa sl sc] 25)).alloc (.cells #[.int .i64 0, .int .i64 0, .slice none 0 0] 33))).cell? ⟨w.heap.size, 0, none⟩ = some (.slice ia il ic) := cellAt (heap_later (heap_alloc_last w _) ((Below.refl _ _).alloc (Nat.le_refl _) _)) 0 _ rfl
  clear hP hF hA hW hbW hN
  go_enter Tryd.func20, Tryd.ntmps20
  go_upto_region 3 with fail
  rw [← HWE.out, ← HNE.out]
  clear HWE k0
  go_wp2
  go_loopw [5, 4] (fun i v wr => ∃ (k : Nat) (qs : Nat → Nat), k ≤ il ∧ i = .int .i64 k ∧ UniW wr (N + 2) v il k qs ∧ Below (N + 2) W wr) (fun i _ _ => il - (intOf i).toNat)
  case atStart => exact ⟨0, _, Nat.zero_le _, rfl, HU0.out, Below.refl _ _⟩
  case round =>
    obtain ⟨k, qs, hk, rfl, hu, hb⟩ := hrel
    have HU : Hid _ := hu
    have HB : Hid (Below (N + 2) W wr) := hb
    have hWN : N + 2 ≤ W.heap.size := by have := ltHeap HRX.out; omega
    have hWr : N + 2 ≤ wr.heap.size := Nat.le_trans hWN hb.size
    obtain ⟨av, cv, rfl⟩ := own_shape hu.own
    clear hu hb HU0
    by_cases hlt : k < il
    · have mk3 := fun u : World => run_make8 il (by omega) u
      obtain ⟨q, hq⟩ : ∃ q, q = wr.heap.size := ⟨_, rfl⟩
      obtain ⟨V1, hV1⟩ : ∃ V1, V1 = wr.alloc (.cells (vfs (zeros il)) 5) := ⟨_, rfl⟩
      have hb1 : Below wr.heap.size wr V1 := by rw [hV1]; exact (Below.refl _ _).alloc (Nat.le_refl _) _
      have hz : V1.heap[q]? = some (.cells (vfs (zeros il)) 5 (0, 0)) := by rw [hV1, hq]; exact heap_alloc_last _ _
      have c0 := cellAt hz k _ (vfs_get _ k (by rw [zeros_len]; exact hlt))
      rw [at8_zeros] at c0
      have f0 : V1.frozen? ⟨q, k, none⟩ = false := frozen_of_row _ _ _ _ _ hz
      obtain ⟨Y, hY⟩ : ∃ Y, Y = V1.setCell ⟨q, k, none⟩ (.int .u8 1) := ⟨_, rfl⟩
      have hu2 := own_row9 (i := k) (u := .int .u8 1) (HU.out.below hb1) hz (fun i hi => by have := ltHeap (HU.out.row i hi); omega)
      rw [← hY] at hu2
      have hr2 : Y.heap[q]? = some (.cells (vfs (rowF il (unX (k : Int)))) 5 (0, 0)) := by
        rw [hY, heap_setCell_same _ _ _ _ _ _ hz, ← zeros_set]
        have := vfs_set (zeros il) k 1
        rw [← this]; rfl
      have hb2 : Below (N + 2) W Y := by rw [hY]; exact (HB.out.trans (hb1.mono hWr)).setCell (p := ⟨q, k, none⟩) (by show N + 2 ≤ q; omega) _
      have HQE : Hid (q = wr.heap.size) := hq
      have HV1E : Hid (V1 = wr.alloc (.cells (vfs (zeros il)) 5)) := hV1
      have HYE : Hid (Y = V1.setCell ⟨q, k, none⟩ (.int .u8 1)) := hY
      have hYs : N + 2 ≤ Y.heap.size := Nat.le_trans hWN hb2.size
      clear hq hY hV1
      have hb3 : Below Y.heap.size Y (Y.alloc (.cells #[.slice (some ⟨q, 0, none⟩) il il] 31)) := (Below.refl _ _).alloc (Nat.le_refl _) _
      have hu3 := hu2.below hb3
      have hr3 := heap_later hr2 hb3
      obtain ⟨g, cap, w6, hrun, ho6, hgr, _⟩ := appendS (c := 1) 67 hu3.own (cellAt (heap_alloc_last Y _) 0 _ rfl) rfl (by omega) (Nat.le_trans hYs hb3.size)
      have HRun : Hid _ := hrun
      have HB6 : Hid (Below (N + 2) W w6) := below_own (hb2.trans (hb3.mono hYs)) hu3.own hgr (Nat.le_trans hYs hb3.size)
      have HU6 : Hid _ := hu3.next hr3 hgr ho6
      clear hb1 hz hu2 hr2 hb2 hb3 hu3 hr3 hrun ho6 hgr
      go_upto_region 7 with fail
      rw [← HV1E.out, ← HQE.out]
      clear HV1E HQE mk3
      go_upto_region 8 with fail
      rw [← HYE.out]
      clear HYE c0 f0
      go_wp2_with (at_builtin; refine wpList_append_run rfl _ _ 67 rfl _ _ _ _ rfl rfl HRun.out ?_)
      exact ⟨⟨k + 1, _, by omega, by go_num, HU6.out, HB6.out⟩, by simp [intOf]; omega⟩
    · obtain rfl : il = k := by omega
      have HPW : Hid _ := (HB.out.block N (by omega)).trans HPX.out
      have HRW : Hid _ := (HB.out.block (N + 1) (by omega)).trans HRX.out
      obtain ⟨V, hV⟩ : ∃ V, V = wr.alloc (.cells #[.int .i64 ol, .int .i64 il, .slice none 0 0] 33) := ⟨_, rfl⟩
      have hbv : Below wr.heap.size wr V := by rw [hV]; exact (Below.refl _ _).alloc (Nat.le_refl _) _
      obtain ⟨M, hM⟩ : ∃ M, M = wr.heap.size := ⟨_, rfl⟩
      have HMV : Hid (V.heap[M]? = some (.cells #[.int .i64 ol, .int .i64 il, .slice none 0 0] 33 (0, 0))) := by show _ = _; rw [hV, hM]; exact heap_alloc_last _ _
      have HBV : Hid (Below (N + 2) W V) := HB.out.trans (hbv.mono hWr)
      have HPV : Hid _ := heap_later HPW.out hbv
      have HRV : Hid _ := heap_later HRW.out hbv
      have HUV : Hid _ := HU.out.below hbv
      have hwV : Below w.heap.size w V := HBW.out.trans (HBV.out.mono (by rw [HNE.out]; omega))
      have HWV : Hid (Below w.heap.size w V) := hwV
      have HNM : Hid (N + 2 ≤ M) := by show _ ≤ _; omega
      have k1 := cellAt HPW.out 1 _ rfl
      have p0 := cellAt HPV.out 0 _ rfl
      have p1 := cellAt HPV.out 1 _ rfl
      have p2 := cellAt HPV.out 2 _ rfl
      have p3 := cellAt HPV.out 3 _ rfl
      obtain ⟨L, hL⟩ : ∃ L : List (List F), L = (List.range il).map fun (i : Nat) => rowF il (unX (i : Int)) := ⟨_, rfl⟩
      have HRL : Hid (Rows8 V av L) := by show Rows8 ..; rw [hL]; exact HUV.out.rows
      have HLL : Hid (il = L.length) := by show _ = _; rw [hL]; simp
      have HLE : Hid (L = (List.range il).map fun (i : Nat) => rowF il (unX (i : Int))) := hL
      have HVE : Hid (V = wr.alloc (.cells #[.int .i64 ol, .int .i64 il, .slice none 0 0] 33)) := hV
      have HME : Hid (M = wr.heap.size) := hM
      clear hV hbv hM hL hwV HU HUV
      go_upto_region 10 with fail
      rw [← HVE.out, ← HME.out]
      clear k1 HVE
      go_wp2_with fail
      refine Calls.mono (rrun_F ia oa sa av il ic ol oc sl sc rg il cv il ins outs ss L V (HP.out.below HWV.out) HF.out HLL.out (Nat.le_refl _) (by omega) (by omega) HRL.out (fun i xs hi hx => by
        rw [HLE.out] at hx
        simp only [List.getElem?_map, List.getElem?_range hi, Option.map_some] at hx
        rw [← Option.some.inj hx, rowF_len]
        exact Nat.le_refl _)) ?_
      rintro e Z ⟨Q, rfl, hQ, ho, hz⟩
      have HO : Hid (OutsW Z Q ol il (inX L) ss) := ho
      have HBZ : Hid (Below (N + 2) W Z) := HBV.out.trans (hz.mono (Nat.le_trans hWN HBV.out.size))
      have HMZ : Hid _ := heap_later HMV.out hz
      have HMN : Hid (∀ d : Nat, d < ol → rowF il (runO (inX L) ss noR noR (d : Int)) = rowF il (meanR ss (d : Int))) := fun d hd => rowF_congr fun b hb => by
        refine run_alike (X := inX L) (Y := unX) (b := b) (l := ss) (fun s hs h1 => ?_) noR noR noR noR (fun _ => rfl) (fun _ => rfl) (d : Int)
        have hok := HF.out.2.2.2.2.1 s hs
        unfold OkS at hok
        obtain ⟨q, hq⟩ := Int.eq_ofNat_of_zero_le (show 0 ≤ s.src by omega)
        have hql : q < il := by have := HP.out.eil; omega
        rw [hq, inX_at (xs := rowF il (unX (q : Int))) (by rw [HLE.out]; simp [hql]), at8_rowF hb]
      have HQM : Hid (Q ≠ M) := by have := ltHeap HMV.out; show _ ≠ _; omega
      clear ho hz hQ p0 p1 p2 p3
      generalize wr = wq at *
      have HMR : Hid (∀ d xs, (meanRows il ol ss)[d]? = some xs → d < ol ∧ xs = rowF il (runO (inX L) ss noR noR (d : Int))) := fun d xs hd => by
        have hdl : d < ol := by have := (List.getElem?_eq_some_iff.1 hd).1; rwa [meanRows_len] at this
        refine ⟨hdl, ?_⟩
        simp only [meanRows, List.getElem?_map, List.getElem?_range hdl, Option.map_some] at hd
        rw [← Option.some.inj hd, HMN.out d hdl]
      go_wp2
      go_loopw [38] (fun i wr => ∃ (d : Nat) (v : Value), d ≤ ol ∧ i = .int .i64 d ∧ Z.grownBy wr (some M) ∧ wr.heap[M]? = some (.cells #[.int .i64 ol, .int .i64 il, v] 33 (0, 0)) ∧ wr.ownsRow Z.heap.size 5 1 v (d * il) (((meanRows il ol ss).take d).flatten.map vf)) (fun i _ => ol - (intOf i).toNat)
      case atStart => exact ⟨0, _, Nat.zero_le _, rfl, World.grownBy.refl _ _, HMZ.out, by simpa using World.ownsRow_nil _ _ _ _⟩
      case round =>
        obtain ⟨d, v, hd, rfl, hg, hm, hown⟩ := hrel
        obtain ⟨av2, capv, rfl, hrv, hnv, hnn⟩ := ownB_slice hown
        have HG : Hid (Z.grownBy wr (some M)) := hg
        have HM : Hid _ := hm
        have hzM := ltHeap HMZ.out
        have hzs := hg.size
        by_cases hlt : d < ol
        · obtain ⟨q, c9, hq1, hq2⟩ := HO.out d hlt
          have hqr := row8_mat HMZ.out hg hq2
          have c0 := cell_grown9 hg hq1 HQM.out
          have hki : d * il + il ≤ 4096 := by
            have h1 := Nat.mul_le_mul (show d + 1 ≤ 64 by omega) (show il ≤ 64 by omega)
            rw [Nat.succ_mul] at h1; omega
          obtain ⟨v', w6, hrun, ho6, hgr⟩ := appendB (m := il) (c := c9) 31 hown (rowF_len _ _).symm (by omega) hqr (fun e => by cases e) hzs
          have hm6 := own_other hown hgr hm (by decide)
          have hg6 : Z.grownBy w6 (some M) := ⟨hgr.os.trans hg.os, hgr.tape.trans hg.tape, hgr.output.trans hg.output, Nat.le_trans hg.size hgr.size, fun k9 hk9 hne => (hgr.block k9 (by omega) (fun e1 => by have := (hown.lt k9 e1.symm).1; omega)).trans (hg.block k9 hk9 hne)⟩
          obtain ⟨a6, cap6, rfl, h7, h8, h9⟩ := ownB_slice ho6
          have HRun : Hid _ := hrun
          have HO6 : Hid _ := ho6
          have HM6 : Hid _ := hm6
          have HG6 : Hid (Z.grownBy (w6.setCell ⟨M, 2, none⟩ (.slice a6 (d * il + il) cap6)) (some M)) := grownBy_setCell hg6 _
          have c1 := cellAt hm 2 _ rfl
          have d1 := cellAt hm6 2 _ rfl
          have d2 : w6.frozen? ⟨M, 2, none⟩ = false := frozen_of_row _ _ _ _ _ hm6
          have HTk : Hid (((meanRows il ol ss).take d).flatten ++ rowF il (runO (inX L) ss noR noR (d : Int)) = ((meanRows il ol ss).take (d + 1)).flatten) := by
            show _ = _
            have hdl : d < (meanRows il ol ss).length := by rw [meanRows_len]; exact hlt
            rw [List.take_succ_eq_append_getElem hdl, List.flatten_append, ← (HMR.out d _ (List.getElem?_eq_getElem hdl)).2]; simp
          have hZ6 : Z.heap.size ≤ w6.heap.size := hg6.size
          clear hg hm hown hrv hnv hnn hq1 hq2 hqr hrun ho6 hgr hm6 hg6 h7 h8 h9
          go_wp2_with (at_builtin; refine wpList_append_run rfl _ _ 31 rfl _ _ _ _ rfl rfl HRun.out ?_)
          refine ⟨⟨d + 1, .slice a6 (d * il + il) cap6, by omega, by go_num, HG6.out, ?_, ?_⟩, by simp [intOf]; omega⟩
          · rw [heap_setCell_same _ _ _ _ _ _ HM6.out]; rfl
          · rw [← HTk.out, Nat.succ_mul]
            refine ⟨HO6.out.1, HO6.out.2.imp id fun ⟨g, cap, cur, h1, h2, h3, h4⟩ => ⟨g, cap, cur, h1, h2, ?_, h4⟩⟩
            rw [heap_setCell_other _ _ _ _ (by show g ≠ M; omega)]; exact h3
        · obtain rfl : ol = d := by omega
          have hfull : (meanRows il ol ss).take ol = meanRows il ol ss := List.take_of_length_le (by rw [meanRows_len]; exact Nat.le_refl _)
          rw [hfull] at hrv hown
          have HRV : Hid _ := hrv
          have hNM := HNM.out
          have k1 := (hg.block (N + 1) (by omega) (fun e => by have := Option.some.inj e; omega)).trans ((HBZ.out.block (N + 1) (by omega)).trans HRX.out)
          have c1 := cellAt hm 0 _ rfl
          have c2 := cellAt hm 1 _ rfl
          have c3 := cellAt hm 2 _ rfl
          have c4 := cellAt k1 0 _ rfl
          have c5 := cellAt k1 1 _ rfl
          have c6 := cellAt k1 2 _ rfl
          have d4 : wr.frozen? ⟨N + 1, 0, none⟩ = false := frozen_of_row _ _ _ _ _ k1
          have d5 : wr.frozen? ⟨N + 1, 1, none⟩ = false := frozen_of_row _ _ _ _ _ k1
          have d6 : wr.frozen? ⟨N + 1, 2, none⟩ = false := frozen_of_row _ _ _ _ _ k1
          have z6 := ltHeap k1
          have HOW : Hid _ := hown
          have hNw : w.heap.size = N := HNE.out.symm
          have hbz : Below w.heap.size w Z := HBW.out.trans (HBZ.out.mono (by omega))
          have HBF : Hid (Below w.heap.size w wr) := below_of_grown9 hbz hg (by omega) (by have := hbz.size; omega)
          have HZS : Hid (N + 2 ≤ Z.heap.size) := by show _ ≤ _; omega
          clear hg hm hown hrv hnv hnn k1 hfull hNw hbz
          go_wp2
          refine bodyPost_ret (v := .agg #[.int .i64 ol, .int .i64 il, .slice av2 (ol * il) capv]) (by simp [results, Tryd.results20, go_sem, c4, c5, c6, z6]) rfl ⟨av2, ol * il, capv, rfl, rfl, ?_, ?_⟩
          · rcases HRV.out with e | ⟨b1, o1, e1, h1⟩
            · exact .inl e
            · refine .inr ⟨b1, o1, e1, fun j hj => ?_⟩
              have hne : b1 ≠ N + 1 := by
                have := World.ownsRow.lt (w := wr) (base := Z.heap.size) (e := 5) (size := 1) HOW.out b1 (by rw [e1]; rfl)
                have := HZS.out
                omega
              rw [World.cell?_setCell_far _ _ _ _ (by show N + 1 ≠ b1; omega), World.cell?_setCell_far _ _ _ _ (by show N + 1 ≠ b1; omega), World.cell?_setCell_far _ _ _ _ (by show N + 1 ≠ b1; omega)]
              exact h1 j hj
          · exact ((HBF.out.setCell (by show w.heap.size ≤ N + 1; have := HNE.out; omega) _).setCell (by show w.heap.size ≤ N + 1; have := HNE.out; omega) _).setCell (by show w.heap.size ≤ N + 1; have := HNE.out; omega) _
end Go.Proofs.YtanmgpgiepkogaaDoor

/- What the statements' own choice of numbers answers: so many numbers, rising, all below the bound; nothing that was there turns. -/
namespace Go.Proofs.YtanmgpgiepkogaaDoor
open Go.RowKit Gf
set_option linter.unusedVariables false
set_option maxRecDepth 20000
/-- marks in memory -/
def bvs (n : Nat) (f : Nat → Bool) : Array Value := ((List.range n).map fun i => Value.bool (f i)).toArray
theorem bvs_size (n : Nat) (f : Nat → Bool) : (bvs n f).size = n := by simp [bvs]
theorem bvs_get {n i : Nat} {f : Nat → Bool} (h : i < n) : (bvs n f)[i]? = some (.bool (f i)) := by simp [bvs, h]
def upB (f : Nat → Bool) (i : Nat) : Nat → Bool := fun j => f j || decide (j = i)
theorem bvs_set {n i : Nat} {f : Nat → Bool} : (bvs n f).setIfInBounds i (.bool true) = bvs n (upB f i) := by
  apply Array.ext_getElem?
  intro j
  simp only [bvs, Array.getElem?_setIfInBounds, List.size_toArray, List.length_map, List.length_range, List.getElem?_toArray, List.getElem?_map, upB]
  by_cases h : i = j
  · subst h; by_cases h2 : i < n <;> simp [h2]
  · rw [if_neg h]
    by_cases h2 : j < n <;> simp [h2, Ne.symm h]
theorem madeB (n : Nat) : madeCells (Value.bool false).cells n = bvs n (fun _ => false) := by
  apply Array.ext_getElem?
  intro i
  by_cases h : i < n <;> simp [madeCells, bvs, Value.cells, h, Nat.mod_one]
theorem run_makeB (n : Nat) (hn : n ≤ 65536) (w : World) :
    (Instr.makeSlice 45 (.int .i64 (n : Int)) (.int .i64 (n : Int))).run Tryd.prog w = .ok (.slice (some ⟨w.heap.size, 0, none⟩) n n) (w.alloc (.cells (bvs n (fun _ => false)) 4)) := by
  have hi : (Tryd.prog.info? 4).map (fun i => (i.size, i.bytes, i.zero)) = some (1, 1, some (.bool false)) := by kernel_rfl
  cases hq : Tryd.prog.info? 4 with
  | none => simp [hq] at hi
  | some i =>
    simp only [hq, Option.map_some, Option.some.injEq, Prod.mk.injEq] at hi
    have := run_make (P := Tryd.prog) w 45 4 i _ Tryd.underlying45 hq hi.2.2 .i64 .i64 n n (by omega) (by omega) (by rw [hi.2.1]; omega) (by omega)
    rw [this, hi.1]
    simp only [Int.toNat_natCast, Nat.mul_one, madeB]
/-- how many are marked -/
def cntB (f : Nat → Bool) (n : Nat) : Nat := ((List.range n).filter f).length
theorem cntB_le (f : Nat → Bool) (n : Nat) : cntB f n ≤ n := by have := List.length_filter_le f (List.range n); simpa [cntB] using this
theorem cntB_succ (f : Nat → Bool) (n : Nat) : cntB f (n + 1) = cntB f n + if f n then 1 else 0 := by
  simp only [cntB, List.range_succ, List.filter_append, List.length_append, List.filter_cons, List.filter_nil]
  split <;> rfl
theorem cntB_same {f g : Nat → Bool} : ∀ {n : Nat}, (∀ i, i < n → f i = g i) → cntB f n = cntB g n
  | 0, _ => rfl
  | n + 1, h => by rw [cntB_succ, cntB_succ, cntB_same (n := n) (fun i hi => h i (by omega)), h n (by omega)]
theorem cntB_up {f : Nat → Bool} {i : Nat} (hf : f i = false) : ∀ {n : Nat}, i < n → cntB (upB f i) n = cntB f n + 1
  | 0, h => absurd h (Nat.not_lt_zero _)
  | n + 1, h => by
    rw [cntB_succ, cntB_succ]
    by_cases e : i = n
    · subst e
      rw [cntB_same (f := upB f i) (g := f) (fun j hj => by simp [upB, Nat.ne_of_lt hj]), hf]
      simp [upB]
    · rw [cntB_up hf (n := n) (by omega)]
      have : upB f i n = f n := by simp [upB, Ne.symm e]
      rw [this]; omega
theorem cntB_all {f : Nat → Bool} : ∀ {n : Nat}, (∀ i, i < n → f i = true) → cntB f n = n
  | 0, _ => rfl
  | n + 1, h => by rw [cntB_succ, cntB_all (n := n) (fun i hi => h i (by omega)), h n (by omega)]; rfl
theorem cntB_none (n : Nat) : cntB (fun _ => false) n = 0 := by simp [cntB]
/-- the marked numbers -/
def pickB (f : Nat → Bool) (n : Nat) : List Nat := (List.range n).filter f
theorem pickB_same {f g : Nat → Bool} {n : Nat} (h : ∀ i, i < n → f i = g i) : pickB f n = pickB g n := List.filter_congr fun i hi => h i (by simpa using hi)
theorem pickB_yes {f : Nat → Bool} {n : Nat} (h : f n = true) : pickB f (n + 1) = pickB f n ++ [n] := by simp [pickB, List.range_succ, h]
theorem pickB_no {f : Nat → Bool} {n : Nat} (h : f n = false) : pickB f (n + 1) = pickB f n := by simp [pickB, List.range_succ, h]
theorem pickB_up {f : Nat → Bool} {n : Nat} : pickB (upB f n) n = pickB f n := pickB_same fun i hi => by simp [upB, Nat.ne_of_lt hi]
theorem pickB_sorted (f : Nat → Bool) (n : Nat) : (pickB f n).Pairwise (· < ·) := List.pairwise_lt_range.filter _
theorem pickB_lt {f : Nat → Bool} {n : Nat} : ∀ x ∈ pickB f n, x < n := fun x hx => by simpa using (List.mem_filter.1 hx).1
/-- numbers as values -/
def nvs (L : List Nat) : List Value := L.map fun i => Value.int .i64 ((i : Nat) : Int)
theorem nvs_snoc (L : List Nat) (i : Nat) : nvs L ++ [.int .i64 (i : Int)] = nvs (L ++ [i]) := by simp [nvs]
theorem own_setCell {w : World} {B n g i : Nat} {v x : Value} {e : TypeId} {s : Nat} {xs : List Value} (h : w.ownsRow B e s v n xs) (hg : g < B) : (w.setCell ⟨g, i, none⟩ x).ownsRow B e s v n xs := by
  refine ⟨h.1, h.2.imp id fun ⟨b, cap, cur, h1, h2, h3, h4⟩ => ⟨b, cap, cur, h1, h2, (heap_setCell_other _ _ _ _ (by show b ≠ g; omega)).trans h3, h4⟩⟩
theorem mod_place (x : Int) {n : Nat} (hn : 1 ≤ n) : (-(n : Int) < x.tmod n ∧ x.tmod n < n) ∧ ∃ j : Nat, j < n ∧ x.tmod n % (n : Int) = j := by
  have h1 : -(n : Int) < x.tmod n := by
    rcases Int.le_total 0 x with h | h
    · have := Int.tmod_nonneg n h; omega
    · have h2 := Int.neg_tmod (a := -x) (b := (n : Int))
      have h3 := Int.tmod_lt_of_pos (-x) (show (0 : Int) < n by omega)
      rw [Int.neg_neg] at h2; omega
  have h2 := Int.tmod_lt_of_pos x (show (0 : Int) < n by omega)
  have h3 : 0 ≤ x.tmod n % (n : Int) := Int.emod_nonneg _ (by omega)
  have h4 := Int.emod_lt_of_pos (x.tmod n) (show (0 : Int) < n by omega)
  exact ⟨⟨h1, h2⟩, (x.tmod n % (n : Int)).toNat, by omega, by omega⟩
end Go.Proofs.YtanmgpgiepkogaaDoor

/- The walk of the statement ExecMeans: it returns true of all programs, bytes and picks. -/
namespace Go.Proofs.YtanmgpgiepkogaaDoor
open Go.RowKit Gf
set_option linter.unusedVariables false
set_option maxRecDepth 20000
set_option linter.unusedSimpArgs false
theorem PrgW.inFormM {w : World} {ia oa sa : Option Addr} {il ic ol oc sl sc : Nat} {rg : Int} {ins outs : List Int} {ss : List Stp} (h : PrgW w ia oa sa il ic ol oc sl sc ins outs ss) :
    Calls Tryd.prog 15 #[.agg #[.slice ia il ic, .slice oa ol oc, .int .i64 rg, .slice sa sl sc]] w fun e w' => e = .returned (.bool (inFB ins outs rg ss)) ∧ Below w.heap.size w w' :=
  inForm_F ia oa sa il ic ol oc sl sc ins outs rg ss w h.eil h.eol h.esl h.i9 h.o9 h.s9 h.cil h.col h.I h.O h.S
theorem prg_own {w : World} {B1 B2 B3 : Nat} {a1 a2 a3 : Option Addr} {il c1 ol c2 sl c3 : Nat} {ins outs : List Int} {ss : List Stp} (hi : w.ownsRow B1 3 1 (.slice a1 il c1) il (ins.map (Value.int .i64))) (ho : w.ownsRow B2 3 1 (.slice a2 ol c2) ol (outs.map (Value.int .i64))) (hs : w.ownsRow B3 48 4 (.slice a3 sl c3) sl (stpsL ss)) (h1 : il ≤ 1000) (h2 : ol ≤ 1000) (h3 : sl ≤ 5000) : PrgW w a1 a2 a3 il c1 ol c2 sl c3 ins outs ss := by
  have q1 := ownI_facts hi
  have q2 := ownI_facts ho
  have hsl := ownT_len hs
  obtain ⟨a, c, e, s2, s3, s1⟩ := stpW_own hsl hs
  have ea : a3 = a := by injection e
  have ec : c3 = c := by injection e
  subst ea ec
  exact { eil := q1.2.2.2.1, eol := q2.2.2.2.1, esl := hsl, i9 := by omega, o9 := by omega, s9 := by omega, cil := q1.2.1, col := q2.2.1, csl := s2, inil := q1.2.2.1, onil := q2.2.2.1, snil := s3, I := q1.1, O := q2.1, S := s1 }
theorem unfed_mem {ins : List Int} {fb : Nat → Bool} {h : Int} : ∀ {n : Nat}, h ∈ unfed ins fb n → ∃ q, q < n ∧ fb q = false ∧ ins.getD q 0 = h
  | 0, hm => by cases hm
  | n + 1, hm => by
    rw [unfed, List.mem_append] at hm
    rcases hm with hm | hm
    · obtain ⟨q, h1, h2⟩ := unfed_mem hm
      exact ⟨q, by omega, h2⟩
    · by_cases e : fb n = true
      · rw [if_pos e] at hm; cases hm
      · rw [if_neg e, List.mem_singleton] at hm
        exact ⟨n, by omega, by simpa using e, hm.symm⟩
theorem unfed_congr {ins : List Int} {fb fc : Nat → Bool} : ∀ {n : Nat}, (∀ q, q < n → fb q = fc q) → unfed ins fb n = unfed ins fc n
  | 0, _ => rfl
  | n + 1, h => by rw [unfed, unfed, unfed_congr fun q hq => h q (by omega), h n (by omega)]
theorem unfed_drop {ins : List Int} {fb fc : Nat → Bool} {q : Nat} (hq : fb q = false) (hc : ∀ i, fc i = (fb i || decide (i = q))) : ∀ {n : Nat}, q < n → (unfed ins fc n).length + 1 = (unfed ins fb n).length
  | n + 1, h => by
    rw [unfed, unfed, List.length_append, List.length_append]
    by_cases e : q = n
    · subst e
      have h1 : fc q = true := by rw [hc]; simp
      rw [unfed_congr (fc := fb) fun i hi => by rw [hc, decide_eq_false (by omega), Bool.or_false], h1, hq]
      simp
    · have := unfed_drop (ins := ins) hq hc (show q < n by omega)
      have h1 : fc n = fb n := by rw [hc, decide_eq_false (by omega), Bool.or_false]
      rw [h1]; omega
theorem unfed_all {ins : List Int} {fb : Nat → Bool} {n : Nat} (h : (unfed ins fb n).length = 0) : ∀ i, i < n → fb i = true := fun i hi => by
  by_cases e : fb i = true
  · exact e
  · exact absurd (List.eq_nil_of_length_eq_zero h) (unfed_some hi (by simpa using e))
theorem meanL_at {il ol d i : Nat} {ss : List Stp} (hd : d < ol) (hi : i < il) : at8 (meanL il ol ss) (d * il + i) = meanR ss (d : Int) i := by
  have : meanL il ol ss = grid il (fun d i => meanR ss (d : Int) i) ol := (grid_flat il (fun d i => meanR ss (d : Int) i) ol).symm
  rw [this, at8_grid hd hi]
set_option maxRecDepth 100000 in
set_option maxHeartbeats 16000000 in
theorem means10_all (ia oa sa : Option Addr) (il ic ol oc sl sc : Nat) (rg : Int) (ins outs : List Int) (ss : List Stp) (l1 c1 : Nat) (a1 : Option Addr) (xs : List F) (l2 c2 : Nat) (a2 : Option Addr) (ns : List Int) (w : World) (E : Nat → Addr) (hE : ErrsX w E) (hP : PrgW w ia oa sa il ic ol oc sl sc ins outs ss) (hib : ic ≤ 17592186043904) (hob : oc ≤ 17592186043904) (hsb : sc ≤ 4398046510976) (hlx : l1 = xs.length) (hl1 : l1 ≤ 140737488355328) (hX : Row8 w a1 xs) (hln : l2 = ns.length) (hl2 : l2 ≤ 140737488355328) (hI : RowI w a2 ns) (hbd : ∀ x ∈ ns, -9223372036854775808 ≤ x ∧ x ≤ 9223372036854775807) :
    Calls Tryd.prog 6 #[.agg #[.slice ia il ic, .slice oa ol oc, .int .i64 rg, .slice sa sl sc], .slice a1 l1 c1, .slice a2 l2 c2] w fun e w' => e = .returned (.bool true) ∧ Below w.heap.size w w' := by
  have HE : Hid (ErrsX w E) := hE
  have HP : Hid (PrgW w ia oa sa il ic ol oc sl sc ins outs ss) := hP
  have HX1 : Hid (Row8 w a1 xs) := hX
  have HL1 : Hid (l1 = xs.length) := hlx
  have HLN : Hid (l2 = ns.length) := hln
  have HNS : Hid (RowI w a2 ns) := hI
  have HBD : Hid (∀ x ∈ ns, -9223372036854775808 ≤ x ∧ x ≤ 9223372036854775807) := hbd
  have HIB : Hid (ic ≤ 17592186043904) := hib
  have HOB : Hid (oc ≤ 17592186043904) := hob
  have HSB : Hid (sc ≤ 4398046510976) := hsb
  have hb0 : Below w.heap.size w (w.alloc (.cells #[.slice ia il ic, .slice oa ol oc, .int .i64 rg, .slice sa sl sc] 25)) := (Below.refl _ _).alloc (Nat.le_refl _) _
  have HB0 : Hid _ := hb0
  have HX0 : Hid ((w.alloc (.cells #[.slice ia il ic, .slice oa ol oc, .int .i64 rg, .slice sa sl sc] 25)).heap[w.heap.size]? = some (.cells #[.slice ia il ic, .slice oa ol oc, .int .i64 rg, .slice sa sl sc] 25 (0, 0))) := heap_alloc_last _ _
  clear hE hP hX hlx hb0 hln hI hbd hib hob hsb
  go_enter Tryd.func6, Tryd.ntmps6
  go_wp2_with fail
  refine Calls.mono (alive10_ok _ E (HE.out.below HB0.out)) ?_
  rintro e w1 ⟨rfl, hb1⟩
  have HB1 : Hid (Below w.heap.size w w1) := HB0.out.trans (hb1.mono HB0.out.size)
  have HX1' : Hid _ := heap_later HX0.out hb1
  have k0 := cellAt HX1'.out 0 _ rfl
  have k1 := cellAt HX1'.out 1 _ rfl
  have k2 := cellAt HX1'.out 2 _ rfl
  have k3 := cellAt HX1'.out 3 _ rfl
  clear hb1
  go_wp2_with fail
  refine Calls.mono ((HP.out.below HB1.out).inFormM) ?_
  by_cases hF : InF ins outs rg ss
  rotate_left
  · rw [inFB_no hF]
    rintro e w2 ⟨rfl, hb2⟩
    have HB2 : Hid (Below w.heap.size w w2) := HB1.out.trans (hb2.mono HB1.out.size)
    clear hb2 hF k0 k1 k2 k3
    go_wp2
    go_ret
    exact ⟨rfl, HB2.out⟩
  rw [inFB_yes hF]
  rintro e W ⟨rfl, hb2⟩
  obtain ⟨rg, rfl⟩ := Int.eq_ofNat_of_zero_le hF.2.2.1.1
  have HF : Hid (InF ins outs rg ss) := hF
  have hil32 : il ≤ 32 := by rw [HP.out.eil]; exact goodH_len hF.1
  have hol32 : ol ≤ 32 := by rw [HP.out.eol]; exact goodH_len hF.2.1
  have hsl9 : sl ≤ 4096 := by rw [HP.out.esl]; exact hF.2.2.2.1
  have HW : Hid (Below w.heap.size w W) := HB1.out.trans (hb2.mono HB1.out.size)
  have HPB : Hid _ := heap_later HX1'.out hb2
  have k3 := cellAt HPB.out 3 _ rfl
  clear hb2 hF k0 k1 k2
  have n1 : decide ((5000 : Int) < (sl : Int)) = false := decide_eq_false (by omega)
  go_upto_region 5 with fail
  clear k3 n1
  obtain ⟨h, hh⟩ : ∃ h, h = 1 + l1 % 8 := ⟨_, rfl⟩
  have hh1 : 1 ≤ h := by omega
  have hh8 : h ≤ 8 := by omega
  go_cut [7] (fun s wx => s = .int .i64 h ∧ W = wx)
  case first =>
    go_wp2
    go_meet
    exact ⟨by rw [hh]; rfl, rfl⟩
  case rest =>
  obtain ⟨rfl, rfl⟩ := hcut
  have HHE : Hid (h = 1 + l1 % 8) := hh
  clear hh
  have k0 := cellAt HPB.out 0 _ rfl
  go_wp2_with fail
  refine Calls.mono (filled_F il h l1 c1 a1 xs _ (by omega) (by omega) HL1.out hl1 (row8_below HX1.out HW.out)) ?_
  rintro e V0 ⟨va, q1, rfl, hf1, hv0⟩
  have HFA : Hid (FilW V0 W.heap.size va il h q1 (filF h xs)) := hf1
  have HB2 : Hid (Below w.heap.size w V0) := HW.out.trans (hv0.mono HW.out.size)
  have HPX : Hid _ := heap_later HPB.out hv0
  obtain ⟨aa, ca, rfl⟩ := hf1.slice
  clear hf1 hv0 k0
  have k0 := cellAt HPX.out 0 _ rfl
  have k1 := cellAt HPX.out 1 _ rfl
  have k2 := cellAt HPX.out 2 _ rfl
  have k3 := cellAt HPX.out 3 _ rfl
  go_wp2_with fail
  refine Calls.mono (copy_F ia oa sa il ic ol oc sl sc rg ins outs ss _ (HP.out.below HB2.out) HIB.out HOB.out HSB.out) ?_
  rintro e V1 ⟨g1, d1, g2, d2, g3, d3, rfl, ho1, ho2, ho3, hv1⟩
  have HPR : Hid (PrgW V1 (some ⟨g1, 0, none⟩) (some ⟨g2, 0, none⟩) (some ⟨g3, 0, none⟩) il d1 ol d2 sl d3 ins outs ss) := prg_own ho1 ho2 ho3 (by omega) (by omega) (by omega)
  have HV1 : Hid (Below V0.heap.size V0 V1) := hv1
  have HB3 : Hid (Below w.heap.size w V1) := HB2.out.trans (hv1.mono HB2.out.size)
  have HPX1 : Hid _ := heap_later HPX.out hv1
  clear ho1 ho2 ho3 hv1 k0 k1 k2 k3
  go_wp2_with fail
  refine Calls.mono (new_ok 0 (fun _ _ => 0) (some ⟨g1, 0, none⟩) (some ⟨g2, 0, none⟩) (some ⟨g3, 0, none⟩) il d1 ol d2 sl d3 rg h ins outs ss _ (E 6) HPR.out (HE.out.below HB3.out).prog HF.out (by omega) (by omega)) ?_
  rintro e V2 ⟨mba, Fda, ia1, ic1, oa1, oc1, sa1, sc1, rfl, hma, hv2⟩
  have HMA1 : Hid _ := hma
  have HV2 : Hid (Below V1.heap.size V1 V2) := hv2
  have HB4 : Hid (Below w.heap.size w V2) := HB3.out.trans (hv2.mono HB3.out.size)
  have HPX2 : Hid _ := heap_later HPX1.out hv2
  clear hma hv2
  obtain ⟨LA, hLA⟩ : ∃ LA : List (List F), LA = (List.range il).map fun i => rowF h (filF h xs i) := ⟨_, rfl⟩
  have HRLA : Hid (Rows8 V1 aa LA) := by show Rows8 ..; rw [hLA]; exact (HFA.out.below HV1.out).rows
  have HLALN : Hid (il = LA.length) := by show _ = _; rw [hLA]; simp
  have HLAE : Hid (∀ i, i < il → LA[i]? = some (rowF h (filF h xs i))) := fun i hi => by rw [hLA]; simp [hi]
  clear hLA
  have hm9 := HMA1.out.hmb
  have hF9 := HMA1.out.hFd
  have k0 := cellAt HPX2.out 0 _ rfl
  go_wp2
  clear k0
  go_loopw [56] (fun i wr => ∃ (k : Nat) (fda : Nat → Option (Option Addr × Nat)) (Xa : Int → Nat → F), k ≤ il ∧ i = .int .i64 k ∧ MacW 0 V1.heap.size wr mba Fda ia1 oa1 sa1 il ic1 ol oc1 sl sc1 rg h ins outs ss fda Xa false (.slice none 0 0) ∧ (unfed ins (fun i => (fda i).isSome) il).length + k = il ∧ (∀ i : Nat, i < il → (fda i).isSome = true → Xa (i : Int) = inX LA (i : Int)) ∧ Below V1.heap.size V1 wr) (fun i _ => il - (intOf i).toNat)
  case atStart =>
    refine ⟨0, _, _, Nat.zero_le _, rfl, HMA1.out, ?_, fun i hi h9 => by simp at h9, HV2.out⟩
    have key : ∀ n, (unfed ins (fun i => ((fun _ => none : Nat → Option (Option Addr × Nat)) i).isSome) n).length = n := by
      intro n
      induction n with
      | zero => rfl
      | succ n ih => rw [unfed, List.length_append, ih]; rfl
    rw [key]; rfl
  case round =>
    obtain ⟨k, fda, Xa, hk, rfl, hma, hun, hxa, hbv⟩ := hrel
    have HMA : Hid _ := hma
    have HUN : Hid ((unfed ins (fun i => (fda i).isSome) il).length + k = il) := hun
    have HXA : Hid (∀ i : Nat, i < il → (fda i).isSome = true → Xa (i : Int) = inX LA (i : Int)) := hxa
    have HBV : Hid (Below V1.heap.size V1 wr) := hbv
    clear hma hun hxa hbv HMA1
    generalize wr = Y0 at *
    by_cases hlt : k < il
    · go_wp2_with fail
      refine Calls.mono (wants_F HMA.out) ?_
      rintro e Z1 ⟨v, n, rfl, hn, ho, hz⟩
      have hnk : n + k = il := by rw [hn]; exact HUN.out
      obtain ⟨a9, c9, rfl⟩ := own_shape ho
      have HO : Hid _ := ho
      have HN : Hid (n = (unfed ins (fun i => (fda i).isSome) il).length) := hn
      have HZ : Hid (Below Y0.heap.size Y0 Z1) := hz
      have HMZ : Hid _ := HMA.out.below hz
      have HBZ : Hid (Below V1.heap.size V1 Z1) := HBV.out.trans (hz.mono HBV.out.size)
      have HWZ : Hid (Below w.heap.size w Z1) := HB3.out.trans (HBZ.out.mono HB3.out.size)
      have HPZ : Hid _ := (HBZ.out.block _ (ltHeap HPX1.out)).trans HPX1.out
      clear ho hn hz
      go_upto_region 16 with fail
      go_cut [65] (fun s wx => s = .bool (decide (0 < l2)) ∧ Z1 = wx)
      case first =>
        go_wp2
        go_meet
        exact ⟨by simp, rfl⟩
      case rest =>
      obtain ⟨rfl, rfl⟩ := hcut
      go_upto_if 65 with fail
      go_cut [12] (fun s wx => ∃ j : Nat, j < n ∧ s = .int .i64 j ∧ Z1 = wx)
      case first =>
        by_cases hl : 0 < l2
        · rw [decide_eq_true hl]
          obtain ⟨p, hp⟩ : ∃ p, p = n % l2 := ⟨_, rfl⟩
          have hpl : p < l2 := by rw [hp]; exact Nat.mod_lt _ hl
          have hpn : p < ns.length := by rw [← HLN.out]; exact hpl
          have hget : ns[p]? = some ns[p] := List.getElem?_eq_getElem hpn
          have hbx := HBD.out _ (List.getElem_mem hpn)
          generalize ns[p] = x at hget hbx
          obtain ⟨⟨t1, t2⟩, j, hj, hti⟩ := mod_place x (show 1 ≤ n by omega)
          rcases HNS.out with e0 | ⟨b, off, rfl, hrows⟩
          · rw [e0] at hget; simp at hget
          have c3' := cell_later HWZ.out (hrows p x hget)
          have hx1 := hbx.1
          have hx2 := hbx.2
          have hn0 : ((n : Int) == 0) = false := beq_eq_false_iff_ne.2 (by omega)
          have hl0 : ((l2 : Int) == 0) = false := beq_eq_false_iff_ne.2 (by omega)
          have hq1 : (n : Int) % (l2 : Int) = (p : Int) := by rw [hp]; simp
          have hq2 : n % l2 = p := hp.symm
          have HTI : Hid ((x.tmod n + n) % (n : Int) = j) := by
            show _ = _
            rw [← hti]; simp
          clear hget hrows hbx hti hp hpn
          go_wp2
          go_meet
          exact ⟨j, hj, by rw [HTI.out], rfl⟩
        · rw [decide_eq_false hl]
          go_wp2
          go_meet
          exact ⟨0, by omega, rfl, rfl⟩
      case rest =>
      obtain ⟨j, hj, rfl, rfl⟩ := hcut
      obtain ⟨x, hx⟩ : ∃ x, (unfed ins (fun i => (fda i).isSome) il)[j]? = some x := ⟨_, List.getElem?_eq_getElem (by rw [← HN.out]; exact hj)⟩
      obtain ⟨q, hq, hfq, hxq⟩ := unfed_mem (List.mem_of_getElem? hx)
      have hqi : q < ins.length := by rw [← HP.out.eil]; exact hq
      have HIQ : Hid (ins[q]? = some x) := by show _ = _; rw [← hxq, List.getD_eq_getElem?_getD, List.getElem?_eq_getElem hqi]; rfl
      have HFQ : Hid (fda q = none) := by show _ = _; simpa using hfq
      have hlF := ltHeap HMA.out.fed
      rcases HO.out.2 with ⟨e9, h0⟩ | ⟨g9, cap9, cur9, e9, hB9, hg9, hle9, h5, h6, h7⟩
      · omega
      cases e9
      have h9 : (cur9.toList.take (n * 1))[j]? = some (.int .i64 x) := by rw [h7, List.getElem?_map, hx]; rfl
      rw [List.getElem?_take, if_pos (by omega)] at h9
      have c9' := cellAt hg9 j _ (by simpa using h9)
      have PW : Hid (∀ u, Z1.grownBy u (some Fda) → u.cell? ⟨g9, j, none⟩ = some (.int .i64 x)) := fun u hu => cell_grown9 hu (by simpa using c9') (by show g9 ≠ Fda; omega)
      have HWF : Hid (w.heap.size ≤ Fda ∧ w.heap.size ≤ mba) := by have := HB3.out.size; show _ ∧ _; omega
      clear hx hxq hqi hfq hlF hB9 hg9 hle9 h5 h6 h7 h9 c9' HO
      have k0 := cellAt HPZ.out 0 _ rfl
      go_wp2
      clear k0
      go_loopw [86] (fun i wr => ∃ (t : Nat) (fdb : Nat → Option (Option Addr × Nat)) (Xb : Int → Nat → F), t ≤ il ∧ i = .int .i64 t ∧ MacW 0 V1.heap.size wr mba Fda ia1 oa1 sa1 il ic1 ol oc1 sl sc1 rg h ins outs ss fdb Xb false (.slice none 0 0) ∧ (∀ i : Nat, (fdb i).isSome = ((fda i).isSome || decide (i = q ∧ q < t))) ∧ (∀ i : Nat, i < il → (fdb i).isSome = true → Xb (i : Int) = inX LA (i : Int)) ∧ Z1.grownBy wr (some Fda)) (fun i _ => il - (intOf i).toNat)
      case atStart => exact ⟨0, _, _, Nat.zero_le _, rfl, HMZ.out, fun i => by simp, HXA.out, World.grownBy.refl _ _⟩
      case round =>
        obtain ⟨t, fdb, Xb, ht, rfl, hmb, hfb, hxb, hgb⟩ := hrel
        have HMB : Hid _ := hmb
        have HFB : Hid (∀ i : Nat, (fdb i).isSome = ((fda i).isSome || decide (i = q ∧ q < t))) := hfb
        have HXB : Hid (∀ i : Nat, i < il → (fdb i).isSome = true → Xb (i : Int) = inX LA (i : Int)) := hxb
        have HGB : Hid (Z1.grownBy wr (some Fda)) := hgb
        clear hmb hfb hxb hgb HMZ
        generalize wr = U at *
        have HVU : Hid (Below V1.heap.size V1 U) := below_grownF HBZ.out HGB.out hF9 HBZ.out.size
        have HWU : Hid (Below w.heap.size w U) := HB3.out.trans (HVU.out.mono HB3.out.size)
        by_cases hlt2 : t < il
        · have hti : t < ins.length := by rw [← HP.out.eil]; exact hlt2
          obtain ⟨bi, offi, rfl, hbi, hci⟩ := rowI_cell HP.out.I hti
          have hc1 := hci t hti
          obtain ⟨y, hy⟩ : ∃ y, y = ins.getD t 0 := ⟨_, rfl⟩
          rw [← hy] at hc1
          have HIT : Hid (ins[t]? = some y) := by show _ = _; rw [hy, List.getD_eq_getElem?_getD, List.getElem?_eq_getElem hti]; rfl
          have c1 := cell_later HWU.out hc1
          have c2 := PW.out U HGB.out
          clear hbi hci hc1 hy
          by_cases e : t = q
          · subst e
            obtain rfl : x = y := by have := HIQ.out.symm.trans HIT.out; injection this
            obtain ⟨ga, cs1, rfl, hga, hcs, hBga⟩ := HFA.out.cell hlt2
            have c3 := cellAt (heap_later (heap_later hga HV1.out) HVU.out) t _ hcs
            have HROW : Hid (Row8 U (some ⟨q1 t, 0, none⟩) (rowF h (filF h xs t))) := row8_own (heap_later (heap_later (HFA.out.row t hlt2) HV1.out) HVU.out)
            have HFBQ : Hid (fdb t = none) := by
              have h1 := HFB.out t
              rw [HFQ.out] at h1
              show _ = _
              simpa using h1
            clear hga hcs hBga hti
            go_wp2_with fail
            refine Calls.mono (feed_ok HMB.out x t h _ _ (rowF h (filF h xs t)) HIQ.out HFBQ.out (rowF_len _ _).symm rfl HROW.out) ?_
            rintro e U2 ⟨qa, cqa, rfl, hm2, hg2⟩
            have HM2 : Hid _ := hm2
            have HG2 : Hid (Z1.grownBy U2 (some Fda)) := grown_same HGB.out hg2
            clear hm2 hg2 c1 c2 c3
            go_wp2
            refine ⟨⟨t + 1, _, _, by omega, by go_num, HM2.out, fun i => ?_, fun i hi h9 => ?_, HG2.out⟩, by simp [intOf]; omega⟩
            · by_cases e : i = t
              · subst e; simp
              · have h1 := HFB.out i
                simp only [e, if_false, false_and, decide_false, Bool.or_false] at h1 ⊢
                exact h1
            · by_cases e : i = t
              · subst e; simp only [if_true]; exact (inX_eq (HLAE.out _ hlt2)).symm
              · rw [if_neg (show (i : Int) ≠ (t : Int) by omega)]
                refine HXB.out i hi ?_
                simpa only [e, if_false] using h9
          · have hne : ¬ y = x := fun e9 => by
              subst e9
              have hg := HF.out.1.1
              have h1 := HIT.out
              have h2 := HIQ.out
              obtain ⟨b1, b2⟩ := List.getElem?_eq_some_iff.1 h1
              obtain ⟨b3, b4⟩ := List.getElem?_eq_some_iff.1 h2
              rcases Nat.lt_or_gt_of_ne e with h3 | h3
              · have := List.pairwise_iff_getElem.1 hg t q b1 b3 h3
                omega
              · have := List.pairwise_iff_getElem.1 hg q t b3 b1 h3
                omega
            clear hti
            go_wp2
            refine ⟨⟨t + 1, fdb, Xb, by omega, by go_num, HMB.out, fun i => ?_, HXB.out, HGB.out⟩, by simp [intOf]; omega⟩
            rw [HFB.out i]
            congr 1
            rw [decide_eq_decide]
            constructor
            · rintro ⟨a1, a2⟩; exact ⟨a1, by omega⟩
            · rintro ⟨a1, a2⟩; exact ⟨a1, by omega⟩
        · obtain rfl : il = t := by omega
          have HUN2 : Hid ((unfed ins (fun i => (fdb i).isSome) il).length + (k + 1) = il) := by
            have h1 := unfed_drop (ins := ins) (fb := fun i => (fda i).isSome) (fc := fun i => (fdb i).isSome) (q := q) (by show (fda q).isSome = false; rw [HFQ.out]; rfl) (fun i => by
              show (fdb i).isSome = _
              rw [HFB.out i]
              congr 1
              rw [decide_eq_decide]
              exact ⟨fun h => h.1, fun h => ⟨h, hq⟩⟩) hq
            have h2 := HUN.out
            show _ = _
            omega
          go_wp2
          exact ⟨⟨k + 1, fdb, Xb, by omega, by go_num, HMB.out, HUN2.out, HXB.out, HVU.out⟩, by simp [intOf]; omega⟩
    · obtain rfl : il = k := by omega
      have hall := unfed_all (ins := ins) (fb := fun i => (fda i).isSome) (n := il) (by have := HUN.out; omega)
      have HALL : Hid (∀ i, i < il → (fda i).isSome = true) := hall
      have HMX : Hid (MacW 0 V1.heap.size Y0 mba Fda ia1 oa1 sa1 il ic1 ol oc1 sl sc1 rg h ins outs ss fda (inX LA) false (.slice none 0 0)) := HMA.out.congrX fun i hi => HXA.out i hi (hall i hi)
      have HWY : Hid (Below w.heap.size w Y0) := HB3.out.trans (HBV.out.mono HB3.out.size)
      have hwm : w.heap.size ≤ mba := by have := HB3.out.size; omega
      clear hall
      go_wp2_with fail
      refine Calls.mono (run_ok HMX.out HALL.out (Nat.zero_le _)) ?_
      rintro e Y1 ⟨rfl, ova, hma1, hg1⟩
      have HMR : Hid _ := hma1
      have HVY : Hid (Below V1.heap.size V1 Y1) := below_grownF HBV.out hg1 hm9 HBV.out.size
      have HWY1 : Hid (Below w.heap.size w Y1) := HB3.out.trans (HVY.out.mono HB3.out.size)
      have HPY : Hid _ := heap_later HPX1.out HVY.out
      clear hma1 hg1
      have k0 := cellAt HPY.out 0 _ rfl
      have k1 := cellAt HPY.out 1 _ rfl
      have k2 := cellAt HPY.out 2 _ rfl
      have k3 := cellAt HPY.out 3 _ rfl
      go_wp2_with fail
      refine Calls.mono (rmeaning_F ia oa sa il ic ol oc sl sc rg ins outs ss _ (HP.out.below HWY1.out) HF.out) ?_
      rintro e Y2 ⟨am, nm, cm, rfl, hnm, hrm, hy2⟩
      obtain ⟨Y3, hY3⟩ : ∃ Y3, Y3 = Y2.alloc (.cells #[.int .i64 ol, .int .i64 il, .slice am nm cm] 33) := ⟨_, rfl⟩
      obtain ⟨M, hM⟩ : ∃ M, M = Y2.heap.size := ⟨_, rfl⟩
      have hb3 : Below Y2.heap.size Y2 Y3 := by rw [hY3]; exact (Below.refl _ _).alloc (Nat.le_refl _) _
      have HM3 : Hid (Y3.heap[M]? = some (.cells #[.int .i64 ol, .int .i64 il, .slice am nm cm] 33 (0, 0))) := by show _ = _; rw [hY3, hM]; exact heap_alloc_last _ _
      have HY13 : Hid (Below Y1.heap.size Y1 Y3) := hy2.trans (hb3.mono hy2.size)
      have HRM : Hid (Row8 Y3 am (meanL il ol ss)) := row8_below hrm hb3
      have HMR3 : Hid _ := HMR.out.below HY13.out
      have HV3 : Hid (Below V1.heap.size V1 Y3) := HVY.out.trans (HY13.out.mono HVY.out.size)
      have HWY3 : Hid (Below w.heap.size w Y3) := HB3.out.trans (HV3.out.mono HB3.out.size)
      have HPY3 : Hid _ := heap_later HPY.out HY13.out
      have HNM : Hid (nm = ol * il) := hnm
      have HY3E : Hid (Y3 = Y2.alloc (.cells #[.int .i64 ol, .int .i64 il, .slice am nm cm] 33)) := hY3
      have HME : Hid (M = Y2.heap.size) := hM
      clear hnm hrm hy2 hY3 hM hb3 k0 k1 k2 k3
      go_upto_region 28 with fail
      rw [← HY3E.out, ← HME.out]
      clear HY3E
      have k1 := cellAt HPY3.out 1 _ rfl
      go_wp2
      clear k1
      go_loopw [117] (fun i wr => ∃ d : Nat, d ≤ ol ∧ i = .int .i64 d ∧ Below Y3.heap.size Y3 wr) (fun i _ => ol - (intOf i).toNat)
      case atStart => exact ⟨0, Nat.zero_le _, rfl, Below.refl _ _⟩
      case round =>
        obtain ⟨d, hd, rfl, hbr⟩ := hrel
        have HBR : Hid (Below Y3.heap.size Y3 wr) := hbr
        clear hbr
        generalize wr = Z0 at *
        by_cases hlt : d < ol
        · have hdi : d < outs.length := by rw [← HP.out.eol]; exact hlt
          have HWZ : Hid (Below w.heap.size w Z0) := HWY3.out.trans (HBR.out.mono HWY3.out.size)
          obtain ⟨bo, offo, rfl, hbo, hco⟩ := rowI_cell (rowI_below HP.out.O HWZ.out) hdi
          have c2 := hco d hdi
          obtain ⟨x, hx⟩ : ∃ x, x = outs.getD d 0 := ⟨_, rfl⟩
          rw [← hx] at c2
          have HIX : Hid (outs[d]? = some x) := by show _ = _; rw [hx, List.getD_eq_getElem?_getD, List.getElem?_eq_getElem hdi]; rfl
          clear hbo hco hx hdi
          go_wp2_with fail
          refine Calls.mono (out_ok (HMR3.out.below HBR.out) x d HIX.out) ?_
          rintro e Z1 ⟨qx, cx, rfl, h8x, hqx, hz1⟩
          have H8X : Hid _ := h8x
          have HZ1 : Hid (Below Y3.heap.size Y3 Z1) := HBR.out.trans (hz1.mono HBR.out.size)
          have HV1Z : Hid (Below V1.heap.size V1 Z1) := HV3.out.trans (HZ1.out.mono HV3.out.size)
          clear h8x hqx hz1 c2
          go_wp2
          go_loopw [138] (fun i wr => ∃ j : Nat, j ≤ h ∧ i = .int .i64 j ∧ Below Z1.heap.size Z1 wr) (fun i _ => h - (intOf i).toNat)
          case atStart => exact ⟨0, by omega, rfl, Below.refl _ _⟩
          case round =>
            obtain ⟨j, hj, rfl, hb⟩ := hrel
            have HB : Hid (Below Z1.heap.size Z1 wr) := hb
            clear hb
            generalize wr = Z2 at *
            by_cases hlj : j < h
            · go_wp2
              go_loopw [143, 21] (fun i s wr => ∃ a : Nat, a ≤ il ∧ i = .int .i64 a ∧ s = .int .u8 ((sumF (fun i => gm (meanR ss (d : Int) i) (filF h xs i j)) a).toNat : Int) ∧ Below Z2.heap.size Z2 wr) (fun i _ _ => il - (intOf i).toNat)
              case atStart => exact ⟨0, Nat.zero_le _, rfl, rfl, Below.refl _ _⟩
              case round =>
                obtain ⟨a, ha, rfl, rfl, hb⟩ := hrel
                have HB2' : Hid (Below Z2.heap.size Z2 wr) := hb
                clear hb
                generalize wr = Z3 at *
                have HZ13 : Hid (Below Z1.heap.size Z1 Z3) := HB.out.trans (HB2'.out.mono HB.out.size)
                by_cases hla : a < il
                · have HZ33 : Hid (Below Y3.heap.size Y3 Z3) := HZ1.out.trans (HZ13.out.mono HZ1.out.size)
                  have hdl0 : d * il + a < ol * il := by
                    calc d * il + a < d * il + il := by omega
                      _ = (d + 1) * il := by rw [Nat.succ_mul]
                      _ ≤ ol * il := Nat.mul_le_mul_right _ hlt
                  have hdl : d * il + a < (meanL il ol ss).length := by rw [meanL_len]; exact hdl0
                  obtain ⟨bm, om, rfl, _, hcm⟩ := row8_get (row8_below HRM.out HZ33.out) (show 0 < (meanL il ol ss).length by omega)
                  have c1 := hcm (d * il + a) hdl
                  rw [meanL_at hlt hla] at c1
                  have hm3 := heap_later HM3.out HZ33.out
                  have c2 := cellAt hm3 1 _ rfl
                  have c3 := cellAt hm3 2 _ rfl
                  obtain ⟨ga9, cs1, rfl, hga, hcs, hBga⟩ := HFA.out.cell hla
                  have HVZ : Below V1.heap.size V1 Z3 := HV1Z.out.trans (HZ13.out.mono HV1Z.out.size)
                  have c4 := cellAt (heap_later (heap_later hga HV1.out) HVZ) a _ hcs
                  have c5 := cellAt (heap_later (heap_later (HFA.out.row a hla) HV1.out) HVZ) j _ (vfs_get _ j (by rw [rowF_len]; exact hlj))
                  rw [at8_rowF hlj] at c5
                  have hdil : d * il + a < nm := by rw [HNM.out]; exact hdl0
                  have hnm9 : nm ≤ 1024 := by rw [HNM.out]; exact Nat.le_trans (Nat.mul_le_mul hol32 hil32) (by decide)
                  obtain ⟨p, hp⟩ : ∃ p, p = d * il + a := ⟨_, rfl⟩
                  have w1 : IntKind.i64.wrap ((d : Int) * (il : Int)) = ((d * il : Nat) : Int) := by rw [show (d : Int) * (il : Int) = ((d * il : Nat) : Int) by simp, IntKind.wrap_i64]; omega
                  have w2 : IntKind.i64.wrap (((d * il : Nat) : Int) + (a : Int)) = (p : Int) := by rw [IntKind.wrap_i64]; omega
                  have w3 : IntKind.i64.wrap ((d : Int) * (il : Int) + (a : Int)) = (p : Int) := by rw [show (d : Int) * (il : Int) = ((d * il : Nat) : Int) by simp, IntKind.wrap_i64]; omega
                  have w4 : (d : Int) * (il : Int) + (a : Int) = (p : Int) := by rw [hp]; simp
                  have w5 : d * il + a = p := hp.symm
                  have hpn : p < nm := by omega
                  rw [w5] at c1
                  have hx3 : bits .xor .u8 ((sumF (fun i => gm (meanR ss (d : Int) i) (filF h xs i j)) a).toNat : Int) ((gm (meanR ss (d : Int) a) (filF h xs a j)).toNat : Int) = ((sumF (fun i => gm (meanR ss (d : Int) i) (filF h xs i j)) (a + 1)).toNat : Int) := xor_val _ _
                  clear hdl0 hdl hcm hm3 hga hcs hBga HVZ hdil hp
                  go_wp2
                  go_quiet ((go_at_call 38; exact Calls.quiet_of_eq (rmul_F _ _ _)))
                  go_wp2
                  exact ⟨⟨a + 1, by omega, by go_num, rfl, below_drewN HB2'.out _⟩, by simp [intOf]; omega⟩
                · obtain rfl : il = a := by omega
                  have HZ13' : Hid (Below Z1.heap.size Z1 Z3) := HZ13
                  have h8 := has8_below H8X.out HZ13
                  obtain ⟨c1, _⟩ := has8_cell h8 (show j < (rowF h (runO (inX LA) ss noR noR (d : Int))).length by rw [rowF_len]; exact hlj)
                  have he : at8 (rowF h (runO (inX LA) ss noR noR (d : Int))) j = sumF (fun i => gm (meanR ss (d : Int) i) (filF h xs i j)) il := by
                    rw [at8_rowF hlj, run_mean (inX LA) il j (fun s hs h1 => by
                      have hok := HF.out.2.2.2.2.1 s hs
                      unfold OkS at hok
                      have := HP.out.eil
                      omega) (d : Int)]
                    refine sumF_congr fun i hi => ?_
                    rw [inX_eq (HLAE.out i hi), at8_rowF hlj]; rfl
                  rw [he] at c1
                  clear he h8 HZ13
                  go_wp2
                  exact ⟨⟨j + 1, by omega, by go_num, HZ13'.out⟩, by simp [intOf]; omega⟩
            · obtain rfl : h = j := by omega
              go_wp2
              exact ⟨⟨d + 1, by omega, by go_num, HZ1.out.trans (HB.out.mono HZ1.out.size)⟩, by simp [intOf]; omega⟩
        · obtain rfl : ol = d := by omega
          have HWF2 : Hid (Below w.heap.size w Z0) := HWY3.out.trans (HBR.out.mono HWY3.out.size)
          go_wp2
          go_ret
          exact ⟨rfl, HWF2.out⟩
end Go.Proofs.YtanmgpgiepkogaaDoor

/- The law ExecMeans holds: in whatever order a machine is fed, its outputs are the rows of the meaning times the inputs, of all programs, bytes and picks; no condition but what the card ties. -/
namespace Go.Proofs.YtanmgpgiepkogaaDoor.execMeans
open Go.ChangeShapes Go.WideShapes Go.ChangeAt Go.RowKit
open Go.ChangeMaps (open_string shut_string)
open Gf
set_option linter.unusedVariables false
theorem errs {W : World} (h : laidMetH Tryd.prog Rows.execMeansRow.laid W) : ∃ es, ErrsAt W gsX es :=
  errs_of_laid h (by kernel_rfl) (by kernel_rfl) (fun g hg => by
    have hall : (gsX.all fun g => decide ((Tryd.prog.globals[g]?).map (·.type) = some 29)) = true := by kernel_rfl
    simpa using List.all_eq_true.1 hall g hg) (fun x hx => by
    simp only [Rows.execMeansRow, List.mem_cons, List.not_mem_nil, or_false] at hx
    rcases hx with rfl | rfl | rfl | rfl | rfl | rfl <;> exact ⟨_, rfl⟩)
set_option maxRecDepth 100000 in
theorem lifted (os : Os) (started : os.Started) (H : Type) (enc : TypeId × Value → H) :
    ReturnsInHanded {} Tryd.checked os 6 .any (fun w args => (Rows.execMeansSpec.pre enc Tryd.prog Tryd.f6 Rows.execMeansRow.domain false w args ∧ laidMetH Tryd.prog Rows.execMeansRow.laid w) ∧ sizedMet enc Tryd.prog Tryd.f6 (OpenSpec.ofChange Rows.execMeansSpec) false w args) (Rows.execMeansSpec.post enc Tryd.prog Tryd.f6 false true false false) := by
  refine returnsInHanded_of_change_and (C := Tryd.checked) (X := fun w _ => laidMetH Tryd.prog Rows.execMeansRow.laid w) (fun _ _ _ hh h => h.of_heap hh) own started (by kernel_rfl) Tryd.func6
    (ChangeSpec.witness_shaped (enc := enc) (C := Tryd.checked) (os := os) (X := fun w _ => laidMetH Tryd.prog Rows.execMeansRow.laid w) false (World.laidAll Tryd.prog os Rows.execMeansRow.laid) #[.agg #[.slice none 0 0, .slice none 0 0, .int .i64 0, .slice none 0 0], .slice none 0 0, .slice none 0 0] 8 (World.laidAll_os _ _ _)
      (World.shaped_of_ZipB (by kernel_rfl) (by kernel_rfl)) (by kernel_rfl) (by kernel_rfl) (by kernel_rfl)
      (by rw [MakeChecks.laidMetH_plain _ _ _ (by kernel_rfl)]; exact laidMet_laidAll _ (by kernel_rfl) (by kernel_rfl))) ?_
  intro W base args ds gs before hval0 hW hcnd hsz0 hL _
  have hval : ∀ (j : Nat) t v, Tryd.f6.params[j]? = some t → args[j]? = some v → Value.okWide Tryd.prog W .any base t v := hval0
  have hsz : (DataW.weightsEach Tryd.prog (Tryd.f6.params.toList ++ Rows.execMeansSpec.plain.varTypes Tryd.prog) (ds ++ gs)).all (· ≤ reachBytes) = true := hsz0
  have hW' := hW
  obtain ⟨p, q, hA0, hV, rfl, hfz, hnd⟩ := hW
  have hA : DataW.TrodAll enc Tryd.prog W 0 (fun _ => true) true Tryd.f6.params.toList args.toList ds p := hA0
  rw [Tryd.params6] at hA hval hsz
  obtain ⟨v0, vs0, d0, ds0, p0, q0, hargs, rfl, rfl, h0, r0⟩ := trodAll_cons hA
  obtain ⟨v1, vs1, d1, ds1, p1, q1, rfl, rfl, rfl, h1, r1⟩ := trodAll_cons r0
  obtain ⟨v2, vs2, d2, ds2, p2, q2, rfl, rfl, rfl, h2, r2⟩ := trodAll_cons r1
  obtain ⟨rfl, rfl, rfl⟩ := trodAll_nil r2
  obtain rfl : args = #[v0, v1, v2] := by cases args; simp_all
  obtain ⟨rfl, rfl⟩ := trodVars_none hV
  obtain ⟨es, hes⟩ := errs hL
  have k0 := h0
  have lt0 : ∀ x ∈ p0, x.block < W.heap.size := by obtain ⟨m, hm⟩ := k0; exact DataW.trod_lt m _ _ _ hm
  have k1 := h1
  have lt1 : ∀ x ∈ p1, x.block < W.heap.size := by obtain ⟨m, hm⟩ := k1; exact DataW.trod_lt m _ _ _ hm
  have k2 := h2
  have lt2 : ∀ x ∈ p2, x.block < W.heap.size := by obtain ⟨m, hm⟩ := k2; exact DataW.trod_lt m _ _ _ hm
  obtain ⟨iap, oap, sap, ilp, icp, olp, ocp, slp, scp, rgp, insp, outsp, ssp, rfl, wrp, pwp, bip, bop, bsp⟩ := openProg (j := 0) (hval 0 25 v0 rfl rfl) h0 hsz rfl rfl
  obtain ⟨ax, lx, cx, x, rfl, lsx, lcx, rwx, rdx, rnx⟩ := open8 (hval 1 31 v1 rfl rfl) h1
  have bcx : cx ≤ 140737488351232 := by
    rcases rdx with ⟨_, _, e⟩ | ⟨es, sp, rfl, e⟩
    · omega
    · have := sized_slice hsz (j := 1) (t := 31) (e := 5) rfl rfl Tryd.underlying31
      rw [bytes8] at this; simp only [reachBytes] at this; omega
  obtain ⟨av, lv, cv, xv, rfl, lxv, rxv, lcv, bcv, nav, wnv⟩ := openInts (j := 2) (hval 2 22 v2 rfl rfl) h2 hsz rfl rfl
  clear hA0 hval0
  refine (means10_all iap oap sap ilp icp olp ocp slp scp rgp insp outsp ssp lx cx ax x lv cv av xv W (ofX es) (errsX_of hes) pwp bip bop bsp lsx (Nat.le_trans lcx (Nat.le_trans bcx (by decide))) rwx lxv (Nat.le_trans lcv (Nat.le_trans bcv (by decide))) rxv wnv).mono fun e W' ⟨he, bel⟩ => ?_
  subst he
  exact ⟨_, rfl, _, _, _, [], _, [], hW', trodAll_mk1 (shut_bool Tryd.underlying4 _), (trodAll_cons_mk (Below.trod laidOut (by kernel_rfl) (of_decide_eq_true (by kernel_rfl)) k0 bel lt0) (trodAll_cons_mk (Below.trod laidOut (by kernel_rfl) (of_decide_eq_true (by kernel_rfl)) k1 bel lt1) (trodAll_cons_mk (Below.trod laidOut (by kernel_rfl) (of_decide_eq_true (by kernel_rfl)) k2 bel lt2) trodAll_mk0))), rfl, bel.frame _, fun h => by cases h⟩

theorem over : Rows.execMeansRow.holds Tryd.pinned (OpenSpec.ofChange Rows.execMeansSpec) :=
  OpenClaim.holds_of_wide 6 Tryd.f6 rfl rfl rfl rfl rfl rfl rfl ⟨rfl, rfl, rfl, rfl, rfl⟩ rfl rfl rfl rfl rfl (by kernel_rfl) Tryd.func6 (by kernel_rfl)
    (of_decide_eq_true (by kernel_rfl)) (by unfold Func.isWrapper; first | (rw [if_pos (by decide +kernel)]; kernel_rfl) | (rw [if_neg (by decide +kernel)]; exact ⟨rfl, rfl⟩))
    (fun os started H enc _ => lifted os started H enc)

theorem proved : Rows.ExecMeansCardSaid :=
  Claim7.holds_tied_plain_at .later [] [.sentinel, .sentinel, .sentinel, .sentinel, .sentinel, .sentinel] true (true, "ffb542144d84dc6123239f5263ba0b1519b0c08d81fffbef8a84aa5d7517867c") true over (fun _ h => by cases h) (by kernel_rfl) (fun _ h => by cases h) execMeans_row_tie rfl ⟨rfl, rfl⟩ (by kernel_rfl) rfl
    (fun f fn hf hfn => by
      obtain rfl : f = 6 := Option.some.inj ((show Tryd.prog.funcNamed "tessera/tesseralaw10.ExecMeans" = some 6 by kernel_rfl).symm.trans hf) |>.symm
      obtain rfl : fn = Tryd.f6 := (Option.some.inj (Tryd.func6.symm.trans hfn)).symm
      exact ⟨by kernel_rfl, fun j t ht => by
        rw [Tryd.params6] at ht
        have hm : t ∈ [25, 31, 22] := by simpa using Array.mem_of_getElem? ht
        have hall : ([25, 31, 22].all fun u => !Tryd.prog.wantsStandIn u) = true := by kernel_rfl
        exact (show Tryd.prog.wantsStandIn t = false by simpa using List.all_eq_true.1 hall t hm)⟩)
    (by kernel_rfl)
#print axioms proved
end Go.Proofs.YtanmgpgiepkogaaDoor.execMeans
