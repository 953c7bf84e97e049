/- The law DamageBack holds: Parse gives back what Text wrote of a list of halves, and refuses nothing that it wrote, at all numbers and lists; no condition but what the card ties. -/
import Derived.Test.YtjmbpldkggbdlaaGreatDoorGfDot
import Derived.ProofKit
import Derived.OpenShut
import Derived.SizedLaws
import Derived.Lib.SmallJoins
import Derived.Test.YtjmbpldkggbdlaaGreatDoorMatO
import Derived.Test.YtjmbpldkggbdlaaGreatDoorOwn
import Derived.Deep.Matrix
import Derived.Test.YtjmbpldkggbdlaaGreatDoorHalfL
import Derived.Test.YtjmbpldkggbdlaaGreatDoorMatA
import Derived.LaidLaws
import Derived.MakeChecks
import Derived.LaidEql
import Derived.Test.YtjmbpldkggbdlaaGreatDoorNumKept
import Derived.Test.YtjmbpldkggbdlaaGreatDoorHalfF
import Derived.Shelf.SlIterI.Sorted
import Derived.Shelf.SlIterI.Nil
import Derived.Shelf.SortM.Plain
import Derived.Shelf.SortM.SortNone
import Derived.Shelf.Strings.OnBuilder
import Derived.Shelf.Strings.Search3
import Derived.Test.YtjmbpldkggbdlaaGreatDoorChecked
import Derived.Lib.ItoaNum
import Derived.Lib.ItoaWalk
import Derived.Maps.OwnSet
import Derived.Maps.OwnOps
import Derived.Maps.AppendAt
import Derived.Test.YtjmbpldkggbdlaaGreatDoorJDamageBack1
import Derived.Test.YtjmbpldkggbdlaaGreatDoorSolveF
import Derived.Test.YtjmbpldkggbdlaaGreatDoorRegHeld
import Derived.Test.YtjmbpldkggbdlaaGreatDoorNumApart
import Derived.Laws.OwnMore
import Derived.Test.YtjmbpldkggbdlaaGreatDoorMatRow
import Derived.Test.YtjmbpldkggbdlaaGreatDoorSpanA
import Derived.RangeFuncNested
import Derived.RangeFuncBound
import Derived.RangeFuncCalls
import Derived.RangeFuncLeaves
import Derived.Shelf.Abstract
import Derived.Shelf.RegionOpen
import Derived.WalkKit
import Derived.OwnWalkIn
import Derived.TacticsInMore
import Derived.LoopNIn
import Derived.LoopIn
import Derived.LaidSub
import Derived.Test.YtjmbpldkggbdlaaGreatDoorRows
import Derived.Test.YtjmbpldkggbdlaaGreatDoorCards
import Derived.Test.YtjmbpldkggbdlaaGreatDoorTie
import Derived.ShutString
import Derived.ChangeOld
import Derived.Below
import Derived.Lay
import Derived.SevenTiedAt
import Derived.Stop.Joined
/- How a list of bytes that came in is read: facts for the frames of the laws; nothing of the program is proved here. -/
namespace Go.Proofs.YtjmbpldkggbdlaaGreatDoor
open Go.ChangeShapes Go.WideShapes Go.ChangeAt Go.RowKit Gf
set_option maxRecDepth 20000
theorem own : ownKnob Tryz.prog.godebug = none := by kernel_rfl
theorem laidOut : laidOutB Tryz.prog = true := by kernel_rfl
theorem bytes8 : Tryz.prog.bytesOf 5 = 1 := by kernel_rfl
theorem getD_get {α : Type} (l : List α) (j : Nat) (d : α) (h : j < l.length) : l.getD j d = l[j] := by simp [List.getD, h]
theorem open8_cells {H : Type} {enc : TypeId × Value → H} {W : World} {cs : List Value} {x : DataW H × List MemPlace} {fuel : Nat}
    (h : DataW.trod enc Tryz.prog W 0 (fun _ => true) true fuel 61 cs = some x) :
    ∃ a len cap xs, cs = [.slice a len cap] ∧ len = xs.length ∧ len ≤ cap ∧ Row8 W a xs ∧ (x.1 = .nil ∧ a = none ∧ cap = 0 ∨ ∃ es sp, x.1 = .slice es sp ∧ es.length + sp.length = cap) ∧ (a = none → cap = 0) := by
  rcases open_ints Tryz.underlying61 Tryz.underlying5 (by kernel_rfl) h with ⟨hcs, hx⟩ | ⟨ad, l, c, zs, hcs, _, hl, hm, hz, hx, hcell, hwz⟩
  · exact ⟨none, 0, 0, [], hcs, rfl, Nat.le_refl _, .inl rfl, .inl ⟨by rw [hx], rfl, rfl⟩, fun _ => rfl⟩
  · have hz' : zs.length = c := by simpa using hz
    refine ⟨some ad, l, c, (zs.take l).map toF, hcs, by simp; omega, hl, ?_, .inr ⟨_, _, by rw [hx], by simp [lits]; omega⟩, fun e => by cases e⟩
    by_cases h0 : l = 0
    · left; simp [h0]
    · right
      have hc := hcell 0 (by omega)
      obtain ⟨b, off, spot⟩ := ad
      have hspot : spot = none := by simpa [Addr.add] using World.cell?_spot hc
      subst hspot
      refine ⟨b, off, rfl, fun j hj => ?_⟩
      have hj' : j < l := by simp at hj; omega
      have hcj := hcell j (by omega)
      have hw := hwz (zs.getD j 0) (by
        rw [getD_get _ _ _ (by omega)]; exact List.getElem_mem _)
      have hb := bounds_u8 hw
      have e : ((at8 ((zs.take l).map toF) j).toNat : Int) = zs.getD j 0 := by
        unfold at8
        rw [getD_get _ _ _ (by simp; omega)]
        simp only [List.getElem_map, List.getElem_take]
        rw [getD_get _ _ _ (by omega)] at hb ⊢
        exact val_toF hb.1 hb.2
      rw [e, ← hcj]
      by_cases hj0 : j = 0
      · subst hj0; rfl
      · simp [Addr.add, hj0]
theorem open8 {H : Type} {enc : TypeId × Value → H} {W : World} {v : Value} {d : DataW H} {p : List MemPlace} {base : Nat}
    (hv : Value.okWide Tryz.prog W .any base 61 v) (h : DataW.Trod enc Tryz.prog W 0 (fun _ => true) true 61 v d p) :
    ∃ a len cap xs, v = .slice a len cap ∧ len = xs.length ∧ len ≤ cap ∧ Row8 W a xs ∧ (d = .nil ∧ a = none ∧ cap = 0 ∨ ∃ es sp, d = .slice es sp ∧ es.length + sp.length = cap) ∧ (a = none → cap = 0) := by
  obtain ⟨fuel, hf⟩ := h
  obtain ⟨a, len, cap, xs, hcs, h1, h2, h3, h4, h5⟩ := open8_cells hf
  obtain ⟨a', len', cap', rfl⟩ := okWide_slice Tryz.underlying61 hv
  simp [Value.cells] at hcs
  obtain ⟨rfl, rfl, rfl⟩ := hcs
  exact ⟨_, _, _, xs, rfl, h1, h2, h3, h4, h5⟩
end Go.Proofs.YtjmbpldkggbdlaaGreatDoor

/- How a matrix, and two numbers, come in: facts for the frames of the laws; nothing of the program is proved here. -/
namespace Go.Proofs.YtjmbpldkggbdlaaGreatDoor
open Go.ChangeShapes Go.WideShapes Go.ChangeAt Go.RowKit Gf Go.Joins
set_option linter.unusedVariables false
set_option maxRecDepth 20000
theorem cellsMat : Tryz.prog.cellsOf 63 = 3 := by kernel_rfl
theorem cellsInt : Tryz.prog.cellsOf 3 = 1 := by kernel_rfl
/-- a list's datum, and its room -/
def Room2 {H : Type} (d : DataW H) (cap : Nat) : Prop := d = .nil ∧ cap = 0 ∨ ∃ es sp, d = .slice es sp ∧ es.length + sp.length = cap
theorem room2_le {H : Type} {d : DataW H} {cap : Nat} (h : Room2 d cap) (hw : ∀ n ∈ DataW.weights Tryz.prog 61 d, n ≤ reachBytes) : cap ≤ 140737488351232 := by
  rcases h with ⟨_, rfl⟩ | ⟨es, sp, rfl, rfl⟩
  · omega
  · have := hw ((es.length + sp.length) * Tryz.prog.bytesOf 5) (by simp [DataW.weights, Tryz.underlying61])
    rw [bytes8] at this
    simp only [reachBytes] at this
    omega
theorem openMat {H : Type} {enc : TypeId × Value → H} {W : World} {v : Value} {d : DataW H} {p : List MemPlace} {base : Nat} {ts : List TypeId} {ds : List (DataW H)} {j : Nat}
    (hv : Value.okWide Tryz.prog W .any base 63 v) (h : DataW.Trod enc Tryz.prog W 0 (fun _ => true) true 63 v d p)
    (hsz : (DataW.weightsEach Tryz.prog ts ds).all (· ≤ reachBytes) = true) (ht : ts[j]? = some 63) (hd : ds[j]? = some d) :
    ∃ (r c : Int) (a : Option Addr) (l cap : Nat) (xs : List F), v = .agg #[.int .i64 r, .int .i64 c, .slice a l cap] ∧ l = xs.length ∧ Row8 W a xs ∧ l ≤ cap ∧ cap ≤ 140737488351232 ∧ (a = none → cap = 0) ∧
      -9223372036854775808 ≤ r ∧ r ≤ 9223372036854775807 ∧ -9223372036854775808 ≤ c ∧ c ≤ 9223372036854775807 := by
  obtain ⟨v0, v1, v2, y0, y1, y2, n, rfl, rfl, _, e0, e1, e2⟩ := open_agg3 Tryz.underlying63 (by kernel_rfl) cellsMat hv h
  obtain ⟨r, s0, _, w0⟩ := DataW.trod_int Tryz.underlying3 e0
  obtain ⟨c, s1, _, w1⟩ := DataW.trod_int Tryz.underlying3 e1
  obtain ⟨a, la, ca, xs, s2, e, ka, ra, da, na⟩ := open8_cells e2
  simp only [List.cons.injEq, and_true] at s0 s1 s2
  subst s0 s1 s2
  have hw : ∀ n ∈ DataW.weights Tryz.prog 63 (.agg [y0.1, y1.1, y2.1]), n ≤ reachBytes := fun n hn => by
    simpa using List.all_eq_true.1 hsz _ (DataW.weights_mem_each ht hd n hn)
  simp only [DataW.weights, Tryz.underlying63] at hw
  have r2 : Room2 y2.1 ca := da.imp (fun h => ⟨h.1, h.2.2⟩) id
  refine ⟨r, c, a, la, ca, xs, rfl, e, ra, ka, room2_le r2 ?_, na, (bounds_i64 w0).1, (bounds_i64 w0).2, (bounds_i64 w1).1, (bounds_i64 w1).2⟩
  exact fun n hn => hw n (by simp [DataW.weightsEach, hn])
end Go.Proofs.YtjmbpldkggbdlaaGreatDoor

/- How a list of lists of bytes, and a list of numbers, come in: facts for the frames of the laws; nothing of the program is proved here. -/
namespace Go.Proofs.YtjmbpldkggbdlaaGreatDoor
open Go.ChangeShapes Go.WideShapes Go.ChangeAt Go.RowKit Gf Go.Joins
set_option linter.unusedVariables false
set_option maxRecDepth 20000
theorem addr_off {w : World} {ad : Addr} {v : Value} (h : w.cell? (ad.add 0) = some v) : ∃ b off, ad = ⟨b, off, none⟩ := by
  obtain ⟨b, off, spot⟩ := ad
  have hspot : spot = none := by simpa [Addr.add] using World.cell?_spot h
  subst hspot
  exact ⟨b, off, rfl⟩
theorem add_off (b off j : Nat) : (⟨b, off, none⟩ : Addr).add j = ⟨b, off + j, none⟩ := by unfold Addr.add; split <;> simp_all
theorem cellsSl : Tryz.prog.cellsOf 61 = 1 := by kernel_rfl
theorem cellsU8 : Tryz.prog.cellsOf 5 = 1 := by kernel_rfl
theorem openRows {H : Type} {enc : TypeId × Value → H} {W : World} {v : Value} {d : DataW H} {p : List MemPlace} {base : Nat}
    (hv : Value.okWide Tryz.prog W .any base 83 v) (h : DataW.Trod enc Tryz.prog W 0 (fun _ => true) true 83 v d p) :
    ∃ a l cap L, v = .slice a l cap ∧ l = List.length L ∧ Rows8 W a L ∧
      ∀ b off, a = some ⟨b, off, none⟩ → ∀ j n a' cap', W.cell? ⟨b, off + j, none⟩ = some (.slice a' n cap') → j < L.length → a' = none → cap' = 0 := by
  obtain ⟨fuel, hf⟩ := h
  obtain ⟨a0, l0, c0, rfl⟩ := okWide_slice Tryz.underlying83 hv
  rcases Deep.open_int_rows Tryz.underlying83 Tryz.underlying61 Tryz.underlying5 cellsSl cellsU8 hf with ⟨hcs, hx⟩ | ⟨ad, len, cap, A, L, C, Z, hcs, _, hl, hm, hx, hr⟩
  · simp [Value.cells] at hcs
    obtain ⟨rfl, rfl, rfl⟩ := hcs
    exact ⟨none, 0, 0, [], rfl, rfl, .inl rfl, fun b off e => by cases e⟩
  · simp [Value.cells] at hcs
    obtain ⟨rfl, rfl, rfl⟩ := hcs
    refine ⟨some ad, l0, c0, (List.range l0).map fun r => ((Z r).take (L r)).map toF, rfl, by simp, ?_, ?_⟩
    · by_cases h0 : l0 = 0
      · left; simp [h0]
      · right
        obtain ⟨b, off, rfl⟩ := addr_off (hr 0 (by omega)).1
        refine ⟨b, off, rfl, fun j xs hj => ?_⟩
        have hjl : j < l0 := by have := (List.getElem?_eq_some_iff.1 hj).1; simpa using this
        rw [List.getElem?_map, List.getElem?_range hjl] at hj
        obtain rfl := Option.some.inj hj
        obtain ⟨h1, h2, h3, h4, h5, h6, h7⟩ := hr j (by omega)
        rw [add_off] at h1
        have hlen : (((Z j).take (L j)).map toF).length = L j := by rw [List.length_map, List.length_take]; omega
        refine ⟨A j, C j, by rw [hlen]; exact h1, ?_⟩
        by_cases hL0 : L j = 0
        · left; simp [hL0]
        · right
          cases hA : A j with
          | none => have := h6 hA; omega
          | some ad' =>
            obtain ⟨_, h8⟩ := h7 ad' hA
            obtain ⟨b', off', rfl⟩ := addr_off (h8 0 (by omega))
            refine ⟨b', off', rfl, fun i hi => ?_⟩
            rw [hlen] at hi
            have hc := h8 i (by omega)
            rw [add_off] at hc
            rw [hc]
            have hb := bounds_u8 (h5 ((Z j).getD i 0) (by rw [getD_get _ _ _ (by omega)]; exact List.getElem_mem _))
            have e : ((at8 (((Z j).take (L j)).map toF) i).toNat : Int) = (Z j).getD i 0 := by
              unfold at8
              rw [getD_get _ _ _ (by rw [hlen]; exact hi)]
              simp only [List.getElem_map, List.getElem_take]
              rw [getD_get _ _ _ (by omega)] at hb ⊢
              exact val_toF hb.1 hb.2
            rw [e]
    · intro b off e j n a' cap' hc hj ha
      simp only [List.length_map, List.length_range] at hj
      obtain ⟨h1, h2, h3, h4, h5, h6, h7⟩ := hr j (by omega)
      obtain rfl := Option.some.inj e
      rw [add_off, hc] at h1
      simp only [Option.some.injEq, Value.slice.injEq] at h1
      obtain ⟨e1, _, e3⟩ := h1
      rw [e3]; exact h6 (by rw [← e1]; exact ha)
theorem bytesInt : Tryz.prog.bytesOf 3 = 8 := by kernel_rfl
theorem openInts {H : Type} {enc : TypeId × Value → H} {W : World} {v : Value} {d : DataW H} {p : List MemPlace} {base : Nat} {ts : List TypeId} {ds : List (DataW H)} {j : Nat}
    (hv : Value.okWide Tryz.prog W .any base 22 v) (h : DataW.Trod enc Tryz.prog W 0 (fun _ => true) true 22 v d p)
    (hsz : (DataW.weightsEach Tryz.prog ts ds).all (· ≤ reachBytes) = true) (ht : ts[j]? = some 22) (hd : ds[j]? = some d) :
    ∃ a l cap ns, v = .slice a l cap ∧ l = List.length ns ∧ RowI W a ns ∧ l ≤ cap ∧ cap ≤ 17592186043904 ∧ (a = none → cap = 0) ∧ ∀ n ∈ ns, -9223372036854775808 ≤ n ∧ n ≤ 9223372036854775807 := by
  obtain ⟨fuel, hf⟩ := h
  obtain ⟨a0, l0, c0, rfl⟩ := okWide_slice Tryz.underlying22 hv
  rcases open_ints Tryz.underlying22 Tryz.underlying3 cellsInt hf with ⟨hcs, hx⟩ | ⟨ad, l, c, zs, hcs, _, hl, hm, hz, hx, hcell, hwz⟩
  · simp [Value.cells] at hcs
    obtain ⟨rfl, rfl, rfl⟩ := hcs
    exact ⟨none, 0, 0, [], rfl, rfl, .inl rfl, Nat.le_refl _, by omega, fun _ => rfl, fun n hn => by cases hn⟩
  · simp [Value.cells] at hcs
    obtain ⟨rfl, rfl, rfl⟩ := hcs
    have hz' : zs.length = c0 := by simpa using hz
    have hcap : c0 ≤ 17592186043904 := by
      have hw : ∀ n ∈ DataW.weights Tryz.prog 22 d, n ≤ reachBytes := fun n hn => by simpa using List.all_eq_true.1 hsz _ (DataW.weights_mem_each ht hd n hn)
      simp only [Prod.mk.injEq] at hx
      rw [hx.1] at hw
      have := hw (((lits .i64 (zs.take l0) : List (DataW H)).length + (lits .i64 (zs.drop l0) : List (DataW H)).length) * Tryz.prog.bytesOf 3) (by simp [DataW.weights, Tryz.underlying22])
      rw [bytesInt] at this
      simp only [reachBytes, lits, List.length_map, List.length_take, List.length_drop] at this
      omega
    refine ⟨some ad, l0, c0, zs.take l0, rfl, by rw [List.length_take]; omega, ?_, hl, hcap, (fun e => by cases e), fun n hn => bounds_i64 (hwz n (List.mem_of_mem_take hn))⟩
    by_cases h0 : l0 = 0
    · left; simp [h0]
    · right
      obtain ⟨b, off, rfl⟩ := addr_off (hcell 0 (by omega))
      refine ⟨b, off, rfl, fun j m hj => ?_⟩
      have hjl : j < l0 := by have := (List.getElem?_eq_some_iff.1 hj).1; rw [List.length_take] at this; omega
      have hc := hcell j (by omega)
      rw [add_off] at hc
      rw [hc]
      rw [List.getElem?_take_of_lt hjl] at hj
      rw [List.getD_eq_getElem?_getD, hj]; rfl
end Go.Proofs.YtjmbpldkggbdlaaGreatDoor

/- Lost halves as plain lists: what is left, what is whole, what is gone; no program is spoken of. -/
namespace Go.Proofs.YtjmbpldkggbdlaaGreatDoor
open Go.RowKit Gf
set_option linter.unusedVariables false
set_option maxRecDepth 20000
/-- a list of lost halves, of n halves -/
def GoodH (n : Nat) (xs : List Int) : Prop := xs.Pairwise (· < ·) ∧ ∀ x ∈ xs, 0 ≤ x ∧ x < n
def natJ8 (ns : List Nat) : List Int := ns.map fun (x : Nat) => (x : Int)
theorem goodH_nil (n : Nat) : GoodH n [] := ⟨List.Pairwise.nil, fun x h => by cases h⟩
theorem goodH_snoc {n : Nat} {xs : List Int} {x : Int} : GoodH n (xs ++ [x]) ↔ GoodH n xs ∧ (0 ≤ x ∧ x < n) ∧ ∀ y ∈ xs, y < x := by
  constructor
  · rintro ⟨h1, h2⟩
    have := List.pairwise_append.1 h1
    exact ⟨⟨this.1, fun y hy => h2 y (List.mem_append_left _ hy)⟩, h2 x (by simp), fun y hy => this.2.2 y hy x (by simp)⟩
  · rintro ⟨⟨h1, h2⟩, h3, h4⟩
    refine ⟨List.pairwise_append.2 ⟨h1, by simp, fun y hy z hz => ?_⟩, fun y hy => ?_⟩
    · rw [List.mem_singleton.1 hz]; exact h4 y hy
    · rcases List.mem_append.1 hy with h | h
      · exact h2 y h
      · rw [List.mem_singleton.1 h]; exact h3
/-- behind the last of a rising list -/
theorem last_below {xs : List Int} (h : xs.Pairwise (· < ·)) {x : Int} : (∀ y ∈ xs, y < x) ↔ xs = [] ∨ xs.getD (xs.length - 1) 0 < x := by
  constructor
  · intro hx
    by_cases e : xs = []
    · exact .inl e
    · right
      have hl : xs.length - 1 < xs.length := by have := List.length_pos_iff.2 e; omega
      rw [List.getD, List.getElem?_eq_getElem hl]
      exact hx _ (List.getElem_mem hl)
  · rintro (rfl | hx) y hy
    · cases hy
    · obtain ⟨i, hi, e⟩ := List.getElem_of_mem hy
      have hl : xs.length - 1 < xs.length := by omega
      rw [List.getD, List.getElem?_eq_getElem hl] at hx
      by_cases e2 : i = xs.length - 1
      · subst e2; rw [← e]; exact hx
      · have := List.pairwise_iff_getElem.1 h i (xs.length - 1) hi hl (by omega)
        rw [← e]
        simp at hx
        omega
theorem goodH_take {n : Nat} {xs : List Int} (h : GoodH n xs) (i : Nat) : GoodH n (xs.take i) := ⟨h.1.sublist (List.take_sublist _ _), fun x hx => h.2 x (List.mem_of_mem_take hx)⟩
theorem take_snoc {xs : List Int} {i : Nat} (h : i < xs.length) : xs.take (i + 1) = xs.take i ++ [xs[i]] := by rw [List.take_succ_eq_append_getElem h]
/-- one more number -/
theorem goodH_step {n i : Nat} {xs : List Int} (h : i < xs.length) (hg : GoodH n (xs.take i)) : GoodH n (xs.take (i + 1)) ↔ (0 ≤ xs[i] ∧ xs[i] < n) ∧ (xs.take i = [] ∨ (xs.take i).getD ((xs.take i).length - 1) 0 < xs[i]) := by
  rw [take_snoc h, goodH_snoc, last_below hg.1]
  exact ⟨fun h => h.2, fun h => ⟨hg, h⟩⟩
theorem goodH_nats {n : Nat} {xs : List Int} (h : GoodH n xs) : ∃ ns : List Nat, xs = natJ8 ns ∧ ns.Pairwise (· < ·) ∧ ∀ x ∈ ns, x < n := by
  refine ⟨xs.map Int.toNat, ?_, ?_, ?_⟩
  · rw [natJ8, List.map_map]
    conv => lhs; rw [← List.map_id xs]
    apply List.map_congr_left
    intro x hx
    have := h.2 x hx
    show x = ((x.toNat : Nat) : Int)
    omega
  · rw [List.pairwise_map]
    refine h.1.imp_of_mem fun {a b} ha hb hab => ?_
    have := h.2 a ha; have := h.2 b hb
    omega
  · intro x hx
    obtain ⟨y, hy, rfl⟩ := List.mem_map.1 hx
    have := h.2 y hy
    omega
theorem goodH_of {n : Nat} {ns : List Nat} (h1 : ns.Pairwise (· < ·)) (h2 : ∀ x ∈ ns, x < n) : GoodH n (natJ8 ns) := by
  refine ⟨?_, fun x hx => ?_⟩
  · rw [natJ8, List.pairwise_map]
    exact h1.imp fun h => by omega
  · obtain ⟨y, hy, rfl⟩ := List.mem_map.1 hx
    have := h2 y hy
    omega
theorem natJ8_mem {ns : List Nat} {x : Nat} : (x : Int) ∈ natJ8 ns ↔ x ∈ ns := by
  constructor
  · intro h
    obtain ⟨y, hy, e⟩ := List.mem_map.1 h
    have : y = x := by omega
    exact this ▸ hy
  · exact fun h => List.mem_map.2 ⟨x, h, rfl⟩
theorem natJ8_len (ns : List Nat) : (natJ8 ns).length = ns.length := by simp [natJ8]
theorem natJ8_inj {a b : List Nat} (h : natJ8 a = natJ8 b) : a = b := by
  have := congrArg (List.map Int.toNat) h
  simp only [natJ8, List.map_map] at this
  have e : Int.toNat ∘ (fun x : Nat => (x : Int)) = id := by funext x; simp
  rwa [e, List.map_id, List.map_id] at this
theorem rising_low {p : List Nat} (hu : p.Pairwise (· < ·)) : ∀ k, (h : k < p.length) → k ≤ p[k] := by
  intro k
  induction k with
  | zero => intro _; exact Nat.zero_le _
  | succ k ih => intro h; have h1 := ih (by omega); have := List.pairwise_iff_getElem.1 hu k (k + 1) (by omega) h (by omega); omega
theorem pair_len {n : Nat} {ns : List Nat} (h1 : ns.Pairwise (· < ·)) (h2 : ∀ x ∈ ns, x < n) : ns.length ≤ n := by
  by_cases h0 : ns.length = 0
  · omega
  · have hl : ns.length - 1 < ns.length := by omega
    have a := rising_low h1 _ hl
    have b := h2 _ (List.getElem_mem hl)
    omega
theorem filter_add (p : Nat → Bool) : ∀ l : List Nat, (l.filter p).length + (l.filter fun x => !p x).length = l.length
  | [] => rfl
  | x :: l => by
    have := filter_add p l
    cases h : p x <;> simp [h] <;> omega

/-! what is left, what is whole -/
def leftL (n : Nat) (ns : List Nat) : List Nat := (List.range n).filter fun h => !decide (h ∈ ns)
theorem mem_leftL {n h : Nat} {ns : List Nat} : h ∈ leftL n ns ↔ h < n ∧ h ∉ ns := by simp [leftL]
theorem leftL_up (n : Nat) (ns : List Nat) : (leftL n ns).Pairwise (· < ·) := List.Pairwise.filter _ List.pairwise_lt_range
theorem leftL_len {n : Nat} {ns : List Nat} (h1 : ns.Pairwise (· < ·)) (h2 : ∀ x ∈ ns, x < n) : (leftL n ns).length + ns.length = n := by
  have e : (List.range n).filter (fun h => decide (h ∈ ns)) = ns := by
    refine sorted_eq (List.Pairwise.filter _ List.pairwise_lt_range) h1 fun x => ?_
    simp only [List.mem_filter, List.mem_range, decide_eq_true_eq]
    exact ⟨fun h => h.2, fun h => ⟨h2 x h, h⟩⟩
  have := filter_add (fun h => decide (h ∈ ns)) (List.range n)
  rw [e, List.length_range] at this
  rw [leftL]; omega
theorem leftL_le (n : Nat) (ns : List Nat) : (leftL n ns).length ≤ n := by
  have := List.length_filter_le (fun h => !decide (h ∈ ns)) (List.range n)
  rwa [List.length_range] at this
theorem leftL_back {n : Nat} {ns : List Nat} (h1 : ns.Pairwise (· < ·)) (h2 : ∀ x ∈ ns, x < n) : leftL n (leftL n ns) = ns := by
  refine sorted_eq (leftL_up _ _) h1 fun x => ?_
  rw [mem_leftL, mem_leftL]
  constructor
  · rintro ⟨h, hn⟩
    exact Classical.byContradiction fun hx => hn ⟨h, hx⟩
  · exact fun h => ⟨h2 x h, fun hh => hh.2 h⟩
def wholeL (m : Nat) (ns : List Nat) : List Nat := (List.range m).filter fun s => decide (2 * s ∈ ns) && decide (2 * s + 1 ∈ ns)
theorem mem_wholeL {m s : Nat} {ns : List Nat} : s ∈ wholeL m ns ↔ s < m ∧ 2 * s ∈ ns ∧ 2 * s + 1 ∈ ns := by simp [wholeL]
theorem wholeL_succ (m : Nat) (ns : List Nat) : wholeL (m + 1) ns = wholeL m ns ++ (if 2 * m ∈ ns ∧ 2 * m + 1 ∈ ns then [m] else []) := by
  rw [wholeL, List.range_succ, List.filter_append, ← wholeL]
  congr 1
  by_cases h : 2 * m ∈ ns <;> by_cases h2 : 2 * m + 1 ∈ ns <;> simp [h, h2]
theorem wholeL_le (m : Nat) (ns : List Nat) : (wholeL m ns).length ≤ m := by
  have := List.length_filter_le (fun s => decide (2 * s ∈ ns) && decide (2 * s + 1 ∈ ns)) (List.range m)
  rwa [List.length_range] at this
/-- the kind of damage -/
def kindN (k : Nat) (ns : List Nat) : Nat := if ns = [] then 0 else if ∃ j, j < k ∧ ns = [2 * j, 2 * j + 1] then 1 else 2
/-- the program's way to the kind -/
theorem kind_way {k m : Nat} {ns : List Nat} (hk : k ≤ m) (h1 : ns.Pairwise (· < ·)) :
    kindN k ns = if ns.length = 0 then 0 else if ns.length = 2 ∧ (wholeL m ns).length = 1 ∧ (wholeL m ns).getD 0 0 < k then 1 else 2 := by
  unfold kindN
  by_cases h0 : ns = []
  · simp [h0]
  rw [if_neg h0, if_neg (fun h => h0 (List.length_eq_zero_iff.1 h))]
  have key : (∃ j, j < k ∧ ns = [2 * j, 2 * j + 1]) ↔ (ns.length = 2 ∧ (wholeL m ns).length = 1 ∧ (wholeL m ns).getD 0 0 < k) := by
    constructor
    · rintro ⟨j, hj, rfl⟩
      have e : wholeL m [2 * j, 2 * j + 1] = [j] := by
        refine sorted_eq (p := wholeL m [2 * j, 2 * j + 1]) (List.Pairwise.filter _ List.pairwise_lt_range) (by simp) fun x => ?_
        rw [mem_wholeL]
        simp
        omega
      rw [e]
      exact ⟨rfl, rfl, hj⟩
    · rintro ⟨h2, h3, h4⟩
      obtain ⟨s, hs⟩ := List.length_eq_one_iff.1 h3
      have hm : s ∈ wholeL m ns := by rw [hs]; simp
      obtain ⟨_, ha, hb⟩ := mem_wholeL.1 hm
      rw [hs] at h4
      refine ⟨s, h4, ?_⟩
      match ns, h2 with
      | [x, y], _ =>
        have hxy : x < y := by simpa using h1
        simp at ha hb
        simp
        omega
  by_cases hh : ∃ j, j < k ∧ ns = [2 * j, 2 * j + 1]
  · rw [if_pos hh, if_pos (key.1 hh)]
  · rw [if_neg hh, if_neg (fun h => hh (key.2 h))]

/-! what is gone -/
/-- the rank of the rows of some halves -/
noncomputable def rankL (k : Nat) (car : Nat → Nat) (L : List Nat) : Nat := (pivL (fun i => halfF k car (L.getD i 0)) L.length (2 * k)).length
theorem rankL_le (k : Nat) (car : Nat → Nat) (L : List Nat) : rankL k car L ≤ L.length := rk_rows _ _ _
theorem rankL_cols (k : Nat) (car : Nat → Nat) (L : List Nat) : rankL k car L ≤ 2 * k := pivL_le _ _ _
theorem rank_mono {A B : Mt} {n m c : Nat} (h : RowsIn B m A n c) : (pivL B m c).length ≤ (pivL A n c).length := by
  obtain ⟨C, D, hf⟩ := factor_ex A n c
  have hk : ∀ x : Nat, ∃ e : Nat → F, x < m → ∀ j, j < c → B x j = sumF (fun k => gm (e k) (A k j)) n := fun x => by
    by_cases hx : x < m
    · obtain ⟨e, he⟩ := h x hx; exact ⟨e, fun _ => he⟩
    · exact ⟨fun _ => 0, fun h => absurd h hx⟩
  obtain ⟨e, he⟩ := Classical.axiomOfChoice hk
  refine rk_le (C := fun i l => sumF (fun a => gm (e i a) (C a l)) n) (B := D) fun i hi j hj => ?_
  rw [he i hi j hj, sumF_congr (fun a ha => by rw [hf a ha j hj, sumF_mul_left]), sumF_swap (fun a l => gm (e i a) (gm (C a l) (D l j))) (pivL A n c).length n]
  refine sumF_congr fun l _ => ?_
  rw [sumF_mul_right]
  exact sumF_congr fun a _ => (F.mul_assoc _ _ _).symm
theorem rankL_mono {k : Nat} {car : Nat → Nat} {L M : List Nat} (h : ∀ x ∈ L, x ∈ M) : rankL k car L ≤ rankL k car M := by
  refine rank_mono fun i hi => ?_
  obtain ⟨a, ha, e⟩ := mem_getD (h (L.getD i 0) (by simp [List.getD, hi]))
  refine ⟨fun l => if l = a then 1 else 0, fun j _ => ?_⟩
  show halfF k car (L.getD i 0) j = _
  rw [sumF_pick _ a _ ha (fun l _ hne => by simp [hne])]
  rw [e]; simp
/-- do the others not determine the stripe? -/
noncomputable def goneB (k n : Nat) (car : Nat → Nat) (ns : List Nat) : Bool := decide (rankL k car (leftL n ns) < 2 * k)
theorem gone_mono {k n : Nat} {car : Nat → Nat} {ns ms : List Nat} (h : ∀ x ∈ ns, x ∈ ms) (hg : goneB k n car ns = true) : goneB k n car ms = true := by
  simp only [goneB, decide_eq_true_eq] at *
  refine Nat.lt_of_le_of_lt (rankL_mono fun x hx => ?_) hg
  rw [mem_leftL] at *
  exact ⟨hx.1, fun hh => hx.2 (h x hh)⟩
theorem gone_many {k r : Nat} {car : Nat → Nat} {ns : List Nat} (h1 : ns.Pairwise (· < ·)) (h2 : ∀ x ∈ ns, x < 2 * (k + r)) (h : 2 * r < ns.length) : goneB k (2 * (k + r)) car ns = true := by
  have := leftL_len h1 h2
  have := rankL_le k car (leftL (2 * (k + r)) ns)
  simp only [goneB, decide_eq_true_eq]
  omega
/-- the shards of which something is lost -/
def touchedL (m : Nat) (ns : List Nat) : List Nat := (List.range m).filter fun s => decide (2 * s ∈ ns) || decide (2 * s + 1 ∈ ns)
theorem touchedL_succ (m : Nat) (ns : List Nat) : (touchedL (m + 1) ns).length = (touchedL m ns).length + (if 2 * m ∈ ns ∨ 2 * m + 1 ∈ ns then 1 else 0) := by
  rw [touchedL, List.range_succ, List.filter_append, ← touchedL, List.length_append]
  congr 1
  by_cases h : 2 * m ∈ ns <;> by_cases h2 : 2 * m + 1 ∈ ns <;> simp [h, h2]
theorem gone_few {k r : Nat} {car : Nat → Nat} {ns : List Nat} (hb : k + r ≤ 256) (h : (touchedL (k + r) ns).length ≤ r) : goneB k (2 * (k + r)) car ns = false := by
  have hl := filter_add (fun s => decide (2 * s ∈ ns) || decide (2 * s + 1 ∈ ns)) (List.range (k + r))
  rw [List.length_range] at hl
  have hfr : k ≤ ((List.range (k + r)).filter fun s => !(decide (2 * s ∈ ns) || decide (2 * s + 1 ∈ ns))).length := by
    rw [touchedL] at h; omega
  have hup : ((List.range (k + r)).filter fun s => !(decide (2 * s ∈ ns) || decide (2 * s + 1 ∈ ns))).Pairwise (· < ·) := List.Pairwise.filter _ List.pairwise_lt_range
  have hmem : ∀ s ∈ (List.range (k + r)).filter (fun s => !(decide (2 * s ∈ ns) || decide (2 * s + 1 ∈ ns))), s < k + r ∧ 2 * s ∉ ns ∧ 2 * s + 1 ∉ ns := fun s hs => by simpa using hs
  generalize (List.range (k + r)).filter (fun s => !(decide (2 * s ∈ ns) || decide (2 * s + 1 ∈ ns))) = Fr at *
  have hS : (Fr.take k).Nodup := (hup.sublist (List.take_sublist _ _)).imp Nat.ne_of_lt
  have hSl : (Fr.take k).length = k := by rw [List.length_take]; omega
  have hr := half_rank (car := car) hS hSl (fun x hx => (hmem x (List.mem_of_mem_take hx)).1) hb
  have hm := rankL_mono (k := k) (car := car) (L := bothH (Fr.take k)) (M := leftL (2 * (k + r)) ns) fun x hx => by
    simp only [bothH, List.mem_flatMap, List.mem_cons, List.not_mem_nil, or_false] at hx
    obtain ⟨s, hs, e⟩ := hx
    obtain ⟨h1, h2, h3⟩ := hmem s (List.mem_of_mem_take hs)
    rw [mem_leftL]
    rcases e with rfl | rfl
    · exact ⟨by omega, h2⟩
    · exact ⟨by omega, h3⟩
  unfold rankL at hm
  rw [bothH_len, hSl, hr] at hm
  simp only [goneB, rankL]
  exact decide_eq_false (by omega)
theorem gone_none {k r : Nat} {car : Nat → Nat} {s : Nat} (h1 : 1 ≤ r) (hb : k + r ≤ 256) : goneB k (2 * (k + r)) car [2 * s, 2 * s + 1] = false := by
  refine gone_few hb (Nat.le_trans ?_ h1)
  have hs : ∀ x ∈ touchedL (k + r) [2 * s, 2 * s + 1], x = s := fun x hx => by
    simp [touchedL] at hx
    omega
  have hn : (touchedL (k + r) [2 * s, 2 * s + 1]).Pairwise (· < ·) := List.Pairwise.filter _ List.pairwise_lt_range
  match e : touchedL (k + r) [2 * s, 2 * s + 1] with
  | [] => exact Nat.zero_le _
  | [x] => exact Nat.le_refl _
  | x :: y :: l =>
    rw [e] at hs hn
    have h1 := hs x (by simp)
    have h2 := hs y (by simp)
    simp at hn
    omega
end Go.Proofs.YtjmbpldkggbdlaaGreatDoor

/- What the named variables of package api hold, by the rows' condition: errors, each of a block of its own. -/
namespace Go.Proofs.YtjmbpldkggbdlaaGreatDoor
open Go.RowKit Go.ChangeShapes
set_option linter.unusedVariables false
set_option maxRecDepth 20000
theorem cellsES : Tryz.prog.cellsOf 203 = 1 := by kernel_rfl
theorem cellsStr : Tryz.prog.cellsOf 9 = 1 := by kernel_rfl
theorem starES : "*" ++ "errors.errorString" = "*errors.errorString" := by decide
theorem rowES (u : TypeId) (h : Tryz.prog.typeName? 3 u = some "*errors.errorString") : u = 188 :=
  typeName_ptr_named (nm := "errors.errorString") (by rw [starES]; kernel_rfl) (by kernel_rfl) (by decide) u (by rw [starES]; exact h)
/-- an error's datum -/
def errD (text : List UInt8) : DataW Unit := .iface "*errors.errorString" (.ptr (.agg [.lit (.string text)]))
def ErrsAt (W : World) (gs : List Nat) (es : List Addr) : Prop :=
  gs.length = es.length ∧ es.Nodup ∧ ∀ (k g : Nat) (a : Addr), gs[k]? = some g → es[k]? = some a → W.cell? ⟨g, 0, none⟩ = some (errAt a) ∧ ∃ c t, W.heap[a.block]? = some (.cells c t (0, 0))
theorem errs_go {W : World} : ∀ (laid : List (String × DataW Unit)) (gs : List Nat) (ps : List MemPlace), DataW.LaidVars Tryz.prog W laid ps → ps.Nodup →
    (∀ b off, MemPlace.cell b off ∈ ps → (∃ c t, W.heap[b]? = some (.cells c t (0, 0))) ∧ ∀ u v, W.cell? ⟨b, off, none⟩ = some (.iface u v) → Value.okWide Tryz.prog W .any 0 u v) →
    laid.map (fun x => Tryz.prog.globalNamed x.1) = gs.map some → (∀ g ∈ gs, (Tryz.prog.globals[g]?).map (·.type) = some 26) → (∀ x ∈ laid, ∃ text, x.2 = errD text) →
    ∃ es : List Addr, gs.length = es.length ∧ es.Nodup ∧ (∀ a ∈ es, MemPlace.cell a.block a.off ∈ ps) ∧ ∀ (k g : Nat) (a : Addr), gs[k]? = some g → es[k]? = some a → W.cell? ⟨g, 0, none⟩ = some (errAt a) ∧ ∃ c t, W.heap[a.block]? = some (.cells c t (0, 0))
  | [], [], _, _, _, _, _, _, _ => ⟨[], rfl, List.nodup_nil, fun a h => by simp at h, fun k g a h => by simp at h⟩
  | [], _ :: _, _, _, _, _, h, _, _ => by simp at h
  | _ :: _, [], _, _, _, _, h, _, _ => by simp at h
  | (n, d) :: r, g :: gs, ps, hv, hnd, hrows, hn, ht, hd => by
    obtain ⟨text, hdd⟩ := hd _ List.mem_cons_self
    simp only at hdd
    subst hdd
    obtain ⟨g0, t0, cs0, f0, p0, q0, hg0, ht0, hv0, hd0, hq, rfl⟩ := hv
    simp only [List.map_cons, List.cons.injEq] at hn
    obtain rfl := Option.some.inj (hg0.symm.trans hn.1)
    obtain rfl := Option.some.inj (ht0.symm.trans (ht _ List.mem_cons_self))
    obtain ⟨l0⟩ := cs0
    have ok0 : ∀ u v, l0 = [.iface u v] → Value.okWide Tryz.prog W .any 0 u v := fun u v e => by
      subst e
      exact (hrows g0 0 (by simp [MemPlace.row])).2 u v (by simpa using World.var?_cell hg0 hv0 0)
    obtain ⟨a0, s0, rfl, hc0, hs0, hz0, rfl⟩ := errorString_of_trod Tryz.underlying26 rowES Tryz.underlying188 Tryz.underlying203 rfl rfl Tryz.underlying9 cellsES cellsStr hd0 ok0
    have hndq : q0.Nodup := List.Nodup.sublist (List.sublist_append_right _ _) hnd
    obtain ⟨es, h1, h2, h3, h4⟩ := errs_go r gs q0 hq hndq (fun b off hm => hrows b off (List.mem_append_right _ hm)) hn.2 (fun g hg => ht g (List.mem_cons_of_mem _ hg)) (fun x hx => hd x (List.mem_cons_of_mem _ hx))
    have hm0 : MemPlace.cell a0.block a0.off ∈ MemPlace.row ⟨g0, 0, none⟩ (Array.mk [Value.iface 188 (.pointer (some a0))]).size ++ MemPlace.row a0 1 := by simp [MemPlace.row]
    refine ⟨a0 :: es, by simp [h1], List.nodup_cons.2 ⟨fun hin => ?_, h2⟩, fun a ha => ?_, fun k g a hk ha => ?_⟩
    · exact (List.nodup_append.1 hnd).2.2 _ hm0 _ (h3 _ hin) rfl
    · rcases List.mem_cons.1 ha with rfl | ha
      · exact List.mem_append_left _ hm0
      · exact List.mem_append_right _ (h3 _ ha)
    · cases k with
      | zero =>
        simp only [List.getElem?_cons_zero, Option.some.injEq] at hk ha
        subst hk ha
        exact ⟨by simpa [errAt] using World.var?_cell hg0 hv0 0, (hrows a0.block a0.off (List.mem_append_left _ hm0)).1⟩
      | succ k => exact h4 k g a (by simpa using hk) (by simpa using ha)
theorem errs_of_laid {W : World} {laid : List (String × DataW Unit)} {gs : List Nat} (h : laidMetH Tryz.prog laid W) (hp : (laid.all fun x => x.2.handleName?.isNone) = true)
    (hn : laid.map (fun x => Tryz.prog.globalNamed x.1) = gs.map some) (ht : ∀ g ∈ gs, (Tryz.prog.globals[g]?).map (·.type) = some 26) (hd : ∀ x ∈ laid, ∃ text, x.2 = errD text) : ∃ es, ErrsAt W gs es := by
  rw [MakeChecks.laidMetH_plain _ _ _ hp] at h
  obtain ⟨ps, hv, hnd, hrows⟩ := h
  obtain ⟨es, h1, h2, _, h4⟩ := errs_go laid gs ps hv hnd hrows hn ht hd
  exact ⟨es, h1, h2, h4⟩
theorem errs_at {W : World} {gs : List Nat} {es : List Addr} (h : ErrsAt W gs es) (k g : Nat) (hk : gs[k]? = some g) : ∃ a, es[k]? = some a ∧ W.cell? ⟨g, 0, none⟩ = some (errAt a) ∧ ∃ c t, W.heap[a.block]? = some (.cells c t (0, 0)) := by
  have hlt : k < es.length := by
    rw [← h.1]; exact (List.getElem?_eq_some_iff.1 hk).1
  exact ⟨es[k], List.getElem?_eq_getElem hlt, h.2.2 k g _ hk (List.getElem?_eq_getElem hlt)⟩
theorem errsAt_below {w w' : World} {gs : List Nat} {es : List Addr} (h : ErrsAt w gs es) (hb : Below w.heap.size w w') : ErrsAt w' gs es :=
  ⟨h.1, h.2.1, fun k g a hk ha => by
    obtain ⟨h1, c, t, h2⟩ := h.2.2 k g a hk ha
    exact ⟨(hb.cell (p := ⟨g, 0, none⟩) (by simpa using World.block_lt_of_cell? w _ h1)).trans h1, c, t, heap_later h2 hb⟩⟩
theorem infoPtr : ∃ i, Tryz.prog.info? 188 = some i ∧ i.comparable = true := by
  have h : (Tryz.prog.info? 188).map (·.comparable) = some true := by kernel_rfl
  cases hq : Tryz.prog.info? 188 with
  | none => simp [hq] at h
  | some i => simp only [hq, Option.map_some, Option.some.injEq] at h; exact ⟨i, rfl, h⟩
theorem infoES : ∃ j, Tryz.prog.info? 203 = some j ∧ j.size ≠ 0 := by
  have h : (Tryz.prog.info? 203).map (·.size) = some 1 := by kernel_rfl
  cases hq : Tryz.prog.info? 203 with
  | none => simp [hq] at h
  | some i => simp only [hq, Option.map_some, Option.some.injEq] at h; exact ⟨i, rfl, by omega⟩
/-- one error held against itself -/
theorem eq_same (w : World) (a : Addr) : (binOp .eql 26 (.iface 188 (.pointer (some a))) (.iface 188 (.pointer (some a)))).run Tryz.prog w = .ok (.bool true) w := by
  obtain ⟨i, h1, h2⟩ := infoPtr
  obtain ⟨j, h3, _⟩ := infoES
  exact run_eql_iface_ptr_same w a Tryz.underlying26 Tryz.underlying188 h1 h2 h3
theorem eq_other {w : World} {a b : Addr} {ca cb : Array Value} {ta tb : TypeId} (hne : a ≠ b) (ha : w.heap[a.block]? = some (.cells ca ta (0, 0))) (hb : w.heap[b.block]? = some (.cells cb tb (0, 0))) :
    (binOp .eql 26 (.iface 188 (.pointer (some a))) (.iface 188 (.pointer (some b)))).run Tryz.prog w = .ok (.bool false) w := by
  obtain ⟨i, h1, h2⟩ := infoPtr
  obtain ⟨j, h3, h4⟩ := infoES
  exact run_eql_iface_ptr_other w Tryz.underlying26 Tryz.underlying188 h1 h2 h3 h4 hne ha hb
end Go.Proofs.YtjmbpldkggbdlaaGreatDoor

/- What the statements' own looks at lists of numbers answer: Ints, KeptInts, SameInts; nothing that was there turns. -/
namespace Go.Proofs.YtjmbpldkggbdlaaGreatDoor
open Go.RowKit Gf
set_option linter.unusedVariables false
set_option maxRecDepth 20000
theorem rowI_at {w : World} {b off : Nat} {ns : List Int} (h : ∀ j n, ns[j]? = some n → w.cell? ⟨b, off + j, none⟩ = some (.int .i64 n)) (j : Nat) (hj : j < ns.length) : w.cell? ⟨b, off + j, none⟩ = some (.int .i64 (ns.getD j 0)) := by
  refine h j _ ?_
  rw [List.getD_eq_getElem?_getD, List.getElem?_eq_getElem hj]; rfl
theorem rowI_cell {w : World} {a : Option Addr} {ns : List Int} (h : RowI w a ns) {j : Nat} (hj : j < ns.length) : ∃ b off, a = some ⟨b, off, none⟩ ∧ b < w.heap.size ∧ ∀ j, j < ns.length → w.cell? ⟨b, off + j, none⟩ = some (.int .i64 (ns.getD j 0)) := by
  rcases h with e | ⟨b, off, rfl, h⟩
  · rw [e] at hj; simp at hj
  · have := World.block_lt_of_cell? w _ (rowI_at h j hj)
    exact ⟨b, off, rfl, by simpa using this, fun j hj => rowI_at h j hj⟩
def eqI (ns ms : List Int) : Bool := decide (ns = ms)
theorem eqI_true (ns : List Int) : eqI ns ns = true := by simp [eqI]
theorem eqI_ext {ns ms : List Int} (hl : ns.length = ms.length) (h : ∀ j, j < ns.length → ns.getD j 0 = ms.getD j 0) : ns = ms := by
  apply List.ext_getElem hl
  intro j h1 h2
  have := h j h1
  simpa [List.getD_eq_getElem?_getD, h1, h2] using this
theorem eqI_len {ns ms : List Int} (h : ns.length ≠ ms.length) : eqI ns ms = false := by
  simp only [eqI, decide_eq_false_iff_not]
  intro e; exact h (by rw [e])
theorem eqI_no {ns ms : List Int} {k : Nat} (h : ns.getD k 0 ≠ ms.getD k 0) : eqI ns ms = false := by
  simp only [eqI, decide_eq_false_iff_not]
  intro e; exact h (by rw [e])
set_option maxHeartbeats 1000000 in
theorem sameInts_F (a b : Option Addr) (la ca lb cb : Nat) (ns ms : List Int) (w : World) (hla : la = ns.length) (hlb : lb = ms.length) (ha : la ≤ 140737488355328) (hb : lb ≤ 140737488355328) (hx : RowI w a ns) (hy : RowI w b ms) :
    Calls Tryz.prog 21 #[.slice a la ca, .slice b lb cb] w fun e w' => e = .returned (.bool (eqI ns ms)) ∧ Below w.heap.size w w' := by
  by_cases hl : la = lb
  · subst hl
    have HA : Hid _ := hla
    have HB : Hid _ := hlb
    have HX : Hid _ := hx
    have HY : Hid _ := hy
    clear hla hlb hx hy
    go_enter Tryz.func21, Tryz.ntmps21
    go_wp2
    go_loopw [13] (fun i wr => ∃ k : Nat, k ≤ la ∧ i = .int .i64 k ∧ Below w.heap.size w wr ∧ ∀ j, j < k → ns.getD j 0 = ms.getD j 0) (fun i _ => la - (intOf i).toNat)
    case atStart => exact ⟨0, by omega, rfl, Below.refl _ _, fun j h => absurd h (by omega)⟩
    case round =>
      obtain ⟨k, hk, rfl, hbw, hall⟩ := hrel
      by_cases hlt : k < la
      · obtain ⟨b1, o1, rfl, hb1, h1⟩ := rowI_cell HX.out (show k < ns.length by rw [← HA.out]; exact hlt)
        obtain ⟨b2, o2, rfl, hb2, h2⟩ := rowI_cell HY.out (show k < ms.length by rw [← HB.out]; exact hlt)
        have c1 : wr.cell? ⟨b1, o1 + k, none⟩ = some (.int .i64 (ns.getD k 0)) := cell_later hbw (h1 k (by rw [← HA.out]; exact hlt))
        have c2 : wr.cell? ⟨b2, o2 + k, none⟩ = some (.int .i64 (ms.getD k 0)) := cell_later hbw (h2 k (by rw [← HB.out]; exact hlt))
        have HW : Hid _ := hbw
        have HALL : Hid _ := hall
        clear h1 h2 hbw hall
        generalize hx : ns.getD k 0 = x at c1
        generalize hy : ms.getD k 0 = y at c2
        have EX : Hid _ := hx
        have EY : Hid _ := hy
        clear hx hy
        by_cases hxy : x = y
        · subst hxy
          go_wp2
          go_region
          go_wp2
          refine ⟨⟨k + 1, by omega, by go_num, HW.out.drew, fun j hj => ?_⟩, by simp [intOf]; omega⟩
          by_cases e : j = k
          · subst e; rw [EX.out, EY.out]
          · exact HALL.out j (by omega)
        · have hne : Hid _ := hxy
          go_wp2
          go_region
          go_wp2
          go_ret
          exact ⟨by rw [eqI_no (k := k) (by rw [EX.out, EY.out]; exact hne.out)]; rfl, HW.out.drew⟩
      · have e : ns = ms := eqI_ext (by rw [← HA.out, ← HB.out]) (fun j hj => hall j (by rw [← HA.out] at hj; omega))
        have HE : Hid _ := e
        have HW : Hid _ := hbw
        clear e hbw hall
        go_wp2
        go_ret
        exact ⟨by rw [HE.out, eqI_true]; rfl, HW.out⟩
  · have hne : ns.length ≠ ms.length := by rw [← hla, ← hlb]; exact hl
    have HN : Hid _ := hne
    clear hne hla hlb hx hy
    go_enter Tryz.func21, Tryz.ntmps21
    go_wp2
    go_ret
    exact ⟨by rw [eqI_len HN.out]; rfl, Below.refl _ _⟩
/-- the marks behind a copied list of numbers -/
def marksI : List Int := [-91, -92, -93, -94]
def vis (ns : List Int) : Array Value := (ns.map (Value.int .i64)).toArray
theorem vis_size (ns : List Int) : (vis ns).size = ns.length := by simp [vis]
theorem vis_get {ns : List Int} {j : Nat} {n : Int} (h : ns[j]? = some n) : (vis ns)[j]? = some (.int .i64 n) := by simp [vis, h]
theorem rowI_front {w : World} {g : Nat} {ns ms : List Int} {t : TypeId} {fr : Nat × Nat} (h : w.heap[g]? = some (.cells (vis (ns ++ ms)) t fr)) : RowI w (some ⟨g, 0, none⟩) ns :=
  .inr ⟨g, 0, rfl, fun j n hj => by
    rw [Nat.zero_add]
    exact cellAt h j _ (vis_get (by rw [List.getElem?_append_left (List.getElem?_eq_some_iff.1 hj).1]; exact hj))⟩
theorem rowI_vis {w : World} {g : Nat} {ns : List Int} {t : TypeId} {fr : Nat × Nat} (h : w.heap[g]? = some (.cells (vis ns) t fr)) : RowI w (some ⟨g, 0, none⟩) ns :=
  .inr ⟨g, 0, rfl, fun j n hj => by rw [Nat.zero_add]; exact cellAt h j _ (vis_get hj)⟩
theorem rowI_alloc {w : World} {a : Option Addr} {ns : List Int} (h : RowI w a ns) (o : Obj) : RowI (w.alloc o) a ns := rowI_below h ((Below.refl _ _).alloc (Nat.le_refl _) _)
theorem run_appendI_room {w : World} {g n cap : Nat} {ns old ms : List Int} {a : Option Addr} {m c : Nat} (ty : TypeId) (h : w.heap[g]? = some (.cells (vis (ns ++ old)) 3 (0, 0))) (hn : n = ns.length) (hc : n + m ≤ cap) (hm : m = ms.length) (hroom : ms.length ≤ old.length) (hy : RowI w a ms) (hnil : a = none → c = 0) :
    (Builtin.append_ #[22, 22] ty #[.slice (some ⟨g, 0, none⟩) n cap, .slice a m c]).run Tryz.prog w = .ok (.slice (some ⟨g, 0, none⟩) (n + m) cap) (w.setRow g (vis (ns ++ ms ++ old.drop ms.length))) := by
  subst hn hm
  obtain ⟨i, hi, h1, h2, h3⟩ := infoI
  cases a with
  | none =>
    have hys : ms = [] := by
      rcases hy with e | ⟨b, off, e, _⟩
      · exact e
      · cases e
    subst hys
    have hc0 := hnil rfl
    subst hc0
    rw [List.append_nil, List.length_nil, List.drop_zero, setRow_self w g _ _ _ h]
    have hle : ns.length ≤ cap := by simpa using hc
    simp [Builtin.append_, run_underlying Tryz.underlying22, sizeOf, typeInfo, hi, Builtin.lenOf, Builtin.firstCells, loadCells, hle, storeCells]
  | some ad =>
    have := run_append_room (P := Tryz.prog) w 22 ty 3 i Tryz.underlying22 hi g ns.length cap _ h ad ms.length c (ms.map (Value.int .i64)) (by simp [h1]) (fun j v hv => by
      simp only [List.getElem?_map, Option.map_eq_some_iff] at hv
      obtain ⟨x, hx1, rfl⟩ := hv
      have hj : j < ms.length := (List.getElem?_eq_some_iff.1 hx1).1
      rcases hy with e' | ⟨b, off, e', hy⟩
      · rw [e'] at hj; simp at hj
      · cases e'
        have hadd : (⟨b, off, none⟩ : Addr).add j = ⟨b, off + j, none⟩ := by unfold Addr.add; split <;> simp_all
        rw [hadd, hy j _ hx1]) (fun v hv => by
      simp only [List.mem_map] at hv
      obtain ⟨x, _, rfl⟩ := hv
      rfl) hc (by simp [h1, vis_size]; omega)
    rw [this]
    congr 2
    rw [h1]
    simp only [vis, Nat.mul_one, List.length_map, List.map_append, List.toList_toArray]
    congr 1
    rw [List.take_left' (by simp), List.append_assoc, List.append_assoc, ← List.drop_drop, List.drop_left' (by simp), List.map_drop]
def zerosI (n : Nat) : List Int := List.replicate n 0
theorem madeI (n : Nat) : madeCells (Value.int .i64 0).cells n = vis (zerosI n) := by
  apply Array.ext_getElem?
  intro i
  by_cases h : i < n <;> simp [madeCells, vis, zerosI, Value.cells, h, Nat.mod_one]
theorem run_makeI_room (n : Nat) (hn : n ≤ 17592186043904) (w : World) :
    (Instr.makeSlice 22 (.int .i64 0) (.int .i64 ((n : Int) + 4))).run Tryz.prog w = .ok (.slice (some ⟨w.heap.size, 0, none⟩) 0 (n + 4)) (w.alloc (.cells (vis (zerosI (n + 4))) 3)) := by
  obtain ⟨i, hi, h1, h2, h3⟩ := infoI
  have := run_make (P := Tryz.prog) w 22 3 i _ Tryz.underlying22 hi h3 .i64 .i64 0 ((n : Int) + 4) (by omega) (by omega) (by rw [h2]; omega) (by omega)
  rw [this, h1]
  have e : ((n : Int) + 4).toNat = n + 4 := by omega
  simp only [e, Nat.mul_one, madeI, Int.toNat_zero]
set_option maxHeartbeats 1000000 in
theorem ints_F (a : Option Addr) (la ca : Nat) (ns : List Int) (w : World) (hla : la = ns.length) (ha : la ≤ 17592186043904) (hx : RowI w a ns) (hnil : a = none → ca = 0) :
    Calls Tryz.prog 10 #[.slice a la ca] w fun e w' => ∃ g, e = .returned (.slice (some ⟨g, 0, none⟩) la (la + 4)) ∧ w.heap.size ≤ g ∧ Below w.heap.size w w' ∧
      w'.heap[g]? = some (.cells (vis (ns ++ marksI)) 3 (0, 0)) := by
  have hmk := run_makeI_room la ha w
  have h1 := run_appendI_room (w := w.alloc (.cells (vis (zerosI (la + 4))) 3)) (g := w.heap.size) (n := 0) (cap := la + 4) (ns := []) (old := zerosI (la + 4)) (ms := ns) (a := a) (m := la) (c := ca) 22 (heap_alloc_last w _) rfl (by omega) hla (by rw [zerosI, List.length_replicate]; omega) (rowI_alloc hx _) hnil
  rw [World.setRow_alloc_new, List.nil_append, Nat.zero_add] at h1
  have hd : (zerosI (la + 4)).drop ns.length = zerosI 4 := by
    rw [← hla]; simp [zerosI, List.drop_replicate]
  rw [hd] at h1
  have h2 := run_appendI_room (w := (w.alloc (.cells (vis (ns ++ zerosI 4)) 3)).alloc (.cells (vis marksI) 3)) (g := w.heap.size) (n := la) (cap := la + 4) (ns := ns) (old := zerosI 4) (ms := marksI) (a := some ⟨w.heap.size + 1, 0, none⟩) (m := 4) (c := 4) 22 (heap_alloc2_old w _ _) hla (by omega) rfl (by decide) (rowI_vis (heap_alloc2_new w _ _)) (fun e => by cases e)
  have hd2 : (zerosI 4).drop marksI.length = [] := by decide
  rw [hd2, List.append_nil] at h2
  have HM : Hid (vis marksI = #[.int .i64 (-91), .int .i64 (-92), .int .i64 (-93), .int .i64 (-94)]) := rfl
  have H1 : Hid _ := h1
  have H2 : Hid _ := h2
  have HH : Hid _ := setRow_heap _ _ _ (vis (ns ++ marksI)) _ _ (heap_alloc2_old w (.cells (vis (ns ++ zerosI 4)) 3) (.cells (vis marksI) 3))
  clear h1 h2 hla hx hd hd2 hnil
  go_enter Tryz.func10, Tryz.ntmps10
  go_wp2_with (first | (at_builtin; refine wpList_append_run rfl _ _ 22 rfl _ _ _ _ rfl rfl H1.out ?_) | (at_builtin; rw [← HM.out]; refine wpList_append_run rfl _ _ 22 rfl _ _ _ _ rfl rfl H2.out ?_))
  go_ret
  exact ⟨w.heap.size, rfl, Nat.le_refl _, below_row ((((Below.refl _ _).alloc (Nat.le_refl _) _).alloc (by simp) _)) (Nat.le_refl _) _, HH.out⟩
theorem rowI_keep {w : World} {a : Option Addr} {ns : List Int} (h : RowI w a ns) : ∀ w', Below w.heap.size w w' → RowI w' a ns := fun w' hb => rowI_below h hb
set_option maxHeartbeats 1000000 in
theorem keptInts_F (g n cb : Nat) (b : Option Addr) (ns : List Int) (w : World) (hn : n = ns.length) (hb : n ≤ 17592186043904) (hcb : n ≤ cb)
    (hg : w.heap[g]? = some (.cells (vis (ns ++ marksI)) 3 (0, 0))) (hx : RowI w b ns) :
    Calls Tryz.prog 17 #[.slice (some ⟨g, 0, none⟩) n (n + 4), .slice b n cb] w fun e w' => e = .returned (.bool true) ∧ Below w.heap.size w w' := by
  have HC : Hid (∀ k, k < 4 → ∀ w', Below w.heap.size w w' → w'.cell? ⟨g, n + k, none⟩ = some (.int .i64 (-91 - (k : Int)))) := fun k hk w' hw => by
    refine cellAt (heap_later hg hw) (n + k) _ (vis_get ?_)
    rw [List.getElem?_append_right (by omega), show n + k - ns.length = k from by omega]
    match k, hk with
    | 0, _ => rfl
    | 1, _ => rfl
    | 2, _ => rfl
    | 3, _ => rfl
  have HX : Hid _ := rowI_front hg
  have HY : Hid _ := hx
  have HN : Hid _ := hn
  clear hn hg hx
  have p0 : (0 : Int) ≤ (n : Int) := by omega
  have p1 : n ≤ n + 4 := by omega
  have tg : decide ((n : Int) + 4 < (n : Int) + 4) = false := by simp
  have tw : IntKind.i64.wrap ((n : Int) + 4) = (n : Int) + 4 := by rw [IntKind.wrap_i64]; omega
  go_enter Tryz.func17, Tryz.ntmps17
  go_wp2_with fail
  refine Calls.mono (sameInts_F _ _ _ _ _ _ ns ns _ HN.out HN.out (by omega) (by omega) HX.out HY.out) ?_
  rintro e w1 ⟨rfl, hb1⟩
  rw [eqI_true]
  have HB1 : Hid _ := hb1
  clear hb1
  go_wp2
  go_loop [6] (fun i => ∃ k : Nat, k ≤ 4 ∧ i = .int .i64 k) (fun i => 4 - (intOf i).toNat)
  case atStart => exact ⟨0, by omega, rfl⟩
  case round =>
    obtain ⟨k, hk, rfl⟩ := hrel
    by_cases hlt : k < 4
    · have c1 := HC.out k hlt _ HB1.out
      go_wp2
      exact ⟨⟨k + 1, by omega, by go_num⟩, by simp [intOf]; omega⟩
    · go_wp2
      go_ret
      exact ⟨rfl, HB1.out⟩
end Go.Proofs.YtjmbpldkggbdlaaGreatDoor

/- What rises and Check of package damage answer, of all numbers; nothing that was there turns. -/
namespace Go.Proofs.YtjmbpldkggbdlaaGreatDoor
open Go.RowKit Gf
set_option linter.unusedVariables false
set_option maxRecDepth 20000
theorem rises_F (l cap : Nat) (a : Option Addr) (ns : List Int) (x : Int) (w : World) (hl : l = ns.length) (hl9 : l ≤ 4611686018427387904) (hX : RowI w a ns) :
    Calls Tryz.prog 30 #[.slice a l cap, .int .i64 x] w fun e w' => e = .returned (.bool (decide (ns = [] ∨ ns.getD (ns.length - 1) 0 < x))) ∧ w = w' := by
  by_cases h0 : ns = []
  · subst h0
    obtain rfl : l = 0 := hl
    go_enter Tryz.func30, Tryz.ntmps30
    go_wp2
    go_ret
    exact ⟨rfl, rfl⟩
  · have hp := List.length_pos_iff.2 h0
    obtain ⟨m, hm⟩ : ∃ m, ns.length = m + 1 := ⟨ns.length - 1, by omega⟩
    rw [hm] at hl
    subst hl
    obtain ⟨b, off, rfl, hb, hc⟩ := rowI_cell hX (show m < ns.length by omega)
    have c1 := hc m (by omega)
    have e2 : decide (ns = [] ∨ ns.getD (ns.length - 1) 0 < x) = decide (ns.getD m 0 < x) := by
      rw [hm]; simp [h0]
    rw [e2]
    generalize ns.getD m 0 = y at c1 ⊢
    clear hc hX hm h0 hp e2
    go_enter Tryz.func30, Tryz.ntmps30
    go_wp2
    go_ret
    exact ⟨rfl, rfl⟩
/-- the error of a number -/
def evH (E : Nat → Addr) (n : Nat) : Value := if n = 0 then .nilIface else errAt (E (n - 1))
/-- the error of a list of lost halves -/
noncomputable def chkE (k r : Int) (xs : List Int) : Nat := open Classical in if LegalP k r then (if GoodH (2 * (k + r)).toNat xs then 0 else 4) else 1
theorem chkE_ok {k r : Nat} {xs : List Int} (h1 : 1 ≤ k) (h2 : 2 ≤ r) (h3 : k + r ≤ 16) (h : GoodH (2 * (k + r)) xs) : chkE k r xs = 0 := by
  unfold chkE
  rw [if_pos (show LegalP (k : Int) r by unfold LegalP; omega), if_pos (show GoodH (2 * ((k : Int) + r)).toNat xs by rw [show (2 * ((k : Int) + r)).toNat = 2 * (k + r) by omega]; exact h)]
theorem chkE_no {k r : Nat} {xs : List Int} (h1 : 1 ≤ k) (h2 : 2 ≤ r) (h3 : k + r ≤ 16) (h : ¬ GoodH (2 * (k + r)) xs) : chkE k r xs = 4 := by
  unfold chkE
  rw [if_pos (show LegalP (k : Int) r by unfold LegalP; omega), if_neg (show ¬ GoodH (2 * ((k : Int) + r)).toNat xs by rw [show (2 * ((k : Int) + r)).toNat = 2 * (k + r) by omega]; exact h)]
theorem chkE_bad {k r : Int} {xs : List Int} (h : ¬ LegalP k r) : chkE k r xs = 1 := by
  unfold chkE; rw [if_neg h]
/-- what Check names -/
def ErrsH (w : World) (E : Nat → Addr) : Prop := w.cell? ⟨0, 0, none⟩ = some (errAt (E 0)) ∧ w.cell? ⟨1, 0, none⟩ = some (errAt (E 3))
theorem errsH_below {w w' : World} {E : Nat → Addr} (h : ErrsH w E) (hb : Below w.heap.size w w') : ErrsH w' E := ⟨cell_later hb h.1, cell_later hb h.2⟩
theorem rowI_take {w : World} {a : Option Addr} {ns : List Int} (h : RowI w a ns) (j : Nat) : RowI w a (ns.take j) := by
  rcases h with h | ⟨b, off, e, h⟩
  · exact .inl (by rw [h, List.take_nil])
  · refine .inr ⟨b, off, e, fun q n hq => h q n ?_⟩
    rw [List.getElem?_take] at hq
    split at hq
    · exact hq
    · cases hq
set_option maxHeartbeats 2000000 in
theorem dcheck_legal (k r l cap : Nat) (a : Option Addr) (xs : List Int) (w : World) (E : Nat → Addr) (hE : ErrsH w E) (h1 : 1 ≤ k) (h2 : 2 ≤ r) (h3 : k + r ≤ 16) (hl : l = xs.length) (hl9 : l ≤ 4611686018427387904) (hcap : l ≤ cap) (hX : RowI w a xs) :
    Calls Tryz.prog 11 #[.int .i64 k, .int .i64 r, .slice a l cap] w fun e w' => e = .returned (evH E (chkE k r xs)) ∧ Below w.heap.size w w' := by
  have HE : Hid _ := hE
  have HL : Hid (l = xs.length) := hl
  have HX : Hid (RowI w a xs) := hX
  have HOK : Hid (GoodH (2 * (k + r)) xs → chkE k r xs = 0) := fun h => chkE_ok h1 h2 h3 h
  have HNO : Hid (¬ GoodH (2 * (k + r)) xs → chkE k r xs = 4) := fun h => chkE_no h1 h2 h3 h
  clear hE hl hX
  go_enter Tryz.func11, Tryz.ntmps11
  go_wp2_with fail
  refine (bcheck_ok _ _ _ h1 h2 h3).mono ?_
  rintro e w' ⟨rfl, rfl⟩
  go_wp2
  go_loopw [21] (fun i wr => ∃ j : Nat, j ≤ l ∧ i = .int .i64 j ∧ Below w.heap.size w wr ∧ GoodH (2 * (k + r)) (xs.take j)) (fun i _ => l - (intOf i).toNat)
  case atStart => exact ⟨0, by omega, rfl, Below.refl _ _, by rw [List.take_zero]; exact goodH_nil _⟩
  case round =>
    obtain ⟨j, hj, rfl, hb, hg⟩ := hrel
    have HB : Hid _ := hb
    have HG : Hid (GoodH (2 * (k + r)) (xs.take j)) := hg
    clear hb hg
    by_cases hlt : j < l
    · have hjx : j < xs.length := by rw [← HL.out]; exact hlt
      have HS := goodH_step hjx HG.out
      obtain ⟨b, off, hab, hbl, hc⟩ := rowI_cell (rowI_below HX.out HB.out) hjx
      have c1 := hc j hjx
      rw [show xs.getD j 0 = xs[j] by simp [List.getD, hjx]] at c1
      have HR : Hid (∀ w', Below w.heap.size w w' → Calls Tryz.prog 30 #[.slice a j cap, .int .i64 xs[j]] w' fun e w2 => e = .returned (.bool (decide (xs.take j = [] ∨ (xs.take j).getD ((xs.take j).length - 1) 0 < xs[j]))) ∧ w' = w2) := fun w' hb =>
        rises_F j cap a (xs.take j) xs[j] w' (by rw [List.length_take]; omega) (by omega) (rowI_take (rowI_below HX.out hb) j)
      have HNG : Hid (¬ GoodH (2 * (k + r)) (xs.take (j + 1)) → ¬ GoodH (2 * (k + r)) xs) := fun h h2 => h (goodH_take h2 _)
      have HQ : Hid (decide (xs.take j = [] ∨ (xs.take j).getD ((xs.take j).length - 1) 0 < xs[j]) = false → ¬ GoodH (2 * (k + r)) (xs.take (j + 1))) := fun h h2 => of_decide_eq_false h (HS.1 h2).2
      have HQ2 : Hid (decide (xs.take j = [] ∨ (xs.take j).getD ((xs.take j).length - 1) 0 < xs[j]) = true → (0 ≤ xs[j] ∧ xs[j] < ((2 * (k + r) : Nat) : Int)) → GoodH (2 * (k + r)) (xs.take (j + 1))) := fun h h2 => HS.2 ⟨h2, of_decide_eq_true h⟩
      have HQ3 : Hid (¬ (0 ≤ xs[j] ∧ xs[j] < ((2 * (k + r) : Nat) : Int)) → ¬ GoodH (2 * (k + r)) (xs.take (j + 1))) := fun h h2 => h (HS.1 h2).1
      generalize decide (xs.take j = [] ∨ (xs.take j).getD ((xs.take j).length - 1) 0 < xs[j]) = q at *
      generalize hx : xs[j] = x at *
      clear hx hc HS hjx
      subst hab
      by_cases hin : 0 ≤ x ∧ x < ((2 * (k + r) : Nat) : Int)
      · obtain ⟨s, p, hp, hs, en⟩ : ∃ s p : Nat, p < 2 ∧ s < k + r ∧ x = ((2 * s + p : Nat) : Int) := ⟨x.toNat / 2, x.toNat % 2, by omega, by omega, by omega⟩
        have HIN : Hid _ := HQ2.out
        have HT : Hid (q = true → GoodH (2 * (k + r)) (xs.take (j + 1))) := fun h => HQ2.out h hin
        clear HIN HQ2 HQ3 hin
        subst en
        go_wp2_with fail
        refine Calls.mono (split_ok k r _ s p _ h1 h2 h3 rfl hp hs) ?_
        rintro e w2 ⟨rfl, hb2⟩
        have HB2 : Hid _ := HB.out.trans (hb2.mono HB.out.size)
        clear hb2
        go_wp2_with fail
        refine Calls.mono (HR.out _ HB2.out) ?_
        rintro e w3 ⟨rfl, rfl⟩
        cases hq : q
        · have HBAD : Hid _ := HNO.out (HNG.out (HQ.out hq))
          have c3 := (errsH_below HE.out HB2.out).2
          clear hq HQ HT
          unfold errAt at c3
          go_wp2
          go_ret
          exact ⟨by rw [HBAD.out]; rfl, HB2.out⟩
        · have HGO : Hid _ := HT.out hq
          clear hq HQ HT
          go_wp2
          exact ⟨⟨j + 1, by omega, by go_num, HB2.out, HGO.out⟩, by simp [intOf]; omega⟩
      · have HBAD : Hid _ := HNO.out (HNG.out (HQ3.out hin))
        have HSP : Hid _ := split_no k r x
        have HIN : Hid _ := hin
        clear hin HQ HQ2 HQ3 HNG
        go_wp2_with fail
        refine Calls.mono (HSP.out _ (E 3) (errsH_below HE.out HB.out).2 h1 h2 h3 (fun h => HIN.out (by omega))) ?_
        unfold errAt
        rintro e w2 ⟨rfl, hb2⟩
        have HB2 : Hid _ := HB.out.trans (hb2.mono HB.out.size)
        clear hb2
        go_wp2
        go_ret
        exact ⟨by rw [HBAD.out]; rfl, HB2.out⟩
    · obtain rfl : j = l := by omega
      have HF : Hid (GoodH (2 * (k + r)) xs) := by have := HG.out; rwa [HL.out, List.take_length] at this
      go_wp2
      go_ret
      exact ⟨by rw [HOK.out HF.out]; rfl, HB.out⟩
theorem dcheck_F (k r : Int) (l cap : Nat) (a : Option Addr) (xs : List Int) (w : World) (E : Nat → Addr) (hE : ErrsH w E) (hk0 : -9223372036854775808 ≤ k) (hk1 : k ≤ 9223372036854775807) (hr0 : -9223372036854775808 ≤ r) (hr1 : r ≤ 9223372036854775807)
    (hl : l = xs.length) (hl9 : l ≤ 4611686018427387904) (hcap : l ≤ cap) (hX : RowI w a xs) :
    Calls Tryz.prog 11 #[.int .i64 k, .int .i64 r, .slice a l cap] w fun e w' => e = .returned (evH E (chkE k r xs)) ∧ Below w.heap.size w w' := by
  by_cases hL : LegalP k r
  · obtain ⟨a1, b1, rfl, rfl, h1, h2, h3⟩ := legal_nat hL
    exact dcheck_legal a1 b1 l cap a xs w E hE h1 h2 h3 hl hl9 hcap hX
  · rw [chkE_bad hL]
    have HS : Hid _ := hE.1
    clear hE hl hX hcap hl9
    go_enter Tryz.func11, Tryz.ntmps11
    go_wp2_with fail
    refine Calls.mono (bcheck_bad k r _ (E 0) HS.out hk0 hk1 hr0 hr1 hL) ?_
    rintro e w' ⟨rfl, rfl⟩
    unfold errAt
    go_wp2
    go_ret
    exact ⟨rfl, Below.refl _ _⟩
end Go.Proofs.YtjmbpldkggbdlaaGreatDoor

/- The library's contracts that stage 8 leans on, laid at this program in plain words. -/
namespace Go.Proofs.YtjmbpldkggbdlaaGreatDoor
open Go.Shelf
set_option linter.unusedVariables false
set_option maxRecDepth 20000
def Tryz.keysA_ren : Go.Shelf.Ren := ⟨fun | 7 => 32 | 10 => 46 | n => n, fun | 23 => 57 | 26 => 3 | 3 => 58 | 28 => 55 | 0 => 0 | 27 => 54 | 33 => 81 | 4 => 4 | n => n, fun | n => n⟩
theorem Tryz.keysA : Go.Proofs.SlLaysZI.n7 Tryz.prog Tryz.keysA_ren := {
  mixed := by kernel_rfl
  f7 := ⟨Tryz.f32.name, by decide, Tryz.func32.trans (congrArg some (by kernel_rfl))⟩
  f10 := ⟨Tryz.f46.name, by decide, Tryz.func46.trans (congrArg some (by kernel_rfl))⟩
  t0 := Tryz.underlying0
  a0 := Tryz.isAgg0
  z0 := Tryz.sizeOf0
  v0 := Tryz.zeroValue0
  t4 := Tryz.underlying4
  a4 := Tryz.isAgg4
  z4 := Tryz.sizeOf4
  v4 := Tryz.zeroValue4
  t23 := Tryz.underlying57
  a23 := Tryz.isAgg57
  z23 := Tryz.sizeOf57
  v23 := Tryz.zeroValue57
  t26 := Tryz.underlying3
  a26 := Tryz.isAgg3
  z26 := Tryz.sizeOf3
  v26 := Tryz.zeroValue3
  t27 := Tryz.underlying54
  a27 := Tryz.isAgg54
  z27 := Tryz.sizeOf54
  v27 := Tryz.zeroValue54
  t28 := Tryz.underlying55
  a28 := Tryz.isAgg55
  z28 := Tryz.sizeOf55
  v28 := Tryz.zeroValue55
  t33 := Tryz.underlying81
  a33 := Tryz.isAgg81
  z33 := Tryz.sizeOf81
  v33 := Tryz.zeroValue81 }
def Tryz.sortedA_ren : Go.Shelf.Ren := ⟨fun | 6 => 31 | 8 => 44 | 9 => 45 | 11 => 66 | 13 => 68 | 12 => 67 | 23 => 95 | 24 => 96 | 14 => 86 | 15 => 87 | 16 => 88 | 17 => 89 | 18 => 90 | 19 => 91 | 20 => 92 | 21 => 93 | 22 => 94 | 25 => 111 | 26 => 112 | 27 => 113 | 28 => 114 | 29 => 115 | 30 => 116 | 31 => 128 | n => n, fun | 26 => 3 | 28 => 55 | 24 => 22 | 0 => 0 | 3 => 3 | 37 => 107 | 48 => 134 | 50 => 136 | 4 => 4 | 40 => 127 | 39 => 126 | 45 => 131 | 5 => 5 | 9 => 9 | 51 => 148 | 55 => 152 | 57 => 167 | 58 => 168 | 33 => 81 | n => n, fun | n => n⟩
theorem Tryz.sortedA : Go.Proofs.SlLaysZI.n6 Tryz.prog Tryz.sortedA_ren := {
  mixed := by kernel_rfl
  f6 := ⟨Tryz.f31.name, by decide, Tryz.func31.trans (congrArg some (by kernel_rfl))⟩
  f8 := ⟨Tryz.f44.name, by decide, Tryz.func44.trans (congrArg some (by kernel_rfl))⟩
  f11 := ⟨Tryz.f66.name, by decide, Tryz.func66.trans (congrArg some (by kernel_rfl))⟩
  t0 := Tryz.underlying0
  a0 := Tryz.isAgg0
  z0 := Tryz.sizeOf0
  v0 := Tryz.zeroValue0
  t24 := Tryz.underlying22
  a24 := Tryz.isAgg22
  z24 := Tryz.sizeOf22
  v24 := Tryz.zeroValue22
  t26 := Tryz.underlying3
  a26 := Tryz.isAgg3
  z26 := Tryz.sizeOf3
  v26 := Tryz.zeroValue3
  t28 := Tryz.underlying55
  a28 := Tryz.isAgg55
  z28 := Tryz.sizeOf55
  v28 := Tryz.zeroValue55
  i26 := by kernel_rfl }
def Tryz.sortA_ren : Go.Shelf.Ren := ⟨fun | 5 => 45 | 8 => 68 | 7 => 67 | 19 => 95 | 20 => 96 | 10 => 86 | 11 => 87 | 12 => 88 | 13 => 89 | 14 => 90 | 15 => 91 | 16 => 92 | 17 => 93 | 18 => 94 | 30 => 111 | 31 => 112 | 32 => 113 | 33 => 114 | 34 => 115 | 35 => 116 | 40 => 128 | n => n, fun | 23 => 22 | 25 => 3 | 3 => 3 | 32 => 107 | 22 => 22 | 0 => 0 | 44 => 134 | 46 => 136 | 4 => 4 | 36 => 127 | 35 => 126 | 41 => 131 | 5 => 5 | 9 => 9 | 53 => 148 | 57 => 152 | 63 => 167 | 64 => 168 | n => n, fun | n => n⟩
theorem Tryz.sortA : Go.Proofs.SlLaysM.n5 Tryz.prog Tryz.sortA_ren := {
  mixed := by kernel_rfl
  f5 := ⟨Tryz.f45.name, by decide, Tryz.func45.trans (congrArg some (by kernel_rfl))⟩
  f7 := ⟨Tryz.f67.name, by decide, Tryz.func67.trans (congrArg some (by kernel_rfl))⟩
  f8 := Tryz.func68.trans (congrArg some (by kernel_rfl))
  f10 := ⟨Tryz.f86.name, by decide, Tryz.func86.trans (congrArg some (by kernel_rfl))⟩
  f11 := ⟨Tryz.f87.name, by decide, Tryz.func87.trans (congrArg some (by kernel_rfl))⟩
  f12 := ⟨Tryz.f88.name, by decide, Tryz.func88.trans (congrArg some (by kernel_rfl))⟩
  f13 := ⟨Tryz.f89.name, by decide, Tryz.func89.trans (congrArg some (by kernel_rfl))⟩
  f14 := ⟨Tryz.f90.name, by decide, Tryz.func90.trans (congrArg some (by kernel_rfl))⟩
  f15 := ⟨Tryz.f91.name, by decide, Tryz.func91.trans (congrArg some (by kernel_rfl))⟩
  f16 := ⟨Tryz.f92.name, by decide, Tryz.func92.trans (congrArg some (by kernel_rfl))⟩
  f17 := ⟨Tryz.f93.name, by decide, Tryz.func93.trans (congrArg some (by kernel_rfl))⟩
  f18 := ⟨Tryz.f94.name, by decide, Tryz.func94.trans (congrArg some (by kernel_rfl))⟩
  f19 := Tryz.func95.trans (congrArg some (by kernel_rfl))
  f20 := Tryz.func96.trans (congrArg some (by kernel_rfl))
  f30 := ⟨Tryz.f111.name, by decide, Tryz.func111.trans (congrArg some (by kernel_rfl))⟩
  f31 := Tryz.func112.trans (congrArg some (by kernel_rfl))
  f32 := Tryz.func113.trans (congrArg some (by kernel_rfl))
  f33 := ⟨Tryz.f114.name, by decide, Tryz.func114.trans (congrArg some (by kernel_rfl))⟩
  f34 := ⟨Tryz.f115.name, by decide, Tryz.func115.trans (congrArg some (by kernel_rfl))⟩
  f35 := ⟨Tryz.f116.name, by decide, Tryz.func116.trans (congrArg some (by kernel_rfl))⟩
  f40 := ⟨Tryz.f128.name, by decide, Tryz.func128.trans (congrArg some (by kernel_rfl))⟩
  t0 := Tryz.underlying0
  a0 := Tryz.isAgg0
  z0 := Tryz.sizeOf0
  v0 := Tryz.zeroValue0
  t3 := Tryz.underlying3
  a3 := Tryz.isAgg3
  z3 := Tryz.sizeOf3
  v3 := Tryz.zeroValue3
  t4 := Tryz.underlying4
  a4 := Tryz.isAgg4
  z4 := Tryz.sizeOf4
  v4 := Tryz.zeroValue4
  t5 := Tryz.underlying5
  a5 := Tryz.isAgg5
  z5 := Tryz.sizeOf5
  v5 := Tryz.zeroValue5
  t9 := Tryz.underlying9
  a9 := Tryz.isAgg9
  z9 := Tryz.sizeOf9
  v9 := Tryz.zeroValue9
  t22 := Tryz.underlying22
  a22 := Tryz.isAgg22
  z22 := Tryz.sizeOf22
  v22 := Tryz.zeroValue22
  t23 := Tryz.underlying22
  a23 := Tryz.isAgg22
  z23 := Tryz.sizeOf22
  v23 := Tryz.zeroValue22
  t25 := Tryz.underlying3
  a25 := Tryz.isAgg3
  z25 := Tryz.sizeOf3
  v25 := Tryz.zeroValue3
  t32 := Tryz.underlying107
  a32 := Tryz.isAgg107
  z32 := Tryz.sizeOf107
  v32 := Tryz.zeroValue107
  t35 := Tryz.underlying126
  a35 := Tryz.isAgg126
  z35 := Tryz.sizeOf126
  v35 := Tryz.zeroValue126
  t36 := Tryz.underlying127
  a36 := Tryz.isAgg127
  z36 := Tryz.sizeOf127
  v36 := Tryz.zeroValue127
  t41 := Tryz.underlying131
  a41 := Tryz.isAgg131
  z41 := Tryz.sizeOf131
  v41 := Tryz.zeroValue131
  t44 := Tryz.underlying134
  a44 := Tryz.isAgg134
  z44 := Tryz.sizeOf134
  v44 := Tryz.zeroValue134
  t46 := Tryz.underlying136
  a46 := Tryz.isAgg136
  z46 := Tryz.sizeOf136
  v46 := Tryz.zeroValue136
  t53 := Tryz.underlying148
  a53 := Tryz.isAgg148
  z53 := Tryz.sizeOf148
  v53 := Tryz.zeroValue148
  t57 := Tryz.underlying152
  a57 := Tryz.isAgg152
  z57 := Tryz.sizeOf152
  v57 := Tryz.zeroValue152
  t63 := Tryz.underlying167
  a63 := Tryz.isAgg167
  z63 := Tryz.sizeOf167
  v63 := Tryz.zeroValue167
  t64 := Tryz.underlying168
  a64 := Tryz.isAgg168
  z64 := Tryz.sizeOf168
  v64 := Tryz.zeroValue168 }
def Tryz.joinA_ren : Go.Shelf.Ren := ⟨fun | 156 => 38 | 165 => 58 | 166 => 59 | 169 => 60 | 240 => 78 | 241 => 79 | 276 => 102 | 277 => 103 | n => n, fun | 31 => 68 | 9 => 9 | 3 => 3 | 4 => 4 | 0 => 0 | 20 => 20 | 72 => 96 | 76 => 30 | 70 => 94 | 37 => 61 | 75 => 26 | 127 => 114 | 164 => 142 | 5 => 5 | 80 => 99 | n => n, fun | n => n⟩
theorem Tryz.joinA : Go.Proofs.Lays.n156 Tryz.prog Tryz.joinA_ren := {
  mixed := by kernel_rfl
  f156 := Tryz.func38.trans (congrArg some (by kernel_rfl))
  f165 := Tryz.func58.trans (congrArg some (by kernel_rfl))
  f166 := Tryz.func59.trans (congrArg some (by kernel_rfl))
  f169 := Tryz.func60.trans (congrArg some (by kernel_rfl))
  f240 := Tryz.func78.trans (congrArg some (by kernel_rfl))
  f241 := Tryz.func79.trans (congrArg some (by kernel_rfl))
  f276 := Tryz.func102.trans (congrArg some (by kernel_rfl))
  f277 := Tryz.func103.trans (congrArg some (by kernel_rfl))
  t0 := Tryz.underlying0
  a0 := Tryz.isAgg0
  z0 := Tryz.sizeOf0
  v0 := Tryz.zeroValue0
  t3 := Tryz.underlying3
  a3 := Tryz.isAgg3
  z3 := Tryz.sizeOf3
  v3 := Tryz.zeroValue3
  t4 := Tryz.underlying4
  a4 := Tryz.isAgg4
  z4 := Tryz.sizeOf4
  v4 := Tryz.zeroValue4
  t9 := Tryz.underlying9
  a9 := Tryz.isAgg9
  z9 := Tryz.sizeOf9
  v9 := Tryz.zeroValue9
  t20 := Tryz.underlying20
  a20 := Tryz.isAgg20
  z20 := Tryz.sizeOf20
  v20 := Tryz.zeroValue20
  t31 := Tryz.underlying68
  a31 := Tryz.isAgg68
  z31 := Tryz.sizeOf68
  v31 := Tryz.zeroValue68
  t37 := Tryz.underlying61
  a37 := Tryz.isAgg61
  z37 := Tryz.sizeOf61
  v37 := Tryz.zeroValue61
  t70 := Tryz.underlying94
  a70 := Tryz.isAgg94
  z70 := Tryz.sizeOf94
  v70 := Tryz.zeroValue94
  t72 := Tryz.underlying96
  a72 := Tryz.isAgg96
  z72 := Tryz.sizeOf96
  v72 := Tryz.zeroValue96
  t75 := Tryz.underlying26
  a75 := Tryz.isAgg26
  z75 := Tryz.sizeOf26
  v75 := Tryz.zeroValue26
  t76 := Tryz.underlying30
  a76 := Tryz.isAgg30
  z76 := Tryz.sizeOf30
  v76 := Tryz.zeroValue30
  t127 := Tryz.underlying114
  a127 := Tryz.isAgg114
  z127 := Tryz.sizeOf114
  v127 := Tryz.zeroValue114
  t164 := Tryz.underlying142
  a164 := Tryz.isAgg142
  z164 := Tryz.sizeOf142
  v164 := Tryz.zeroValue142 }
def Tryz.indexA_ren : Go.Shelf.Ren := ⟨fun | 143 => 85 | 219 => 110 | 217 => 124 | 225 => 125 | 224 => 126 | 267 => 127 | 266 => 137 | 314 => 138 | n => n, fun | 9 => 9 | 3 => 3 | 4 => 4 | 5 => 5 | 46 => 107 | 146 => 176 | 51 => 134 | n => n, fun | 1 => 4 | n => n⟩
theorem Tryz.indexA : Go.Proofs.Lays.n143 Tryz.prog Tryz.indexA_ren := {
  mixed := by kernel_rfl
  f143 := Tryz.func85.trans (congrArg some (by kernel_rfl))
  f217 := Tryz.func124.trans (congrArg some (by kernel_rfl))
  f219 := Tryz.func110.trans (congrArg some (by kernel_rfl))
  f224 := Tryz.func126.trans (congrArg some (by kernel_rfl))
  f225 := Tryz.func125.trans (congrArg some (by kernel_rfl))
  f266 := Tryz.func137.trans (congrArg some (by kernel_rfl))
  f267 := Tryz.func127.trans (congrArg some (by kernel_rfl))
  f314 := Tryz.func138.trans (congrArg some (by kernel_rfl))
  t3 := Tryz.underlying3
  a3 := Tryz.isAgg3
  z3 := Tryz.sizeOf3
  v3 := Tryz.zeroValue3
  t4 := Tryz.underlying4
  a4 := Tryz.isAgg4
  z4 := Tryz.sizeOf4
  v4 := Tryz.zeroValue4
  t5 := Tryz.underlying5
  a5 := Tryz.isAgg5
  z5 := Tryz.sizeOf5
  v5 := Tryz.zeroValue5
  t9 := Tryz.underlying9
  a9 := Tryz.isAgg9
  z9 := Tryz.sizeOf9
  v9 := Tryz.zeroValue9
  t46 := Tryz.underlying107
  a46 := Tryz.isAgg107
  z46 := Tryz.sizeOf107
  v46 := Tryz.zeroValue107
  t51 := Tryz.underlying134
  a51 := Tryz.isAgg134
  z51 := Tryz.sizeOf134
  v51 := Tryz.zeroValue134
  t146 := Tryz.underlying176
  a146 := Tryz.isAgg176
  z146 := Tryz.sizeOf176
  v146 := Tryz.zeroValue176
  g1 := by kernel_rfl }
theorem Tryz.joinX : Go.Proofs.Builder.Extra Tryz.prog Tryz.joinA_ren := {
  sizeBuilder := by kernel_rfl
  liesBuilder := by kernel_rfl
  t5 := Tryz.underlying5
  a5 := Tryz.isAgg5
  z5 := Tryz.sizeOf5
  v5 := Tryz.zeroValue5
  infoByte := by kernel_rfl
  cellsByte := by kernel_rfl
  sizeByte := by kernel_rfl
  neB5 := by decide }
end Go.Proofs.YtjmbpldkggbdlaaGreatDoor

/- What small numbers in decimal, and names of halves, answer: the library's Itoa, nameOf, Name, Parse of package half, the document's own Number and Name; nothing that was there turns. -/
namespace Go.Proofs.YtjmbpldkggbdlaaGreatDoor
open Go.RowKit Gf
set_option linter.unusedVariables false
set_option maxRecDepth 20000
/-- a number below a hundred in decimal -/
def numB (n : Nat) : List UInt8 := if n < 10 then [UInt8.ofNat (48 + n)] else [UInt8.ofNat (48 + n / 10), UInt8.ofNat (48 + n % 10)]
/-- bytes as a string -/
def strB (l : List UInt8) : ByteArray := ⟨l.toArray⟩
theorem numB_dec {n : Nat} (h : n < 100) : Lib.decDigits n = numB n := by
  by_cases h1 : n < 10
  · rw [Lib.decDigits_one h1, numB, if_pos h1]
  · rw [Lib.decDigits_two h1 h, numB, if_neg h1]
theorem small_ba (x : ByteArray) (l : List UInt8) (h : x.data.toList = l) : x = strB l := by
  subst h
  cases x
  simp [strB]
theorem extr_data (x : ByteArray) (i j : Nat) : (x.extract i j).data.toList = (x.data.toList.drop i).take (j - i) := by
  simp [ByteArray.data_extract]
set_option maxHeartbeats 2000000 in
set_option maxRecDepth 100000 in
theorem small_F (i : Nat) (h : i < 100) (w : World) : Calls Tryz.prog 132 #[.int .i64 i] w fun e w' => e = .returned (.string (strB (numB i))) ∧ w = w' := by
  rw [← numB_dec h]
  go_enter Tryz.func132, Tryz.ntmps132
  go_name_bytes_deep 45 SM hSM
  have eSM : SM = Lib.smalls := by rw [← hSM]; decide +kernel
  subst eSM
  clear hSM
  go_name_bytes_deep 30 DG hDG
  have eDG : DG = Lib.digits36 := by rw [← hDG]; decide +kernel
  subst eDG
  clear hDG
  by_cases h10 : i < 10
  · have hsl : ∀ w, (Instr.slice 9 (.string Lib.digits36) (some (.int .i64 (i : Int))) (some (.int .i64 ((i : Int) + 1))) none).run Tryz.prog w = .ok (.string (Lib.digits36.extract i (i + 1))) w := fun w => by
      rw [run_slice_string w 9 Lib.digits36 .i64 .i64 _ _ Tryz.underlying9 (by omega) (by omega) (by rw [Lib.digits36_size]; omega), show ((i : Int)).toNat = i by omega, show ((i : Int) + 1).toNat = i + 1 by omega]
    go_wp2
    go_ret
    refine ⟨?_, rfl⟩
    show Ending.returned (Value.string (Lib.digits36.extract i (i + 1))) = _
    rw [small_ba (Lib.digits36.extract i (i + 1)) (Lib.decDigits i) (by rw [extr_data]; exact Lib.digits36_piece h10)]
  · have hsl : ∀ w, (Instr.slice 9 (.string Lib.smalls) (some (.int .i64 ((i : Int) * 2))) (some (.int .i64 ((i : Int) * 2 + 2))) none).run Tryz.prog w = .ok (.string (Lib.smalls.extract (i * 2) (i * 2 + 2))) w := fun w => by
      rw [run_slice_string w 9 Lib.smalls .i64 .i64 _ _ Tryz.underlying9 (by omega) (by omega) (by rw [Lib.smalls_size]; omega), show ((i : Int) * 2).toNat = i * 2 by omega, show ((i : Int) * 2 + 2).toNat = i * 2 + 2 by omega]
    go_wp2
    go_ret
    refine ⟨?_, rfl⟩
    show Ending.returned (Value.string (Lib.smalls.extract (i * 2) (i * 2 + 2))) = _
    rw [small_ba (Lib.smalls.extract (i * 2) (i * 2 + 2)) (Lib.decDigits i) (by rw [extr_data]; exact Lib.smalls_piece h10 h)]
set_option maxRecDepth 100000 in
theorem itoa_F (i : Nat) (h : i < 100) (w : World) : Calls Tryz.prog 77 #[.int .i64 i] w fun e w' => e = .returned (.string (strB (numB i))) ∧ w = w' := by
  go_enter Tryz.func77, Tryz.ntmps77
  go_wp2_with (first
    | (go_at_call 132; refine (small_F i h _).mono ?_; rintro e w' ⟨rfl, rfl⟩)
    | go_in)
  go_ret
  exact ⟨rfl, rfl⟩
/-- a half's name -/
def nameB (k h : Nat) : List UInt8 := (if h / 2 < k then 100 :: numB (h / 2) else 112 :: numB (h / 2 - k)) ++ [if h % 2 = 0 then 97 else 98]
theorem ab0 : (⟨#[97, 98]⟩ : ByteArray).extract 0 1 = strB [97] := by decide +kernel
theorem ab1 : (⟨#[97, 98]⟩ : ByteArray).extract 1 2 = strB [98] := by decide +kernel
theorem strB_app (a b : List UInt8) : strB a ++ strB b = strB (a ++ b) := by
  apply ByteArray.ext
  simp [strB]
theorem strB_size (l : List UInt8) : (strB l).size = l.length := by simp [strB, ByteArray.size]
theorem numB_size (n : Nat) : (strB (numB n)).size ≤ 2 := by
  rw [strB_size, numB]
  split <;> simp
theorem strB_one (c : UInt8) : (⟨#[c]⟩ : ByteArray) = strB [c] := rfl
theorem strB_nil : (⟨#[]⟩ : ByteArray) = strB [] := rfl
theorem strB_inj {a b : List UInt8} (h : strB a = strB b) : a = b := by
  have := congrArg (fun x => x.data.toList) h
  simpa [strB] using this
theorem nameOf_d0 (k h s : Nat) (w : World) (hh : h = 2 * s + 0) (hs : s < 100) (hk : k ≤ 100) (hlt : s < k) :
    Calls Tryz.prog 57 #[.int .i64 k, .agg #[.int .i64 s, .int .i64 0]] w fun e w' => e = .returned (.string (strB (nameB k h))) ∧ Below w.heap.size w w' := by
  have hn : nameB k h = 100 :: numB s ++ [97] := by
    rw [nameB, show h / 2 = s by omega, if_pos hlt, if_pos (by omega)]
  clear hh
  have HN : Hid _ := hn
  clear hn
  go_enter Tryz.func57, Tryz.ntmps57
  go_wp2_with fail

  refine (itoa_F s (by omega) _).mono ?_
  rintro e w' ⟨rfl, rfl⟩
  have hz := numB_size s
  go_wp2
  go_ret
  refine ⟨?_, (Below.refl w.heap.size w).alloc (Nat.le_refl _) _⟩
  show Ending.returned (Value.string (⟨#[100]⟩ ++ strB (numB s) ++ ByteArray.extract ⟨#[97, 98]⟩ 0 1)) = _
  rw [ab0, strB_one, strB_app, strB_app, HN.out]
  rfl
theorem nameOf_d1 (k h s : Nat) (w : World) (hh : h = 2 * s + 1) (hs : s < 100) (hk : k ≤ 100) (hlt : s < k) :
    Calls Tryz.prog 57 #[.int .i64 k, .agg #[.int .i64 s, .int .i64 1]] w fun e w' => e = .returned (.string (strB (nameB k h))) ∧ Below w.heap.size w w' := by
  have hn : nameB k h = 100 :: numB s ++ [98] := by
    rw [nameB, show h / 2 = s by omega, if_pos hlt, if_neg (by omega)]
  clear hh
  have HN : Hid _ := hn
  clear hn
  go_enter Tryz.func57, Tryz.ntmps57
  go_wp2_with fail

  refine (itoa_F s (by omega) _).mono ?_
  rintro e w' ⟨rfl, rfl⟩
  have hz := numB_size s
  go_wp2
  go_ret
  refine ⟨?_, (Below.refl w.heap.size w).alloc (Nat.le_refl _) _⟩
  show Ending.returned (Value.string (⟨#[100]⟩ ++ strB (numB s) ++ ByteArray.extract ⟨#[97, 98]⟩ 1 2)) = _
  rw [ab1, strB_one, strB_app, strB_app, HN.out]
  rfl
theorem nameOf_p0 (k h s : Nat) (w : World) (hh : h = 2 * s + 0) (hs : s < 100) (hk : k ≤ 100) (hlt : ¬ s < k) :
    Calls Tryz.prog 57 #[.int .i64 k, .agg #[.int .i64 s, .int .i64 0]] w fun e w' => e = .returned (.string (strB (nameB k h))) ∧ Below w.heap.size w w' := by
  have hn : nameB k h = 112 :: numB (s - k) ++ [97] := by
    rw [nameB, show h / 2 = s by omega, if_neg hlt, if_pos (by omega)]
  clear hh
  obtain ⟨q, rfl⟩ : ∃ q, s = k + q := ⟨s - k, by omega⟩
  rw [show k + q - k = q by omega] at hn
  have E : Hid ((k : Int) + q - k = q) := by show _ = _; omega
  have HN : Hid _ := hn
  clear hn
  go_enter Tryz.func57, Tryz.ntmps57
  go_wp2_with fail
  rw [E.out]
  refine (itoa_F q (by omega) _).mono ?_
  rintro e w' ⟨rfl, rfl⟩
  have hz := numB_size q
  go_wp2
  go_ret
  refine ⟨?_, (Below.refl w.heap.size w).alloc (Nat.le_refl _) _⟩
  show Ending.returned (Value.string (⟨#[112]⟩ ++ strB (numB q) ++ ByteArray.extract ⟨#[97, 98]⟩ 0 1)) = _
  rw [ab0, strB_one, strB_app, strB_app, HN.out]
  rfl
theorem nameOf_p1 (k h s : Nat) (w : World) (hh : h = 2 * s + 1) (hs : s < 100) (hk : k ≤ 100) (hlt : ¬ s < k) :
    Calls Tryz.prog 57 #[.int .i64 k, .agg #[.int .i64 s, .int .i64 1]] w fun e w' => e = .returned (.string (strB (nameB k h))) ∧ Below w.heap.size w w' := by
  have hn : nameB k h = 112 :: numB (s - k) ++ [98] := by
    rw [nameB, show h / 2 = s by omega, if_neg hlt, if_neg (by omega)]
  clear hh
  obtain ⟨q, rfl⟩ : ∃ q, s = k + q := ⟨s - k, by omega⟩
  rw [show k + q - k = q by omega] at hn
  have E : Hid ((k : Int) + q - k = q) := by show _ = _; omega
  have HN : Hid _ := hn
  clear hn
  go_enter Tryz.func57, Tryz.ntmps57
  go_wp2_with fail
  rw [E.out]
  refine (itoa_F q (by omega) _).mono ?_
  rintro e w' ⟨rfl, rfl⟩
  have hz := numB_size q
  go_wp2
  go_ret
  refine ⟨?_, (Below.refl w.heap.size w).alloc (Nat.le_refl _) _⟩
  show Ending.returned (Value.string (⟨#[112]⟩ ++ strB (numB q) ++ ByteArray.extract ⟨#[97, 98]⟩ 1 2)) = _
  rw [ab1, strB_one, strB_app, strB_app, HN.out]
  rfl
theorem nameOf_F (k h s p : Nat) (w : World) (hh : h = 2 * s + p) (hp : p < 2) (hs : s < 100) (hk : k ≤ 100) :
    Calls Tryz.prog 57 #[.int .i64 k, .agg #[.int .i64 s, .int .i64 p]] w fun e w' => e = .returned (.string (strB (nameB k h))) ∧ Below w.heap.size w w' := by
  rcases (show p = 0 ∨ p = 1 by omega) with rfl | rfl
  · by_cases hlt : s < k
    · exact nameOf_d0 k h s w hh hs hk hlt
    · exact nameOf_p0 k h s w hh hs hk hlt
  · by_cases hlt : s < k
    · exact nameOf_d1 k h s w hh hs hk hlt
    · exact nameOf_p1 k h s w hh hs hk hlt
def dig (d : Nat) : UInt8 := UInt8.ofNat (48 + d)
theorem numB_one {n : Nat} (h : n < 10) : numB n = [dig n] := if_pos h
theorem numB_two {n : Nat} (h : ¬ n < 10) : numB n = [dig (n / 10), dig (n % 10)] := if_neg h
theorem strB_list (l : List UInt8) : (strB l).toList = l := by simp [strB]
theorem strB_some {l : List UInt8} (h : l ≠ []) : (strB l).toList.isEmpty = false := by rw [strB_list]; cases l with | nil => exact absurd rfl h | cons => rfl
theorem numB_ne (n : Nat) : numB n ≠ [] := by rw [numB]; split <;> simp
def emptyN : Value → Nat | .string b => if b.size = 0 then 1 else 0 | _ => 0
theorem vf_digit {d : Nat} (h : d < 10) : Value.int .u8 (48 + (d : Int)) = vf (dig d) := by
  have : (UInt8.ofNat (48 + d)).toNat = 48 + d := by rw [UInt8.toNat_ofNat']; omega
  simp only [vf, dig, this]
  simp
theorem conv_digit {d : Nat} (h : d < 10) (w : World) : (convert 61 9 (.slice (some ⟨w.heap.size, 0, none⟩) 1 1)).run Tryz.prog (w.alloc (.cells #[.int .u8 (48 + (d : Int))] 5)) = .ok (.string (strB [dig d])) (w.alloc (.cells #[.int .u8 (48 + (d : Int))] 5)) := by
  rw [vf_digit h]
  exact conv8 (xs := [dig d]) rfl (row8_own (heap_alloc_last w (.cells (vfs [dig d]) 5)))
set_option maxHeartbeats 1000000 in
/-- the document's own number in decimal -/
theorem rnumber_F (n : Nat) (w : World) (h : n < 100) : Calls Tryz.prog 63 #[.int .i64 n] w fun e w' => e = .returned (.string (strB (numB n))) ∧ Below w.heap.size w w' := by
  obtain ⟨q, d, hd, hq, e1, e2, en⟩ : ∃ q d : Nat, d < 10 ∧ q < 10 ∧ (n : Int) % 10 = d ∧ (n : Int) / 10 = q ∧ n = 10 * q + d := ⟨n / 10, n % 10, by omega, by omega, by omega, by omega, by omega⟩
  have HE : Hid _ := en
  clear en
  go_enter Tryz.func63, Tryz.ntmps63
  go_wp2
  go_loopw [0, 3] (fun v s wr => Below w.heap.size w wr ∧ (v = .int .i64 n ∧ s = .string ⟨#[]⟩ ∨ 1 ≤ q ∧ v = .int .i64 q ∧ s = .string (strB [dig d]) ∨ v = .int .i64 0 ∧ s = .string (strB (numB n)))) (fun v s wr => (intOf v).toNat + emptyN s)
  case atStart => exact ⟨Below.refl _ _, .inl ⟨rfl, rfl⟩⟩
  case round =>
    obtain ⟨hb, ⟨rfl, rfl⟩ | ⟨h10, rfl, rfl⟩ | ⟨rfl, rfl⟩⟩ := hrel
    · have HB : Hid _ := hb
      clear hb
      have hcv := conv_digit hd wr
      go_wp2
      have hB2 := HB.out.alloc HB.out.size (.cells #[.int .u8 (48 + (d : Int))] 5)
      have hst : strB [dig d] ++ ⟨#[]⟩ = strB [dig d] := strB_app [dig d] []
      rw [hst]
      by_cases hq0 : q = 0
      · subst hq0
        have hn : n = d := by have := HE.out; omega
        refine ⟨⟨hB2, .inr (.inr ⟨rfl, ?_⟩)⟩, ?_⟩
        · rw [numB_one (by omega), hn]
        · simp [intOf, emptyN, strB_size, strB_nil]
      · refine ⟨⟨hB2, .inr (.inl ⟨by omega, rfl, rfl⟩)⟩, ?_⟩
        have := HE.out
        simp [intOf, emptyN, strB_size, strB_nil]; omega
    · have HB : Hid _ := hb
      clear hb
      have hcv := conv_digit hq wr
      have hse := strB_some (show [dig d] ≠ [] by simp)
      have e3 : (q : Int) % 10 = q := by omega
      have e4 : (q : Int) / 10 = 0 := by omega
      go_wp2
      have hB2 := HB.out.alloc HB.out.size (.cells #[.int .u8 (48 + (q : Int))] 5)
      have hst : strB [dig q] ++ strB [dig d] = strB [dig q, dig d] := strB_app [dig q] [dig d]
      rw [hst]
      have hn := HE.out
      refine ⟨⟨hB2, .inr (.inr ⟨rfl, ?_⟩)⟩, ?_⟩
      · rw [numB_two (by omega), show n / 10 = q by omega, show n % 10 = d by omega]
      · simp [intOf, emptyN, strB_size]; omega
    · have HB : Hid _ := hb
      clear hb
      have hse := strB_some (numB_ne n)
      go_wp2
      go_ret
      exact ⟨rfl, HB.out⟩
/-- the document's own name of a half -/
theorem rname_F (k h : Nat) (w : World) (hh : h < 200) (hk : k ≤ 100) : Calls Tryz.prog 40 #[.int .i64 k, .int .i64 h] w fun e w' => e = .returned (.string (strB (nameB k h))) ∧ Below w.heap.size w w' := by
  obtain ⟨s, p, hp, hs, e1, e2, en⟩ : ∃ s p : Nat, p < 2 ∧ s < 100 ∧ (h : Int) % 2 = p ∧ (h : Int) / 2 = s ∧ h = 2 * s + p := ⟨h / 2, h % 2, by omega, by omega, by omega, by omega, by omega⟩
  have HE : Hid _ := en
  clear en
  go_enter Tryz.func40, Tryz.ntmps40
  go_wp2_with fail
  refine (rnumber_F s _ hs).mono ?_
  rintro e w1 ⟨rfl, hb1⟩
  have HB1 : Hid _ := hb1
  clear hb1
  have hz := numB_size s
  by_cases hlt : k ≤ s
  · obtain ⟨q, rfl⟩ : ∃ q, s = k + q := ⟨s - k, by omega⟩
    have E : (k : Int) + q - k = q := by omega
    have hz2 := numB_size q
    go_wp2_with fail
    refine (rnumber_F q _ (by omega)).mono ?_
    rintro e w2 ⟨rfl, hb2⟩
    have HB2 : Hid (Below w.heap.size w w2) := HB1.out.trans (hb2.mono HB1.out.size)
    clear hb2
    have hn : nameB k h = 112 :: numB q ++ [if p = 0 then 97 else 98] := by
      have := HE.out
      rw [nameB, show h / 2 = k + q by omega, if_neg (by omega), show k + q - k = q by omega, show h % 2 = p by omega]
    have HN : Hid _ := hn
    clear hn
    rcases (show p = 0 ∨ p = 1 by omega) with rfl | rfl
    · go_wp2
      go_ret
      refine ⟨?_, HB2.out⟩
      show Ending.returned (Value.string (⟨#[112]⟩ ++ strB (numB q) ++ ⟨#[97]⟩)) = _
      rw [strB_one, strB_app, strB_one, strB_app, HN.out]
      rfl
    · go_wp2
      go_ret
      refine ⟨?_, HB2.out⟩
      show Ending.returned (Value.string (⟨#[112]⟩ ++ strB (numB q) ++ ⟨#[98]⟩)) = _
      rw [strB_one, strB_app, strB_one, strB_app, HN.out]
      rfl
  · have hn : nameB k h = 100 :: numB s ++ [if p = 0 then 97 else 98] := by
      have := HE.out
      rw [nameB, show h / 2 = s by omega, if_pos (by omega), show h % 2 = p by omega]
    have HN : Hid _ := hn
    clear hn
    rcases (show p = 0 ∨ p = 1 by omega) with rfl | rfl
    · go_wp2
      go_ret
      refine ⟨?_, HB1.out⟩
      show Ending.returned (Value.string (⟨#[100]⟩ ++ strB (numB s) ++ ⟨#[97]⟩)) = _
      rw [strB_one, strB_app, strB_one, strB_app, HN.out]
      rfl
    · go_wp2
      go_ret
      refine ⟨?_, HB1.out⟩
      show Ending.returned (Value.string (⟨#[100]⟩ ++ strB (numB s) ++ ⟨#[98]⟩)) = _
      rw [strB_one, strB_app, strB_one, strB_app, HN.out]
      rfl
end Go.Proofs.YtjmbpldkggbdlaaGreatDoor

/- The library's calls of stage 8: the keys of a map of numbers, sorted; texts joined; where a byte first stands in a text. -/
namespace Go.Proofs.YtjmbpldkggbdlaaGreatDoor
open Go.RowKit Go.Maps Go.Sort Go.Shelf Gf
set_option linter.unusedVariables false
set_option maxRecDepth 20000
/-- the two contracts of slices.Sort at this program -/
theorem sortsA (m : Nat) : AnyZI.SortsIn Tryz.prog Tryz.sortedA_ren Fence.wide m :=
  ⟨fun blk off cap ss W hH hblk hsz => callsIn_wide.2 (AnyM.slices_Sort_int Tryz.sortA blk off cap ss W hH hblk hsz),
   fun p cap W => callsIn_wide.2 (AnyM.slices_Sort_int_none Tryz.sortA p cap W)⟩
theorem keys_F (mb : Value) (b : Option Nat) (hm : mb = .map b) (w : World) : Calls Tryz.prog 32 #[mb] w fun e w' =>
    e = .returned (.func (.func 46) #[] #[.pointer (some ⟨w.heap.size, 0, none⟩)]) ∧ w' = w.alloc (.cells #[mb] 57) := by
  subst hm
  exact (callsIn_wide (n := 5)).1 (AnyZI.keys_in Tryz.keysA Fence.wide 5 trivial rfl b w)
/-- the keys of a map that lies in a block of one cell: a new slice of them, rising -/
theorem sorted_F {H : Type} (b nn g : Nat) (D0 : DataW H) (R : Value → Option (DataW H × List MemPlace)) (w : World) (hown : w.ownsMap Tryz.prog 3 R b nn D0) (hg : w.heap[g]? = some (.cells #[.map (some b)] 57 (0, 0)))
    (hmax : Maps.size D0 ≤ maxLen) (hbytes : Maps.size D0 * 8 ≤ 140737488355328) :
    Calls Tryz.prog 31 #[.func (.func 46) #[] #[.pointer (some ⟨g, 0, none⟩)]] w fun e w' => ∃ (v : Value) (ss : List Int), e = .returned v ∧ ss.Perm (intKeys D0) ∧
      w'.ownsRow w.heap.size 3 1 v ss.length ((ss.mergeSort (fun x y => decide (x ≤ y))).map (Value.int .i64)) ∧ (v = .slice none 0 0 ↔ ss = []) ∧ Below w.heap.size w w' := by
  have hgl : g < w.heap.size := ltHeap hg
  have c1 := cellAt hg 0 _ rfl
  have hseq : SeqGives Fence.wide 2 Tryz.prog 46 #[.pointer (some ⟨g, 0, none⟩)] encZ (fun ss => ss.Perm (intKeys D0)) (Maps.size D0) w :=
    AnyZI.keys_gives (ρ := Tryz.keysA_ren) { Tryz.keysA with } Fence.wide _ trivial rfl (by omega) g b nn D0 _ hgl c1 hown
  refine (callsIn_wide (n := 5)).1 ?_
  exact AnyZI.sorted_in Tryz.sortedA Fence.wide 5 trivial trivial trivial trivial rfl (by omega) (sortsA _) (enters_of Tryz.func45 (by kernel_rfl) rfl) 46 #[.pointer (some ⟨g, 0, none⟩)] trivial (enters_of Tryz.func46 (by kernel_rfl) rfl) _ _ hmax hbytes _ hseq
theorem join_F (bk o c : Nat) (xs : List ByteArray) (sep : ByteArray) (w : World)
    (hcells : ∀ (j : Nat) x, xs[j]? = some x → w.cell? ⟨bk, o + j, none⟩ = some (.string x)) (hbk : bk < w.heap.size) (hN : xs.length ≤ 140737488355328) (hcap : xs.length ≤ c) (hlen : (Lib.join (xs.map (·.data.toList)) sep.data.toList).length ≤ 140737488355328) :
    Calls Tryz.prog 38 #[.slice (some ⟨bk, o, none⟩) xs.length c, .string sep] w fun e w' => e = .returned (.string (strB (Lib.join (xs.map (·.data.toList)) sep.data.toList))) ∧ Below w.heap.size w w' :=
  Any.strings_Join Tryz.joinA Tryz.joinX bk o c xs sep w hcells hbk hN hcap hlen
theorem index_S (l : List UInt8) (c : UInt8) (w : World) : Calls Tryz.prog 85 #[.string (strB l), .string (strB [c])] w fun e w' => e = .returned (.int .i64 (Lib.indexByte l c)) ∧ w' = w :=
  Any.strings_Index_one Tryz.indexA (strB l) c w
end Go.Proofs.YtjmbpldkggbdlaaGreatDoor

/- What leftOf of package damage answers: a map of its own whose keys are what is left; nothing that was there turns. -/
namespace Go.Proofs.YtjmbpldkggbdlaaGreatDoor
open Go.RowKit Go.Maps Gf
set_option linter.unusedVariables false
set_option maxRecDepth 20000
theorem lawI : Keyed Tryz.prog 3 := int_keyed Tryz.underlying3
/-- the numbers that are keys of a map -/
def SetF (D : DataW Unit) (p : Int → Prop) : Prop := ∀ x : Int, has D (.int .i64 x) = true ↔ p x
theorem setF_put {D : DataW Unit} {p q : Int → Prop} {y : Int} {d : DataW Unit} (h : SetF D p) (hD : IsMap D) (hk : keyOf Tryz.prog 3 (.int .i64 y) = some (.int .i64 y)) (hq : ∀ x, q x ↔ p x ∨ x = y) : SetF (D.put (.int .i64 y) d) q := fun x => by
  rw [hq]
  by_cases e : x = y
  · subst e
    exact ⟨fun _ => .inr rfl, fun _ => has_put_same hD (lawI.key hk) d⟩
  · rw [has_put_other (fun h => e (by injection h)) d, h x]
    exact ⟨.inl, fun hh => hh.resolve_right e⟩
theorem setF_del {D : DataW Unit} {p q : Int → Prop} {y : Int} (h : SetF D p) (hq : ∀ x, q x ↔ p x ∧ x ≠ y) : SetF (D.del (.int .i64 y)) q := fun x => by
  rw [hq]
  by_cases e : x = y
  · subst e
    rw [has_del_same]
    exact ⟨fun h => (by cases h), fun h => absurd rfl h.2⟩
  · rw [has_del_other (fun h => e (by injection h)), h x]
    exact ⟨fun h => ⟨h, e⟩, fun h => h.1⟩
theorem setF_empty : SetF (.map []) (fun x => 0 ≤ x ∧ x < ((0 : Nat) : Int)) := fun x => ⟨fun h => by simp [has_eq] at h, fun h => by omega⟩
theorem key_i64 {x : Int} (h : -9223372036854775808 ≤ x ∧ x ≤ 9223372036854775807) : keyOf Tryz.prog 3 (.int .i64 x) = some (.int .i64 x) := keyOf_int_mk Tryz.underlying3 (WalkArith.wf_i64 (by omega))
theorem setF_perm {w : World} {b n : Nat} {D : DataW Unit} {L ss : List Int} (hown : w.ownsMap Tryz.prog 3 (unitElem (H := Unit)) b n D) (h : SetF D (· ∈ L)) (hn : L.Nodup) (hs : ss.Perm (intKeys D)) : ss.Perm L := by
  obtain ⟨es, hD, hpw, _⟩ := hown.entries lawI
  obtain ⟨es', hD', hko⟩ := hown.keysOf
  obtain rfl : es = es' := by rw [hD] at hD'; simpa using hD'
  subst hD
  exact hs.trans (perm_intKeys hpw (fun p hp => by obtain ⟨v, hv⟩ := hko p hp; obtain ⟨x, _, hx, _⟩ := Maps.keyOf_i64 Tryz.underlying3 hv; exact ⟨x, hx⟩) hn (fun x => (h x).symm)).symm
set_option maxHeartbeats 2000000 in
theorem leftOf_F (k r l cap : Nat) (a : Option Addr) (ns : List Nat) (w : World) (h3 : k + r ≤ 16) (hl : l = ns.length) (hcap : l ≤ cap) (hX : RowI w a (natJ8 ns)) (hr : ∀ x ∈ ns, x < 2 * (k + r)) (hl9 : l ≤ 32) :
    Calls Tryz.prog 33 #[.int .i64 k, .int .i64 r, .slice a l cap] w fun e w' => ∃ D : DataW Unit, e = .returned (.map (some w.heap.size)) ∧ w'.ownsMap Tryz.prog 3 (unitElem (H := Unit)) w.heap.size 32 D ∧
      SetF D (fun x => x ∈ natJ8 (leftL (2 * (k + r)) ns)) ∧ Below w.heap.size w w' := by
  have HL : Hid (l = ns.length) := hl
  have HX : Hid (RowI w a (natJ8 ns)) := hX
  have HR : Hid (∀ x ∈ ns, x < 2 * (k + r)) := hr
  clear hl hX hr
  have hmm := @run_makeMap Tryz.prog
  go_enter Tryz.func33, Tryz.ntmps33
  go_wp2
  go_loopw [16] (fun i wr => ∃ j : Nat, j ≤ 2 * (k + r) ∧ i = .int .i64 j ∧ Below w.heap.size w wr ∧ ∃ D : DataW Unit, wr.ownsMap Tryz.prog 3 (unitElem (H := Unit)) w.heap.size j D ∧ SetF D (fun x => 0 ≤ x ∧ x < (j : Int))) (fun i _ => 2 * (k + r) - (intOf i).toNat)
  case atStart => exact ⟨0, by omega, rfl, (Below.refl _ _).alloc (Nat.le_refl _) _, _, World.ownsMap_made _ _ _ _, setF_empty⟩
  case round =>
    obtain ⟨j, hj, rfl, hb, D, hown, hset⟩ := hrel
    have HB : Hid _ := hb
    have HSET : Hid _ := hset
    clear hb hset
    by_cases hlt : j < 2 * (k + r)
    · have hkey := key_i64 (x := (j : Int)) (by omega)
      go_wp2_with (at_mapUpdate; refine wpList_mapUpdate_own _ rfl _ _ _ 57 rfl 3 58 lawI Tryz.underlying57 (unitElem (H := Unit)) w.heap.size j D rfl hown (by unfold maxLen; omega) _ _ _ rfl rfl hkey _ [] unitElem_mk ?_; intro w1 hown1 hgrow1)
      exact ⟨⟨j + 1, by omega, by go_num, HB.out.grown hgrow1 HB.out.size (fun j hj => by cases hj; exact Nat.le_refl _), _, hown1, setF_put HSET.out hown.isMap hkey (fun x => by omega)⟩, by simp [intOf]; omega⟩
    · obtain rfl : j = 2 * (k + r) := by omega
      have HS0 : Hid (SetF D (fun x => x ∈ natJ8 (leftL (2 * (k + r)) (ns.take 0)))) := fun x => by
        rw [HSET.out x, natJ8]
        simp only [List.mem_map, mem_leftL, List.take_zero]
        constructor
        · intro h; exact ⟨x.toNat, ⟨by omega, by simp⟩, by omega⟩
        · rintro ⟨y, ⟨h, _⟩, rfl⟩; omega
      clear HSET
      have hown0 := hown.mono (show 2 * (k + r) ≤ 32 by omega)
      clear hown
      go_wp2
      go_loopw [25] (fun i wq => ∃ j : Nat, j ≤ l ∧ i = .int .i64 j ∧ Below w.heap.size w wq ∧ ∃ D : DataW Unit, wq.ownsMap Tryz.prog 3 (unitElem (H := Unit)) w.heap.size 32 D ∧ SetF D (fun x => x ∈ natJ8 (leftL (2 * (k + r)) (ns.take j)))) (fun i _ => l - (intOf i).toNat)
      case atStart => exact ⟨0, by omega, rfl, HB.out, _, hown0, HS0.out⟩
      case round =>
        obtain ⟨i, hi, rfl, hb, D2, hown, hset⟩ := hrel
        have HB2 : Hid _ := hb
        have HSET : Hid _ := hset
        clear hb hset hown0
        by_cases hlt : i < l
        · have hin : i < ns.length := by rw [← HL.out]; exact hlt
          obtain ⟨b, off, hab, hbl, hc⟩ := rowI_cell (rowI_below HX.out HB2.out) (show i < (natJ8 ns).length by rw [natJ8_len]; exact hin)
          have c1 := hc i (by rw [natJ8_len]; exact hin)
          rw [show (natJ8 ns).getD i 0 = ((ns[i] : Nat) : Int) by simp [natJ8, List.getD, hin]] at c1
          have hx9 := HR.out _ (List.getElem_mem hin)
          have HT : Hid (ns.take (i + 1) = ns.take i ++ [ns[i]]) := List.take_succ_eq_append_getElem hin
          generalize ns[i] = x at *
          clear hc
          subst hab
          have hkey := key_i64 (x := (x : Int)) (by omega)
          go_wp2_with (at_delete; refine wpList_delete_own _ rfl _ _ 57 3 rfl 58 lawI Tryz.underlying57 _ w.heap.size 32 D2 rfl hown _ _ rfl hkey ?_; intro w1 hown1 hturn1)
          refine ⟨⟨i + 1, by omega, by go_num, HB2.out.grown hturn1.grown HB2.out.size (fun j hj => by cases hj; exact Nat.le_refl _), _, hown1, setF_del HSET.out (fun y => ?_)⟩, by simp [intOf]; omega⟩
          rw [HT.out]
          simp only [natJ8, List.mem_map, mem_leftL, List.mem_append, List.mem_singleton, not_or]
          constructor
          · rintro ⟨z, ⟨h1, h2, h3⟩, rfl⟩; exact ⟨⟨z, ⟨h1, h2⟩, rfl⟩, by omega⟩
          · rintro ⟨⟨z, ⟨h1, h2⟩, rfl⟩, h3⟩; exact ⟨z, ⟨h1, h2, by omega⟩, rfl⟩
        · obtain rfl : i = l := by omega
          have hf := HSET.out
          rw [show ns.take i = ns by rw [HL.out, List.take_length]] at hf
          have HF : Hid _ := hf
          clear hf HSET
          go_wp2
          go_ret
          exact ⟨rfl, D2, hown, HF.out, HB2.out⟩
end Go.Proofs.YtjmbpldkggbdlaaGreatDoor

/- What Left, Whole, Kind and Gone of package damage answer, of all arguments; nothing that was there turns. -/
namespace Go.Proofs.YtjmbpldkggbdlaaGreatDoor
open Go.RowKit Go.Maps Gf
set_option linter.unusedVariables false
set_option maxRecDepth 20000
theorem natJ8_sort {L : List Nat} {ss : List Int} (h : L.Pairwise (· < ·)) (hp : ss.Perm (natJ8 L)) : ss.mergeSort (fun x y => decide (x ≤ y)) = natJ8 L := by
  have e := mergeSort_of_perm_i hp
  have hs : (natJ8 L).Pairwise (fun x y => leI x y = true) := by
    rw [natJ8, List.pairwise_map]
    exact h.imp fun h => decide_eq_true (by omega)
  rw [List.mergeSort_of_pairwise hs] at e
  exact e
theorem natJ8_nodup {L : List Nat} (h : L.Pairwise (· < ·)) : (natJ8 L).Nodup := by
  show (natJ8 L).Pairwise (· ≠ ·)
  rw [natJ8, List.pairwise_map]
  exact h.imp fun h => by omega
/-- a list that a call answers: the call's own, or none -/
def ListOf (w' : World) (B : Nat) (v : Value) (L : List Nat) : Prop := ∃ a cap, v = .slice a L.length cap ∧ L.length ≤ cap ∧ cap ≤ maxLen ∧ (a = none → cap = 0) ∧ RowI w' a (natJ8 L) ∧ (∀ p, a = some p → B ≤ p.block)
theorem listOf_own {w' : World} {B0 B n : Nat} {v : Value} {L : List Nat} (h0 : B0 ≤ B) (hn : n = L.length) (ho : w'.ownsRow B 3 1 v n ((natJ8 L).map (Value.int .i64))) : ListOf w' B0 v L := by
  subst hn
  rcases ho.2 with ⟨rfl, hz⟩ | ⟨g, cap, cur, rfl, hg, hb, h1, h2, h3, h4⟩
  · have e : L = [] := List.eq_nil_of_length_eq_zero hz
    subst e
    exact ⟨none, 0, rfl, Nat.le_refl _, Nat.zero_le _, fun _ => rfl, .inl rfl, fun p h => (by cases h)⟩
  · exact ⟨_, cap, rfl, h1, h2, fun h => (by cases h), rowI_own ho, fun p h => (by cases h; exact Nat.le_trans h0 hg)⟩
theorem listOf_below {w w' : World} {B : Nat} {v : Value} {L : List Nat} (h : ListOf w B v L) (hb : Below w.heap.size w w') : ListOf w' B v L := by
  obtain ⟨a, cap, e, h1, h2, h3, h4, h5⟩ := h
  exact ⟨a, cap, e, h1, h2, h3, rowI_below h4 hb, h5⟩
set_option maxHeartbeats 2000000 in
theorem left_legal (k r l cap : Nat) (a : Option Addr) (ns : List Nat) (w : World) (E : Nat → Addr) (hE : ErrsH w E) (h1 : 1 ≤ k) (h2 : 2 ≤ r) (h3 : k + r ≤ 16) (hl : l = ns.length) (hcap : l ≤ cap) (hX : RowI w a (natJ8 ns)) (hu : ns.Pairwise (· < ·)) (hr : ∀ x ∈ ns, x < 2 * (k + r)) :
    Calls Tryz.prog 12 #[.int .i64 k, .int .i64 r, .slice a l cap] w fun e w' => ∃ v, e = .returned (.tuple #[v, .nilIface]) ∧ ListOf w' w.heap.size v (leftL (2 * (k + r)) ns) ∧ Below w.heap.size w w' := by
  have hlen : l ≤ 32 := by have := pair_len hu hr; omega
  have HC : Hid _ := dcheck_legal k r l cap a (natJ8 ns) w E hE h1 h2 h3 (by rw [natJ8_len]; exact hl) (by omega) hcap hX
  have HZ : Hid _ := chkE_ok h1 h2 h3 (goodH_of hu hr)
  have HL : Hid (l = ns.length) := hl
  have HX : Hid (RowI w a (natJ8 ns)) := hX
  have HR : Hid (∀ x ∈ ns, x < 2 * (k + r)) := hr
  clear hl hX hr hu hE
  go_enter Tryz.func12, Tryz.ntmps12
  go_wp2_with fail
  refine Calls.mono HC.out ?_
  rw [HZ.out]
  rintro e w1 ⟨rfl, hb1⟩
  have HB1 : Hid _ := hb1
  clear hb1
  rw [show evH E 0 = Value.nilIface from rfl]
  go_wp2_with fail
  refine Calls.mono (leftOf_F k r l cap a ns w1 h3 HL.out hcap (rowI_below HX.out HB1.out) HR.out hlen) ?_
  rintro e w2 ⟨D, rfl, hown, hset, hb2⟩
  have HB2 : Hid _ := HB1.out.trans (hb2.mono HB1.out.size)
  have HSZ : Hid _ := hown.size_le
  have HSP : Hid (∀ ss : List Int, ss.Perm (intKeys D) → ss.Perm (natJ8 (leftL (2 * (k + r)) ns))) := fun ss h => setF_perm hown hset (natJ8_nodup (leftL_up _ _)) h
  have HOWN : Hid (w2.ownsMap Tryz.prog 3 (unitElem (H := Unit)) w1.heap.size 32 D) := hown
  have HB3 : Hid _ := HB2.out.alloc HB2.out.size (.cells #[.map (some w1.heap.size)] 57)
  clear hb2 hown hset
  go_wp2_with fail
  refine Calls.mono (keys_F _ _ rfl _) ?_
  rintro e w3 ⟨rfl, hw3⟩
  subst hw3
  go_wp2_with fail
  refine Calls.mono (sorted_F w1.heap.size 32 w2.heap.size D (unitElem (H := Unit)) _ (HOWN.out.alloc _) (holds_at (holds_new (holds_nil w2) #[.map (some w1.heap.size)] 57) 0 rfl) (by have := HSZ.out; unfold maxLen; omega) (by have := HSZ.out; omega)) ?_
  rintro e w4 ⟨v, ss, rfl, hperm, hrow, hnil, hb4⟩
  have e9 := natJ8_sort (leftL_up _ _) (HSP.out ss hperm)
  have hlen9 : ss.length = (leftL (2 * (k + r)) ns).length := by rw [(HSP.out ss hperm).length_eq, natJ8_len]
  rw [e9, hlen9] at hrow
  have HV : Hid (ListOf w4 w.heap.size v (leftL (2 * (k + r)) ns)) := listOf_own HB3.out.size rfl hrow
  have HB4 : Hid _ := HB3.out.trans (hb4.mono HB3.out.size)
  clear hb4 hrow hnil hperm e9 hlen9
  go_wp2
  go_ret2
  exact ⟨v, rfl, HV.out, HB4.out⟩
end Go.Proofs.YtjmbpldkggbdlaaGreatDoor

/- What Whole and Kind of package damage answer; nothing that was there turns. -/
namespace Go.Proofs.YtjmbpldkggbdlaaGreatDoor
open Go.RowKit Go.Maps Gf
set_option linter.unusedVariables false
set_option maxRecDepth 20000
theorem map_below {w w' : World} {b n : Nat} {D : DataW Unit} (h : w.ownsMap Tryz.prog 3 (unitElem (H := Unit)) b n D) (hb : Below w.heap.size w w') : w'.ownsMap Tryz.prog 3 (unitElem (H := Unit)) b n D := by
  have hl := h.lt
  obtain ⟨es, clock, hbk, r⟩ := h
  exact ⟨es, clock, (hb.block b hl).trans hbk, r⟩
theorem leftOf_E (k r l cap : Nat) (a : Option Addr) (ns : List Nat) (w : World) (h3 : k + r ≤ 16) (hl : l = ns.length) (hcap : l ≤ cap) (hX : RowI w a (natJ8 ns)) (hr : ∀ x ∈ ns, x < 2 * (k + r)) (hl9 : l ≤ 32) :
    Calls Tryz.prog 33 #[.int .i64 k, .int .i64 r, .slice a l cap] w fun e w' => ∃ (b : Nat) (D : DataW Unit), e = .returned (.map (some b)) ∧ w'.ownsMap Tryz.prog 3 (unitElem (H := Unit)) b 32 D ∧
      SetF D (fun x => x ∈ natJ8 (leftL (2 * (k + r)) ns)) ∧ Below w.heap.size w w' :=
  (leftOf_F k r l cap a ns w h3 hl hcap hX hr hl9).mono fun e w' ⟨D, h⟩ => ⟨_, D, h⟩
theorem zeroU (w : World) : (zeroValue 58).run Tryz.prog w = .ok (.agg #[]) w := Tryz.zeroValue58 w
/-- is a half left? -/
theorem setF_left {D : DataW Unit} {n x : Nat} {ns : List Nat} {y : Int} (h : SetF D (fun x => x ∈ natJ8 (leftL n ns))) (e : y = ((x : Nat) : Int)) (hx : x < n) : has D (.int .i64 y) = decide (¬ x ∈ ns) := by
  subst e
  cases hb : has D (.int .i64 (x : Int)) with
  | true => exact (decide_eq_true ((mem_leftL.1 (natJ8_mem.1 ((h _).1 hb))).2)).symm
  | false => exact (decide_eq_false (fun hn => by rw [(h _).2 (natJ8_mem.2 (mem_leftL.2 ⟨hx, hn⟩))] at hb; cases hb)).symm
set_option maxRecDepth 100000 in
set_option maxHeartbeats 4000000 in
theorem whole_legal (k r l cap : Nat) (a : Option Addr) (ns : List Nat) (w : World) (E : Nat → Addr) (hE : ErrsH w E) (h1 : 1 ≤ k) (h2 : 2 ≤ r) (h3 : k + r ≤ 16) (hl : l = ns.length) (hcap : l ≤ cap) (hX : RowI w a (natJ8 ns)) (hu : ns.Pairwise (· < ·)) (hr : ∀ x ∈ ns, x < 2 * (k + r)) :
    Calls Tryz.prog 13 #[.int .i64 k, .int .i64 r, .slice a l cap] w fun e w' => ∃ v, e = .returned (.tuple #[v, .nilIface]) ∧ ListOf w' w.heap.size v (wholeL (k + r) ns) ∧ Below w.heap.size w w' := by
  have hlen : l ≤ 32 := by have := pair_len hu hr; omega
  have HC : Hid _ := dcheck_legal k r l cap a (natJ8 ns) w E hE h1 h2 h3 (by rw [natJ8_len]; exact hl) (by omega) hcap hX
  have HZ : Hid _ := chkE_ok h1 h2 h3 (goodH_of hu hr)
  have HL : Hid (l = ns.length) := hl
  have HX : Hid (RowI w a (natJ8 ns)) := hX
  have HR : Hid (∀ x ∈ ns, x < 2 * (k + r)) := hr
  clear hl hX hr hu hE
  go_enter Tryz.func13, Tryz.ntmps13
  go_wp2_with fail
  refine Calls.mono HC.out ?_
  rw [HZ.out]
  rintro e w1 ⟨rfl, hb1⟩
  have HB1 : Hid _ := hb1
  clear hb1
  rw [show evH E 0 = Value.nilIface from rfl]
  go_wp2_with fail
  refine Calls.mono (leftOf_E k r l cap a ns w1 h3 HL.out hcap (rowI_below HX.out HB1.out) HR.out hlen) ?_
  rintro e w2 ⟨bm, D, rfl, hown, hset, hb2⟩
  have HB2 : Hid _ := HB1.out.trans (hb2.mono HB1.out.size)
  have HOWN : Hid (w2.ownsMap Tryz.prog 3 (unitElem (H := Unit)) bm 32 D) := hown
  have HSET : Hid (SetF D (fun x => x ∈ natJ8 (leftL (2 * (k + r)) ns))) := hset
  have H12 : Hid _ := HB1.out.size
  clear hb2 hown hset
  go_wp2
  obtain ⟨m, hm⟩ : ∃ m : Nat, m = k + r := ⟨_, rfl⟩
  have em : (k : Int) + r = (m : Int) := by omega
  rw [em]
  rw [← hm] at HSET HR
  have hm16 : m ≤ 16 := by omega
  have HMM : Hid _ := hm
  clear em hm
  go_loopw [30, 10] (fun i v wr => ∃ j : Nat, j ≤ m ∧ i = .int .i64 j ∧ (∃ av cv, v = .slice av (wholeL j ns).length cv) ∧ Below w2.heap.size w2 wr ∧ wr.ownsRow w2.heap.size 3 1 v (wholeL j ns).length ((natJ8 (wholeL j ns)).map (Value.int .i64))) (fun i _ _ => m - (intOf i).toNat)
  case atStart => exact ⟨0, by omega, rfl, ⟨none, 0, rfl⟩, Below.refl _ _, World.ownsRow_nil _ _ _ _⟩
  case round =>
    obtain ⟨j, hj, rfl, ⟨av, cv, rfl⟩, hb, ho⟩ := hrel
    have HB : Hid _ := hb
    clear hb
    by_cases hlt : j < m
    · have HK1 : Hid _ := key_i64 (x := 2 * (j : Int)) (by omega)
      have HK2 : Hid _ := key_i64 (x := 2 * (j : Int) + 1) (by omega)
      have p1 := setF_left (y := 2 * (j : Int)) (x := 2 * j) HSET.out (by omega) (by omega)
      have p2 := setF_left (y := 2 * (j : Int) + 1) (x := 2 * j + 1) HSET.out (by omega) (by omega)
      have hs := wholeL_succ j ns
      have HWL : Hid _ := wholeL_le j ns
      have HM : Hid (wr.ownsMap Tryz.prog 3 (unitElem (H := Unit)) bm 32 D) := map_below HOWN.out HB.out
      by_cases q1 : 2 * j ∈ ns
      · rw [decide_eq_false (not_not_intro q1)] at p1
        have P1 : Hid _ := p1
        clear p1
        by_cases q2 : 2 * j + 1 ∈ ns
        · rw [decide_eq_false (not_not_intro q2)] at p2
          have P2 : Hid _ := p2
          clear p2
          rw [if_pos ⟨q1, q2⟩] at hs
          have hz : ((wr.alloc (.cells #[] 58)).alloc (.cells #[] 58)).heap.size = wr.heap.size + 1 + 1 := by simp
          have hb5 := ((HB.out.alloc HB.out.size (.cells #[] 58)).alloc (by have := HB.out.size; simp; omega) (.cells #[] 58)).alloc (by have := HB.out.size; simp; omega) (.cells #[.int .i64 j] 3)
          have ho5 := ((ho.alloc (.cells #[] 58)).alloc (.cells #[] 58)).alloc (.cells #[.int .i64 j] 3)
          obtain ⟨g2, cap2, w6, hrun, ho2, hgr, hor, hlt2⟩ := appendI (b := wr.heap.size + 1 + 1) (c := 1) (x := (j : Int)) 22 ho5 (cellAt (by rw [← hz]; exact heap_alloc_last ((wr.alloc (.cells #[] 58)).alloc (.cells #[] 58)) (.cells #[.int .i64 j] 3)) 0 _ rfl) (by have := HWL.out; omega) (by have := HB.out.size; simp; omega)
          have hb6 := below_own hb5 ho5 hgr (by have := HB.out.size; simp; omega)
          have hn6 : (wholeL (j + 1) ns).length = (wholeL j ns).length + 1 := by rw [hs]; simp
          have hv6 : (natJ8 (wholeL j ns)).map (Value.int .i64) ++ [.int .i64 (j : Int)] = (natJ8 (wholeL (j + 1) ns)).map (Value.int .i64) := by rw [hs]; simp [natJ8]
          rw [hv6] at ho2
          have HRun : Hid _ := hrun
          have HO2 : Hid (w6.ownsRow w2.heap.size 3 1 (.slice (some ⟨g2, 0, none⟩) ((wholeL j ns).length + 1) cap2) ((wholeL j ns).length + 1) ((natJ8 (wholeL (j + 1) ns)).map (Value.int .i64))) := ho2
          have HB6 : Hid _ := hb6
          have HN6 : Hid _ := hn6
          clear hs ho q1 q2 hz hb5 ho5 hrun ho2 hgr hor hlt2 hb6 hn6 hv6
          have tok1 : True := trivial
          go_wp2_with (first | (at_lookup; have _t := tok1; refine wpList_lookup_own_unit _ rfl _ _ 57 rfl 3 58 lawI Tryz.underlying57 (zeroU _) bm 32 D rfl HM.out _ _ rfl HK1.out ?_; rw [P1.out]; clear tok1) | (at_lookup; refine wpList_lookup_own_unit _ rfl _ _ 57 rfl 3 58 lawI Tryz.underlying57 (zeroU _) bm 32 D rfl (World.ownsMap.alloc HM.out _) _ _ rfl HK2.out ?_; rw [P2.out]) | (at_builtin; refine wpList_append_run rfl _ _ 22 rfl _ _ _ _ rfl rfl HRun.out ?_))
          refine ⟨⟨j + 1, by omega, by go_num, ⟨_, _, by rw [HN6.out]⟩, HB6.out, by rw [HN6.out]; exact HO2.out⟩, by simp [intOf]; omega⟩
        · rw [decide_eq_true q2] at p2
          have P2 : Hid _ := p2
          clear p2
          rw [if_neg (fun h => q2 h.2), List.append_nil] at hs
          have HS : Hid _ := hs
          have HO : Hid (wr.ownsRow w2.heap.size 3 1 (.slice av (wholeL j ns).length cv) (wholeL j ns).length ((natJ8 (wholeL j ns)).map (Value.int .i64))) := ho
          have HB5 : Hid _ := ((HB.out.alloc HB.out.size (.cells #[] 58)).alloc (by have := HB.out.size; simp; omega) (.cells #[] 58))
          clear hs ho q1 q2
          have tok1 : True := trivial
          go_wp2_with (first | (at_lookup; have _t := tok1; refine wpList_lookup_own_unit _ rfl _ _ 57 rfl 3 58 lawI Tryz.underlying57 (zeroU _) bm 32 D rfl HM.out _ _ rfl HK1.out ?_; rw [P1.out]; clear tok1) | (at_lookup; refine wpList_lookup_own_unit _ rfl _ _ 57 rfl 3 58 lawI Tryz.underlying57 (zeroU _) bm 32 D rfl (World.ownsMap.alloc HM.out _) _ _ rfl HK2.out ?_; rw [P2.out]))
          refine ⟨⟨j + 1, by omega, by go_num, ⟨av, cv, by rw [HS.out]⟩, HB5.out, by rw [HS.out]; exact (HO.out.alloc _).alloc _⟩, by simp [intOf]; omega⟩
      · rw [decide_eq_true q1] at p1
        have P1 : Hid _ := p1
        clear p1
        cases q2 : decide (¬ 2 * j + 1 ∈ ns) with
        | true =>
          rw [q2] at p2
          have P2 : Hid _ := p2
          clear p2 q2
          rw [if_neg (fun h => q1 h.1), List.append_nil] at hs
          have HS : Hid _ := hs
          have HO : Hid (wr.ownsRow w2.heap.size 3 1 (.slice av (wholeL j ns).length cv) (wholeL j ns).length ((natJ8 (wholeL j ns)).map (Value.int .i64))) := ho
          have HB5 : Hid _ := ((HB.out.alloc HB.out.size (.cells #[] 58)).alloc (by have := HB.out.size; simp; omega) (.cells #[] 58))
          clear hs ho q1
          have tok1 : True := trivial
          go_wp2_with (first | (at_lookup; have _t := tok1; refine wpList_lookup_own_unit _ rfl _ _ 57 rfl 3 58 lawI Tryz.underlying57 (zeroU _) bm 32 D rfl HM.out _ _ rfl HK1.out ?_; rw [P1.out]; clear tok1) | (at_lookup; refine wpList_lookup_own_unit _ rfl _ _ 57 rfl 3 58 lawI Tryz.underlying57 (zeroU _) bm 32 D rfl (World.ownsMap.alloc HM.out _) _ _ rfl HK2.out ?_; rw [P2.out]))
          refine ⟨⟨j + 1, by omega, by go_num, ⟨av, cv, by rw [HS.out]⟩, HB5.out, by rw [HS.out]; exact (HO.out.alloc _).alloc _⟩, by simp [intOf]; omega⟩
        | false =>
          rw [q2] at p2
          have P2 : Hid _ := p2
          clear p2 q2
          rw [if_neg (fun h => q1 h.1), List.append_nil] at hs
          have HS : Hid _ := hs
          have HO : Hid (wr.ownsRow w2.heap.size 3 1 (.slice av (wholeL j ns).length cv) (wholeL j ns).length ((natJ8 (wholeL j ns)).map (Value.int .i64))) := ho
          have HB5 : Hid _ := ((HB.out.alloc HB.out.size (.cells #[] 58)).alloc (by have := HB.out.size; simp; omega) (.cells #[] 58))
          clear hs ho q1
          have tok1 : True := trivial
          go_wp2_with (first | (at_lookup; have _t := tok1; refine wpList_lookup_own_unit _ rfl _ _ 57 rfl 3 58 lawI Tryz.underlying57 (zeroU _) bm 32 D rfl HM.out _ _ rfl HK1.out ?_; rw [P1.out]; clear tok1) | (at_lookup; refine wpList_lookup_own_unit _ rfl _ _ 57 rfl 3 58 lawI Tryz.underlying57 (zeroU _) bm 32 D rfl (World.ownsMap.alloc HM.out _) _ _ rfl HK2.out ?_; rw [P2.out]))
          refine ⟨⟨j + 1, by omega, by go_num, ⟨av, cv, by rw [HS.out]⟩, HB5.out, by rw [HS.out]; exact (HO.out.alloc _).alloc _⟩, by simp [intOf]; omega⟩
    · obtain rfl : j = m := by omega
      have HV : Hid (ListOf wr w.heap.size (.slice av (wholeL j ns).length cv) (wholeL (k + r) ns)) := by rw [← HMM.out]; exact listOf_own HB2.out.size rfl ho
      have HB4 : Hid _ := HB2.out.trans (HB.out.mono HB2.out.size)
      clear ho
      go_wp2
      go_ret2
      exact ⟨_, rfl, HV.out, HB4.out⟩
end Go.Proofs.YtjmbpldkggbdlaaGreatDoor

/- What Kind of package damage answers of legal arguments. -/
namespace Go.Proofs.YtjmbpldkggbdlaaGreatDoor
open Go.RowKit Go.Maps Gf
set_option linter.unusedVariables false
set_option maxRecDepth 20000
set_option maxHeartbeats 4000000 in
theorem kind_legal (k r l cap : Nat) (a : Option Addr) (ns : List Nat) (w : World) (E : Nat → Addr) (hE : ErrsH w E) (h1 : 1 ≤ k) (h2 : 2 ≤ r) (h3 : k + r ≤ 16) (hl : l = ns.length) (hcap : l ≤ cap) (hX : RowI w a (natJ8 ns)) (hu : ns.Pairwise (· < ·)) (hr : ∀ x ∈ ns, x < 2 * (k + r)) :
    Calls Tryz.prog 14 #[.int .i64 k, .int .i64 r, .slice a l cap] w fun e w' => e = .returned (.tuple #[.int .i64 (kindN k ns), .nilIface]) ∧ Below w.heap.size w w' := by
  have HK : Hid (kindN k ns = if ns.length = 0 then 0 else if ns.length = 2 ∧ (wholeL (k + r) ns).length = 1 ∧ (wholeL (k + r) ns).getD 0 0 < k then 1 else 2) := kind_way (by omega) hu
  have HW : Hid _ := whole_legal k r l cap a ns w E hE h1 h2 h3 hl hcap hX hu hr
  have HL : Hid (l = ns.length) := hl
  clear hl hX hr hu hE
  go_enter Tryz.func14, Tryz.ntmps14
  go_wp2_with fail
  refine Calls.mono HW.out ?_
  rintro e w1 ⟨v, rfl, ⟨av, cv, rfl, hl9, hm9, hn9, hx9, hf9⟩, hb1⟩
  have HB1 : Hid _ := hb1
  clear hb1
  have hk := HK.out
  generalize wholeL (k + r) ns = wl at *
  rw [← HL.out] at hk
  have HK2 : Hid _ := hk
  clear hk HK HL HW
  by_cases h0 : l = 0
  · rw [if_pos h0] at HK2
    subst h0
    clear hx9 hf9 hn9
    go_wp2
    go_ret2
    exact ⟨by rw [HK2.out]; rfl, HB1.out⟩
  · rw [if_neg h0] at HK2
    by_cases hl2 : l = 2
    · by_cases hw1 : wl.length = 1
      · obtain ⟨x, rfl⟩ := List.length_eq_one_iff.1 hw1
        obtain ⟨b, off, rfl, hbl, hc⟩ := rowI_cell hx9 (show 0 < (natJ8 [x]).length by simp [natJ8])
        have c1 := hc 0 (by simp [natJ8])
        rw [show (natJ8 [x]).getD 0 0 = (x : Int) from rfl, Nat.add_zero] at c1
        rw [show [x].length = 1 from rfl]
        by_cases hxk : x < k
        · rw [if_pos ⟨hl2, rfl, hxk⟩] at HK2
          clear hx9 hf9 hn9 hc hw1
          subst hl2
          go_wp2
          go_ret2
          exact ⟨by rw [HK2.out]; rfl, HB1.out⟩
        · rw [if_neg (fun h => hxk h.2.2)] at HK2
          clear hx9 hf9 hn9 hc hw1
          subst hl2
          go_wp2
          go_ret2
          exact ⟨by rw [HK2.out]; rfl, HB1.out⟩
      · rw [if_neg (fun h => hw1 h.2.1)] at HK2
        generalize wl.length = wn at *
        clear hx9 hf9 hn9
        subst hl2
        go_wp2
        go_ret2
        exact ⟨by rw [HK2.out]; rfl, HB1.out⟩
    · rw [if_neg (fun h => hl2 h.1)] at HK2
      generalize wl.length = wn at *
      clear hx9 hf9 hn9
      go_wp2
      go_ret2
      exact ⟨by rw [HK2.out]; rfl, HB1.out⟩
end Go.Proofs.YtjmbpldkggbdlaaGreatDoor

/- What Gone of package damage answers of legal arguments: by the rank of the rows that are left. -/
namespace Go.Proofs.YtjmbpldkggbdlaaGreatDoor
open Go.RowKit Go.Maps Gf
set_option linter.unusedVariables false
set_option maxRecDepth 20000
theorem take_grid8 {k n : Nat} {xs : List F} {A : Nat → Nat → F} {L : List Nat} (hn : ∀ x ∈ L, x < n) (hx : xs = grid k A n) : (takeM k xs (natJ8 L)).flatten = grid k (fun i j => A (L.getD i 0) j) L.length := by
  subst hx
  rw [grid_flat k (fun i j => A (L.getD i 0) j)]
  congr 1
  apply List.ext_getElem
  · simp [takeM, natJ8]
  · intro i h1 h2
    have hi : i < L.length := by simpa [takeM, natJ8] using h1
    have e : L.getD i 0 = L[i] := by simp [List.getD, hi]
    simp only [takeM, natJ8, List.getElem_map, List.getElem_range, Int.toNat_natCast]
    rw [rowAt_grid (hn _ (List.getElem_mem hi)), e]
theorem take_rank8 {k r : Nat} {L : List Nat} (hn : ∀ x ∈ L, x < 2 * (k + r)) :
    (pivL (cellF (2 * k) (takeM (2 * k) (halfM k r) (natJ8 L)).flatten) L.length (2 * k)).length = rankL k (carN (groupN k r)) L := by
  rw [take_grid8 (xs := halfM k r) (A := halfF k (carN (groupN k r))) hn rfl]
  exact congrArg List.length (pivL_congr fun i hi j hj => at8_grid hi hj)
theorem take_len8 {k r : Nat} {L : List Nat} (hn : ∀ x ∈ L, x < 2 * (k + r)) : (takeM (2 * k) (halfM k r) (natJ8 L)).flatten.length = L.length * (2 * k) := by
  rw [take_grid8 (xs := halfM k r) (A := halfF k (carN (groupN k r))) hn rfl, grid_len]
/-- what Gone names -/
def ErrsG (w : World) (E : Nat → Addr) : Prop := ErrsH w E ∧ w.cell? ⟨2, 0, none⟩ = some (errAt (E 1)) ∧ w.cell? ⟨3, 0, none⟩ = some (errAt (E 11))
theorem errsG_below {w w' : World} {E : Nat → Addr} (h : ErrsG w E) (hb : Below w.heap.size w w') : ErrsG w' E := ⟨errsH_below h.1 hb, cell_later hb h.2.1, cell_later hb h.2.2⟩
set_option maxHeartbeats 4000000 in
theorem gone_legal (k r l cap : Nat) (a : Option Addr) (ns : List Nat) (w : World) (E : Nat → Addr) (hE : ErrsG w E) (h1 : 1 ≤ k) (h2 : 2 ≤ r) (h3 : k + r ≤ 16) (hl : l = ns.length) (hcap : l ≤ cap) (hX : RowI w a (natJ8 ns)) (hu : ns.Pairwise (· < ·)) (hr : ∀ x ∈ ns, x < 2 * (k + r)) :
    Calls Tryz.prog 15 #[.int .i64 k, .int .i64 r, .slice a l cap] w fun e w' => e = .returned (.tuple #[.bool (goneB k (2 * (k + r)) (carN (groupN k r)) ns), .nilIface]) ∧ Below w.heap.size w w' := by
  have HW : Hid _ := left_legal k r l cap a ns w E hE.1 h1 h2 h3 hl hcap hX hu hr
  have HE : Hid _ := hE
  have HV : Hid _ := fun w s hs => hrows_F k r w s hs h1 h2 h3
  have hml := halfM_len k r
  have HML : Hid _ := hml
  have hlin : ∀ x ∈ leftL (2 * (k + r)) ns, x < 2 * (k + r) := fun x hx => (mem_leftL.1 hx).1
  have HRK : Hid _ := take_rank8 hlin
  have HTL : Hid _ := take_len8 hlin
  have HG : Hid (goneB k (2 * (k + r)) (carN (groupN k r)) ns = decide (rankL k (carN (groupN k r)) (leftL (2 * (k + r)) ns) < 2 * k)) := rfl
  have HLE : Hid _ := leftL_le (2 * (k + r)) ns
  have HLIN : Hid _ := hlin
  clear hl hX hr hu hE hml hlin
  rw [HG.out]
  clear HG
  generalize leftL (2 * (k + r)) ns = lf at *
  obtain ⟨n, hn⟩ : ∃ n, n = 2 * (k + r) := ⟨_, rfl⟩
  obtain ⟨c, hc⟩ : ∃ c, c = 2 * k := ⟨_, rfl⟩
  rw [← hn, ← hc] at HV HML
  rw [← hn] at HLE HLIN
  rw [← hc] at HRK HTL
  rw [← hc]
  have hn32 : n ≤ 32 := by omega
  have hc32 : c ≤ 32 := by omega
  clear hn hc
  go_enter Tryz.func15, Tryz.ntmps15
  go_wp2_with fail
  refine Calls.mono HW.out ?_
  rintro e w1 ⟨v, rfl, ⟨av, cv, rfl, hl9, hm9, hn9, hx9, hf9⟩, hb1⟩
  have HB1 : Hid _ := hb1
  have HX9 : Hid _ := hx9
  clear hb1 hx9 hf9 hn9
  go_wp2_with fail
  refine Calls.mono (HV.out _ (E 1) (errsG_below HE.out HB1.out).2.1) ?_
  rintro e w2 ⟨g2, m2, rfl, hm2, hg2, hh2, hb2⟩
  have HM2 : Hid _ := hm2
  have HA2 : Hid _ := holds_new (holds_cons (holds_nil w2) hh2) #[.int .i64 n, .int .i64 c, .slice (some ⟨g2, 0, none⟩) m2 m2] 63
  have hB2 := HB1.out.trans (hb2.mono HB1.out.size)
  have HX2 : Hid _ := rowI_alloc (rowI_below HX9.out hb2) (.cells #[.int .i64 n, .int .i64 c, .slice (some ⟨g2, 0, none⟩) m2 m2] 63)
  have HB2 : Hid _ := hB2.alloc hB2.size (.cells #[.int .i64 n, .int .i64 c, .slice (some ⟨g2, 0, none⟩) m2 m2] 63)
  clear hb2 hh2 hm2 hB2
  have c1 := cellAt (holds_at HA2.out 0 rfl) 0 _ rfl
  have c2 := cellAt (holds_at HA2.out 0 rfl) 1 _ rfl
  have c3 := cellAt (holds_at HA2.out 0 rfl) 2 _ rfl
  have z3 := ltHeap (holds_at HA2.out 0 rfl)
  go_wp2_with fail
  refine Calls.mono (take_F n c m2 m2 lf.length cv (some ⟨g2, 0, none⟩) av (halfM k r) (natJ8 lf) _ (by omega) (by omega) HM2.out HML.out (Nat.le_refl _) (holds_row HA2.out 1 rfl) (fun h => by cases h) (natJ8_len _).symm (by have := HLE.out; omega) HX2.out (E 11) (errsG_below HE.out HB2.out).2.2) ?_
  rintro e w3 (⟨_, g3, m3, rfl, hm3, hg3, hh3, hb3⟩ | ⟨hno, _⟩)
  · have HM3 : Hid _ := hm3
    have HA3 : Hid _ := holds_new (holds_cons (holds_later HA2.out hb3) hh3) #[.int .i64 lf.length, .int .i64 c, .slice (some ⟨g3, 0, none⟩) m3 m3] 63
    have hB3 := HB2.out.trans (hb3.mono HB2.out.size)
    have HB3 : Hid _ := hB3.alloc hB3.size (.cells #[.int .i64 lf.length, .int .i64 c, .slice (some ⟨g3, 0, none⟩) m3 m3] 63)
    clear hb3 hh3 hm3 hB3 c1 c2 c3 z3
    have c1 := cellAt (holds_at HA3.out 0 rfl) 0 _ rfl
    have c2 := cellAt (holds_at HA3.out 0 rfl) 1 _ rfl
    have c3 := cellAt (holds_at HA3.out 0 rfl) 2 _ rfl
    have z3 := ltHeap (holds_at HA3.out 0 rfl)
    have hlf : lf.length ≤ 32 := by have := HLE.out; omega
    go_wp2_with fail
    refine Calls.mono (rank_F lf.length c m3 m3 (some ⟨g3, 0, none⟩) (takeM c (halfM k r) (natJ8 lf)).flatten _ (by omega) (by omega) HM3.out HTL.out (Nat.le_refl _) (holds_row HA3.out 1 rfl) (fun h => by cases h)) ?_
    rw [HRK.out]
    rintro e w4 ⟨rfl, hb4⟩
    have HB4 : Hid _ := HB3.out.trans (hb4.mono HB3.out.size)
    have h9 := holds_later HA3.out hb4
    have HCOL : Hid _ := holds_at h9 2 rfl
    clear hb4 c1 c2 c3 z3
    have c1 := cellAt HCOL.out 1 _ rfl
    go_wp2
    go_ret2
    exact ⟨rfl, HB4.out⟩
  · exact absurd (fun x hx => by
      obtain ⟨y, hy, rfl⟩ := List.mem_map.1 hx
      have := HLIN.out y hy
      omega) hno
end Go.Proofs.YtjmbpldkggbdlaaGreatDoor

/- What Name and Parse of package half answer, at all numbers and texts; unlike halves have unlike names; nothing that was there turns. -/
namespace Go.Proofs.YtjmbpldkggbdlaaGreatDoor
open Go.RowKit Gf
set_option linter.unusedVariables false
set_option maxRecDepth 20000
theorem strB_eq {a b : List UInt8} (h : a = b) : ((strB a).toList == (strB b).toList) = true := by rw [h]; exact beq_self_eq_true _
theorem strB_ne {a b : List UInt8} (h : ¬ a = b) : ((strB a).toList == (strB b).toList) = false := by rw [strB_list, strB_list]; exact beq_eq_false_iff_ne.2 h
theorem nameB_inj : ∀ k < 15, ∀ h < 32, ∀ j < 32, nameB k h = nameB k j → h = j := by decide +kernel
theorem nameB_len : ∀ k < 15, ∀ h < 32, 3 ≤ (nameB k h).length ∧ (nameB k h).length ≤ 4 := by decide +kernel
set_option maxHeartbeats 1000000 in
theorem name_ok (k r h : Nat) (w : World) (h1 : 1 ≤ k) (h2 : 2 ≤ r) (h3 : k + r ≤ 16) (hh : h < 2 * (k + r)) :
    Calls Tryz.prog 37 #[.int .i64 k, .int .i64 r, .int .i64 h] w fun e w' => e = .returned (.tuple #[.string (strB (nameB k h)), .nilIface]) ∧ Below w.heap.size w w' := by
  obtain ⟨s, p, hp, hs, en⟩ : ∃ s p : Nat, p < 2 ∧ s < k + r ∧ h = 2 * s + p := ⟨h / 2, h % 2, by omega, by omega, by omega⟩
  have HE : Hid _ := en
  clear en hh
  go_enter Tryz.func37, Tryz.ntmps37
  go_wp2_with fail
  refine (find_ok k r h s p _ h1 h2 h3 HE.out hp hs).mono ?_
  rintro e w1 ⟨rfl, hb1⟩
  have HB1 : Hid _ := hb1.alloc hb1.size (.cells #[.int .i64 s, .int .i64 p] 77)
  clear hb1
  go_wp2_with fail
  refine (nameOf_F k h s p _ HE.out hp (by omega) (by omega)).mono ?_
  rintro e w2 ⟨rfl, hb2⟩
  have HB2 : Hid (Below w.heap.size w w2) := HB1.out.trans (hb2.mono HB1.out.size)
  clear hb2
  go_wp2
  go_ret2
  exact ⟨rfl, HB2.out⟩
theorem name_err (k r h : Int) (s : Addr) (w : World) (hF : ∀ w0 : World, w0 = w → Calls Tryz.prog 43 #[.int .i64 k, .int .i64 r, .int .i64 h] w0 fun e w' => e = .returned (.tuple #[.agg #[.int .i64 0, .int .i64 0], errAt s]) ∧ Below w0.heap.size w0 w') :
    Calls Tryz.prog 37 #[.int .i64 k, .int .i64 r, .int .i64 h] w fun e w' => e = .returned (.tuple #[.string (strB []), errAt s]) ∧ Below w.heap.size w w' := by
  have HF : Hid _ := hF
  clear hF
  unfold errAt at HF ⊢
  go_enter Tryz.func37, Tryz.ntmps37
  go_wp2_with fail
  refine (HF.out _ rfl).mono ?_
  rintro e w1 ⟨rfl, hb⟩
  have HB : Hid _ := hb
  clear hb
  go_wp2
  go_ret2
  exact ⟨rfl, HB.out.alloc HB.out.size _⟩
theorem name_bad (k r h : Int) (w : World) (s : Addr) (hs : w.cell? ⟨0, 0, none⟩ = some (errAt s)) (hk0 : -9223372036854775808 ≤ k) (hk1 : k ≤ 9223372036854775807) (hr0 : -9223372036854775808 ≤ r) (hr1 : r ≤ 9223372036854775807) (hL : ¬ LegalP k r) :
    Calls Tryz.prog 37 #[.int .i64 k, .int .i64 r, .int .i64 h] w fun e w' => e = .returned (.tuple #[.string (strB []), errAt s]) ∧ Below w.heap.size w w' :=
  name_err k r h s w fun w0 e => find_bad k r h w0 s (e ▸ hs) hk0 hk1 hr0 hr1 hL
theorem name_no (k r : Nat) (h : Int) (w : World) (s : Addr) (hs : w.cell? ⟨1, 0, none⟩ = some (errAt s)) (h1 : 1 ≤ k) (h2 : 2 ≤ r) (h3 : k + r ≤ 16) (hh : ¬ (0 ≤ h ∧ h < 2 * (k + r))) :
    Calls Tryz.prog 37 #[.int .i64 k, .int .i64 r, .int .i64 h] w fun e w' => e = .returned (.tuple #[.string (strB []), errAt s]) ∧ Below w.heap.size w w' :=
  name_err k r h s w fun w0 e => find_no k r h w0 s (e ▸ hs) h1 h2 h3 hh
theorem parse_bad (k r : Int) (b : ByteArray) (w : World) (s : Addr) (hs : w.cell? ⟨0, 0, none⟩ = some (errAt s)) (hk0 : -9223372036854775808 ≤ k) (hk1 : k ≤ 9223372036854775807) (hr0 : -9223372036854775808 ≤ r) (hr1 : r ≤ 9223372036854775807) (hL : ¬ LegalP k r) :
    Calls Tryz.prog 42 #[.int .i64 k, .int .i64 r, .string b] w fun e w' => e = .returned (.tuple #[.int .i64 0, errAt s]) ∧ w = w' := by
  have HS : Hid _ := hs
  have H : Hid _ := hL
  clear hs hL
  go_enter Tryz.func42, Tryz.ntmps42
  go_wp2_with fail
  refine (bcheck_bad k r _ s HS.out hk0 hk1 hr0 hr1 H.out).mono ?_
  unfold errAt
  rintro e w' ⟨rfl, rfl⟩
  go_wp2
  go_ret2
  exact ⟨rfl, rfl⟩
/-- which half a name is -/
def ParsedAs (k n : Nat) (l : List UInt8) (s : Addr) (v : Value) : Prop :=
  (∃ h : Nat, h < n ∧ nameB k h = l ∧ v = .tuple #[.int .i64 h, .nilIface]) ∨ (∀ h, h < n → nameB k h ≠ l) ∧ v = .tuple #[.int .i64 0, errAt s]
set_option maxHeartbeats 1000000 in
theorem parse_F (k r : Nat) (l : List UInt8) (w : World) (s : Addr) (hs : w.cell? ⟨1, 0, none⟩ = some (errAt s)) (h1 : 1 ≤ k) (h2 : 2 ≤ r) (h3 : k + r ≤ 16) :
    Calls Tryz.prog 42 #[.int .i64 k, .int .i64 r, .string (strB l)] w fun e w' => (∃ v, e = .returned v ∧ ParsedAs k (2 * (k + r)) l s v) ∧ Below w.heap.size w w' := by
  have HS : Hid _ := hs
  clear hs
  go_enter Tryz.func42, Tryz.ntmps42
  go_wp2_with fail
  refine (bcheck_ok _ _ _ h1 h2 h3).mono ?_
  rintro e w' ⟨rfl, rfl⟩
  go_wp2
  go_loopw [20] (fun i wr => ∃ j : Nat, j ≤ 2 * (k + r) ∧ i = .int .i64 j ∧ Below w.heap.size w wr ∧ ∀ h, h < j → nameB k h ≠ l) (fun i _ => 2 * (k + r) - (intOf i).toNat)
  case atStart => exact ⟨0, by omega, rfl, Below.refl _ _, fun h hh => absurd hh (Nat.not_lt_zero h)⟩
  case round =>
    obtain ⟨j, hj, rfl, hb, hno⟩ := hrel
    have HB : Hid _ := hb
    have HNO : Hid _ := hno
    clear hb hno
    by_cases hlt : j < 2 * (k + r)
    · have a1 : (j : Int) < 2 * ((k : Int) + r) := by omega
      obtain ⟨s1, p, hp, hs1, en⟩ : ∃ s p : Nat, p < 2 ∧ s < k + r ∧ j = 2 * s + p := ⟨j / 2, j % 2, by omega, by omega, by omega⟩
      have HE : Hid _ := en
      clear en
      go_wp2_with fail
      refine (placeOf_F j s1 p _ HE.out hp (by omega)).mono ?_
      rintro e w2 ⟨rfl, hb2⟩
      have HB2 : Hid (Below w.heap.size w w2) := HB.out.trans (hb2.mono HB.out.size)
      clear hb2
      go_wp2_with fail
      refine (nameOf_F k j s1 p _ HE.out hp (by omega) (by omega)).mono ?_
      rintro e w3 ⟨rfl, hb3⟩
      have HB3 : Hid (Below w.heap.size w w3) := HB2.out.trans (hb3.mono HB2.out.size)
      clear hb3
      by_cases he : nameB k j = l
      · have hq := strB_eq he
        go_wp2
        go_ret2
        exact ⟨⟨_, rfl, .inl ⟨j, hlt, he, rfl⟩⟩, HB3.out⟩
      · have hq := strB_ne he
        go_wp2
        refine ⟨⟨j + 1, by omega, by go_num, HB3.out, fun h hh => ?_⟩, by simp [intOf]; omega⟩
        by_cases e : h = j
        · rw [e]; exact he
        · exact HNO.out h (by omega)
    · have a1 : ¬ (j : Int) < 2 * ((k : Int) + r) := by omega
      obtain rfl : j = 2 * (k + r) := by omega
      have hsx := cell_later HB.out HS.out
      have hg := World.block_lt_of_cell? _ _ hsx
      unfold errAt at hsx
      go_wp2
      go_region
      go_wp2
      go_ret2
      exact ⟨⟨_, rfl, .inr ⟨HNO.out, rfl⟩⟩, HB.out.drew⟩
end Go.Proofs.YtjmbpldkggbdlaaGreatDoor

/- What Text of package damage answers of legal arguments. -/
namespace Go.Proofs.YtjmbpldkggbdlaaGreatDoor
open Go.RowKit Go.Maps Gf
set_option linter.unusedVariables false
set_option maxRecDepth 20000
/-- texts with room behind -/
def smW (vs : List Value) (r : Nat) : Array Value := (vs ++ List.replicate (r - vs.length) (Value.string ⟨#[]⟩)).toArray
theorem smW_at {vs : List Value} {r i : Nat} {v : Value} (h : vs[i]? = some v) : (smW vs r)[i]? = some v := by
  have hi := (List.getElem?_eq_some_iff.1 h).1
  simp only [smW, List.getElem?_toArray]
  rw [List.getElem?_append_left hi, h]
theorem smW_next {vs : List Value} {r : Nat} (h : vs.length < r) : (smW vs r)[vs.length]? = some (.string ⟨#[]⟩) := by
  simp only [smW, List.getElem?_toArray]
  rw [List.getElem?_append_right (Nat.le_refl _), Nat.sub_self, List.getElem?_replicate, if_pos (by omega)]
theorem smW_set {vs : List Value} {r : Nat} (v : Value) (h : vs.length < r) : (smW vs r).setIfInBounds vs.length v = smW (vs ++ [v]) r := by
  simp only [smW]
  apply Array.toList_inj.1
  simp only [Array.toList_setIfInBounds, List.length_append, List.length_singleton, List.append_assoc]
  rw [List.set_append_right _ _ (Nat.le_refl _), Nat.sub_self]
  rw [show r - vs.length = (r - (vs.length + 1)) + 1 from by omega, List.replicate_succ]
  simp
theorem run_makeStr (n : Nat) (hn : n ≤ 64) (w : World) :
    (Instr.makeSlice 68 (.int .i64 (n : Int)) (.int .i64 (n : Int))).run Tryz.prog w = .ok (.slice (some ⟨w.heap.size, 0, none⟩) n n) (w.alloc (.cells (smW [] n) 9)) := by
  have hi : (Tryz.prog.info? 9).map (fun i => (i.size, i.bytes, i.zero)) = some (1, 16, some (.string ⟨#[]⟩)) := by kernel_rfl
  cases hq : Tryz.prog.info? 9 with
  | none => simp [hq] at hi
  | some i =>
    simp only [hq, Option.map_some, Option.some.injEq, Prod.mk.injEq] at hi
    have := run_make (P := Tryz.prog) w 68 9 i _ Tryz.underlying68 hq hi.2.2 .i64 .i64 n n (by omega) (by omega) (by rw [hi.2.1]; omega) (by omega)
    rw [this, hi.1]
    have e : madeCells (Value.string ⟨#[]⟩).cells n = smW [] n := by
      apply Array.ext_getElem?
      intro i
      by_cases h : i < n <;> simp [madeCells, smW, Value.cells, h, Nat.mod_one]
    simp only [Int.toNat_natCast, Nat.mul_one, e]
/-- the text of lost halves -/
def textB (k : Nat) (ns : List Nat) : List UInt8 := if ns = [] then [110, 111, 110, 101] else Lib.join (ns.map (nameB k)) [44]
def strsV (k : Nat) (ns : List Nat) : List Value := ns.map fun h => .string (strB (nameB k h))
theorem strsV_len (k : Nat) (ns : List Nat) : (strsV k ns).length = ns.length := by simp [strsV]
theorem strB_data (l : List UInt8) : (strB l).data.toList = l := by simp [strB]
theorem names_join (k : Nat) (ns : List Nat) : ((ns.map fun h => strB (nameB k h)).map (·.data.toList)) = ns.map (nameB k) := by
  rw [List.map_map]
  apply List.map_congr_left
  intro h _
  exact strB_data _
theorem join_short {k : Nat} (hk : k < 15) : ∀ (ns : List Nat), (∀ x ∈ ns, x < 32) → Lib.lens (ns.map (nameB k)) ≤ 4 * ns.length
  | [], _ => by simp [Lib.lens]
  | x :: ns, h => by
    have := join_short hk ns (fun y hy => h y (List.mem_cons_of_mem _ hy))
    have h4 := (nameB_len k hk x (h x (by simp))).2
    simp only [Lib.lens, List.map_cons, List.sum_cons, List.length_cons] at *
    omega
theorem textB_len {k n : Nat} {ns : List Nat} (hk : k < 15) (hn : n ≤ 32) (h1 : ns.Pairwise (· < ·)) (h2 : ∀ x ∈ ns, x < n) : (Lib.join (ns.map (nameB k)) [44]).length ≤ 200 := by
  have hl := pair_len h1 h2
  have hs := join_short hk ns (fun x hx => by have := h2 x hx; omega)
  cases ns with
  | nil => simp [Lib.join_nil]
  | cons x ns =>
    rw [List.map_cons] at hs ⊢
    rw [Lib.join_length]
    simp only [List.length_cons, List.length_nil, List.length_map] at *
    omega
set_option maxHeartbeats 4000000 in
theorem text_legal (k r l cap : Nat) (a : Option Addr) (ns : List Nat) (w : World) (E : Nat → Addr) (hE : ErrsH w E) (h1 : 1 ≤ k) (h2 : 2 ≤ r) (h3 : k + r ≤ 16) (hl : l = ns.length) (hcap : l ≤ cap) (hX : RowI w a (natJ8 ns)) (hu : ns.Pairwise (· < ·)) (hr : ∀ x ∈ ns, x < 2 * (k + r)) :
    Calls Tryz.prog 16 #[.int .i64 k, .int .i64 r, .slice a l cap] w fun e w' => e = .returned (.tuple #[.string (strB (textB k ns)), .nilIface]) ∧ Below w.heap.size w w' := by
  have hlen : l ≤ 32 := by have := pair_len hu hr; omega
  have HC : Hid _ := dcheck_legal k r l cap a (natJ8 ns) w E hE h1 h2 h3 (by rw [natJ8_len]; exact hl) (by omega) hcap hX
  have HZ : Hid _ := chkE_ok h1 h2 h3 (goodH_of hu hr)
  have HT : Hid (textB k ns = if ns = [] then [110, 111, 110, 101] else Lib.join (ns.map (nameB k)) [44]) := rfl
  have HJL : Hid ((Lib.join (ns.map (nameB k)) [44]).length ≤ 200) := textB_len (by omega) (by omega) hu hr
  have HL : Hid (l = ns.length) := hl
  have HX : Hid (RowI w a (natJ8 ns)) := hX
  have HR : Hid (∀ x ∈ ns, x < 2 * (k + r)) := hr
  have hmk := run_makeStr l (by omega)
  clear hl hX hr hu hE
  go_enter Tryz.func16, Tryz.ntmps16
  go_wp2_with fail
  refine Calls.mono HC.out ?_
  rw [HZ.out]
  rintro e w1 ⟨rfl, hb1⟩
  have HB1 : Hid _ := hb1
  clear hb1
  rw [show evH E 0 = Value.nilIface from rfl]
  by_cases h0 : l = 0
  · have hns : ns = [] := List.eq_nil_of_length_eq_zero (by rw [← HL.out]; exact h0)
    have HT2 : Hid (textB k ns = [110, 111, 110, 101]) := by have := HT.out; rwa [if_pos hns] at this
    subst h0
    clear hns
    go_wp2
    go_ret2
    exact ⟨by rw [HT2.out]; rfl, HB1.out⟩
  · have hns : ¬ ns = [] := fun h => h0 (by rw [HL.out, h]; rfl)
    have HT2 : Hid (textB k ns = Lib.join (ns.map (nameB k)) [44]) := by have := HT.out; rwa [if_neg hns] at this
    clear hns HT
    have HM0 : Hid _ := heap_alloc_last w1 (.cells (smW [] l) 9)
    have HB2 : Hid _ := HB1.out.alloc HB1.out.size (.cells (smW [] l) 9)
    have HZ1 : Hid _ := HB1.out.size
    go_wp2
    have e0 : ((l : Int) == 0) = false := by
      rw [beq_eq_false_iff_ne]; omega
    rw [e0]
    clear e0
    go_loopw [29] (fun i wr => ∃ j : Nat, j ≤ l ∧ i = .int .i64 j ∧ Below w.heap.size w wr ∧ wr.heap[w1.heap.size]? = some (.cells (smW (strsV k (ns.take j)) l) 9 (0, 0))) (fun i _ => l - (intOf i).toNat)
    case atStart => exact ⟨0, by omega, rfl, HB2.out, by rw [List.take_zero]; exact HM0.out⟩
    case round =>
      obtain ⟨j, hj, rfl, hb, hm⟩ := hrel
      have HB : Hid _ := hb
      have HM : Hid _ := hm
      clear hb hm
      by_cases hlt : j < l
      · have hin : j < ns.length := by rw [← HL.out]; exact hlt
        obtain ⟨b, off, hab, hbl, hc⟩ := rowI_cell (rowI_below HX.out HB.out) (show j < (natJ8 ns).length by rw [natJ8_len]; exact hin)
        have c1 := hc j (by rw [natJ8_len]; exact hin)
        rw [show (natJ8 ns).getD j 0 = ((ns[j] : Nat) : Int) by simp [natJ8, List.getD, hin]] at c1
        have hx9 := HR.out _ (List.getElem_mem hin)
        have HTK : Hid (ns.take (j + 1) = ns.take j ++ [ns[j]]) := List.take_succ_eq_append_getElem hin
        generalize ns[j] = x at *
        have HTJ : Hid ((strsV k (ns.take j)).length = j) := by show _ = _; rw [strsV_len, List.length_take]; omega
        clear hc
        subst hab
        go_wp2_with fail
        refine Calls.mono (name_ok k r x _ h1 h2 h3 hx9) ?_
        rintro e w4 ⟨rfl, hb4⟩
        have HB4 : Hid _ := HB.out.trans (hb4.mono HB.out.size)
        have hs5 := (hb4.block _ (ltHeap HM.out)).trans HM.out
        have c7 : w4.cell? ⟨w1.heap.size, j, none⟩ = some (.string ⟨#[]⟩) := cellAt hs5 j _ (by have e := smW_next (vs := strsV k (ns.take j)) (r := l) (by rw [HTJ.out]; exact hlt); rwa [HTJ.out] at e)
        have d7 : w4.frozen? ⟨w1.heap.size, j, none⟩ = false := frozen_of_row _ _ _ _ _ hs5
        have z7 := ltHeap hs5
        have HS6 : Hid ((w4.setCell ⟨w1.heap.size, j, none⟩ (.string (strB (nameB k x)))).heap[w1.heap.size]? = some (.cells (smW (strsV k (ns.take (j + 1))) l) 9 (0, 0))) := by
          show _ = _
          rw [heap_setCell_same _ _ _ _ _ _ hs5]
          have e := smW_set (.string (strB (nameB k x))) (vs := strsV k (ns.take j)) (r := l) (by rw [HTJ.out]; exact hlt)
          rw [HTJ.out] at e
          rw [e, HTK.out]
          simp [strsV]
        have HB6 : Hid _ := HB4.out.setCell (p := ⟨w1.heap.size, j, none⟩) HZ1.out (.string (strB (nameB k x)))
        clear hs5 hb4 c1
        go_wp2
        exact ⟨⟨j + 1, by omega, by go_num, HB6.out, HS6.out⟩, by simp [intOf]; omega⟩
      · obtain rfl : j = l := by omega
        have hm := HM.out
        rw [show ns.take j = ns by rw [HL.out, List.take_length]] at hm
        have hz := ltHeap hm
        have hjn := names_join k ns
        have HCJ : Hid _ := join_F w1.heap.size 0 j (ns.map fun h => strB (nameB k h)) (strB [44]) wr (fun q x hq => by
          rw [Nat.zero_add]
          refine cellAt hm q _ (smW_at ?_)
          rw [List.getElem?_map] at hq
          rw [strsV, List.getElem?_map]
          cases hg : ns[q]? with
          | none => rw [hg] at hq; cases hq
          | some y => rw [hg] at hq; cases hq; rfl) hz (by rw [List.length_map, ← HL.out]; omega) (by rw [List.length_map, ← HL.out]; exact Nat.le_refl _) (by rw [hjn, strB_data]; have := HJL.out; omega)
        have HJ2 : Hid (strB (Lib.join ((ns.map fun h => strB (nameB k h)).map (·.data.toList)) (strB [44]).data.toList) = strB (textB k ns)) := by show _ = _; rw [hjn, strB_data, HT2.out]
        clear hm hjn
        rw [HJ2.out] at HCJ
        have HCK : Hid (Calls Tryz.prog 38 #[.slice (some ⟨w1.heap.size, 0, none⟩) j j, .string (strB [44])] wr fun e w' => e = .returned (.string (strB (textB k ns))) ∧ Below wr.heap.size wr w') := by
          have h := HCJ.out
          rw [show (ns.map fun h => strB (nameB k h)).length = j by rw [List.length_map]; exact HL.out.symm] at h
          exact h
        clear HCJ HJ2
        go_wp2_with fail
        refine Calls.mono HCK.out ?_
        rintro e w5 ⟨rfl, hb5⟩
        have HB5 : Hid _ := HB.out.trans (hb5.mono HB.out.size)
        clear hb5
        go_wp2
        go_ret2
        exact ⟨rfl, HB5.out⟩
end Go.Proofs.YtjmbpldkggbdlaaGreatDoor

/- alive of stage 8. -/
namespace Go.Proofs.YtjmbpldkggbdlaaGreatDoor
open Go.RowKit Go.Maps Gf
set_option linter.unusedVariables false
set_option maxRecDepth 20000
theorem textA : textB 2 [0, 5] = [100, 48, 97, 44, 112, 48, 98] := by decide +kernel
theorem rowI_new (w : World) (ns : List Nat) : RowI (w.alloc (.cells (vis (natJ8 ns)) 3)) (some ⟨w.heap.size, 0, none⟩) (natJ8 ns) := rowI_vis (heap_alloc_last w _)
set_option maxHeartbeats 4000000 in
theorem alive8_ok (w : World) (E : Nat → Addr) (hE : ErrsG w E) : Calls Tryz.prog 9 #[] w fun e w' => e = .returned (.bool true) ∧ Below w.heap.size w w' := by
  have HE : Hid (ErrsG w E) := hE
  have HK : Hid (∀ W, Below w.heap.size w W → Calls Tryz.prog 14 #[.int .i64 2, .int .i64 2, .slice (some ⟨W.heap.size, 0, none⟩) 2 2] (W.alloc (.cells #[.int .i64 2, .int .i64 3] 3)) fun e w' => e = .returned (.tuple #[.int .i64 1, .nilIface]) ∧ Below w.heap.size w w') := fun W hb => by
    have hb2 := hb.alloc hb.size (.cells #[.int .i64 2, .int .i64 3] 3)
    have h := kind_legal 2 2 2 2 (some ⟨W.heap.size, 0, none⟩) [2, 3] (W.alloc (.cells #[.int .i64 2, .int .i64 3] 3)) E (errsG_below HE.out hb2).1 (by decide) (by decide) (by decide) rfl (by decide) (rowI_new W [2, 3]) (by decide) (by decide)
    rw [show kindN 2 [2, 3] = 1 by decide] at h
    exact h.mono fun e w' ⟨h1, h2⟩ => ⟨h1, hb2.trans (h2.mono hb2.size)⟩
  have HT : Hid (∀ W, Below w.heap.size w W → Calls Tryz.prog 16 #[.int .i64 2, .int .i64 2, .slice (some ⟨W.heap.size, 0, none⟩) 2 2] (W.alloc (.cells #[.int .i64 0, .int .i64 5] 3)) fun e w' => e = .returned (.tuple #[.string ⟨#[100, 48, 97, 44, 112, 48, 98]⟩, .nilIface]) ∧ Below w.heap.size w w') := fun W hb => by
    have hb2 := hb.alloc hb.size (.cells #[.int .i64 0, .int .i64 5] 3)
    have h := text_legal 2 2 2 2 (some ⟨W.heap.size, 0, none⟩) [0, 5] (W.alloc (.cells #[.int .i64 0, .int .i64 5] 3)) E (errsG_below HE.out hb2).1 (by decide) (by decide) (by decide) rfl (by decide) (rowI_new W [0, 5]) (by decide) (by decide)
    rw [textA] at h
    exact h.mono fun e w' ⟨h1, h2⟩ => ⟨h1, hb2.trans (h2.mono hb2.size)⟩
  have HG : Hid (∀ W, Below w.heap.size w W → Calls Tryz.prog 15 #[.int .i64 2, .int .i64 2, .slice (some ⟨W.heap.size, 0, none⟩) 5 5] (W.alloc (.cells #[.int .i64 0, .int .i64 1, .int .i64 2, .int .i64 3, .int .i64 4] 3)) fun e w' => e = .returned (.tuple #[.bool true, .nilIface]) ∧ Below w.heap.size w w') := fun W hb => by
    have hb2 := hb.alloc hb.size (.cells #[.int .i64 0, .int .i64 1, .int .i64 2, .int .i64 3, .int .i64 4] 3)
    have h := gone_legal 2 2 5 5 (some ⟨W.heap.size, 0, none⟩) [0, 1, 2, 3, 4] (W.alloc (.cells #[.int .i64 0, .int .i64 1, .int .i64 2, .int .i64 3, .int .i64 4] 3)) E (errsG_below HE.out hb2) (by decide) (by decide) (by decide) rfl (by decide) (rowI_new W [0, 1, 2, 3, 4]) (by decide) (by decide)
    rw [gone_many (by decide) (by decide) (by decide)] at h
    exact h.mono fun e w' ⟨h1, h2⟩ => ⟨h1, hb2.trans (h2.mono hb2.size)⟩
  clear hE
  go_enter Tryz.func9, Tryz.ntmps9
  go_wp2_with fail
  refine Calls.mono (HK.out w (Below.refl _ _)) ?_
  rintro e w1 ⟨rfl, hb1⟩
  have HB1 : Hid _ := hb1
  clear hb1
  go_wp2_with fail
  refine Calls.mono (HT.out w1 HB1.out) ?_
  rintro e w2 ⟨rfl, hb2⟩
  have HB2 : Hid _ := hb2
  clear hb2
  go_wp2_with fail
  refine Calls.mono (HG.out w2 HB2.out) ?_
  rintro e w3 ⟨rfl, hb3⟩
  have HB3 : Hid _ := hb3
  clear hb3
  go_wp2
  go_ret
  exact ⟨rfl, HB3.out⟩
end Go.Proofs.YtjmbpldkggbdlaaGreatDoor

/- The errors that the statements of stage 8 lay, by number; short lists in memory. -/
namespace Go.Proofs.YtjmbpldkggbdlaaGreatDoor
open Go.RowKit Gf
set_option linter.unusedVariables false
set_option maxRecDepth 20000
def gsDam : List Nat := [0, 2, 1, 3]
def ofDam (es : List Addr) : Nat → Addr := fun n => es.getD (if n = 1 then 1 else if n = 3 then 2 else if n = 11 then 3 else 0) ⟨0, 0, none⟩
theorem errsG_of {w : World} {es : List Addr} (h : ErrsAt w gsDam es) : ErrsG w (ofDam es) := by
  have hl : es.length = 4 := h.1.symm
  match es, hl with
  | [a, b, c, d], _ => exact ⟨⟨(h.2.2 0 _ a rfl rfl).1, (h.2.2 2 _ c rfl rfl).1⟩, (h.2.2 1 _ b rfl rfl).1, (h.2.2 3 _ d rfl rfl).1⟩
theorem errsG_other {w : World} {es : List Addr} (h : ErrsAt w gsDam es) : ofDam es 0 ≠ ofDam es 3 := by
  have hl : es.length = 4 := h.1.symm
  have hn := h.2.1
  intro h9
  match es, hl with
  | [a, b, c, d], _ =>
    have e1 : a = c := h9
    subst e1
    simp at hn
theorem rowI_list {w : World} {g o : Nat} {cs : Array Value} {t : TypeId} {fr : Nat × Nat} {ns : List Int} (h : w.heap[g]? = some (.cells cs t fr)) (hn : ∀ j n, ns[j]? = some n → cs[o + j]? = some (.int .i64 n)) : RowI w (some ⟨g, o, none⟩) ns :=
  .inr ⟨g, o, rfl, fun j n hj => cellAt h (o + j) _ (hn j n hj)⟩
theorem rowI_pair {w : World} {g a b : Nat} {x y : Int} {t : TypeId} {fr : Nat × Nat} (h : w.heap[g]? = some (.cells #[.int .i64 x, .int .i64 y] t fr)) (hx : x = a) (hy : y = b) : RowI w (some ⟨g, 0, none⟩) (natJ8 [a, b]) ∧ RowI w (some ⟨g, 1, none⟩) (natJ8 [b]) := by
  subst hx hy
  refine ⟨rowI_list h fun j n hj => ?_, rowI_list h fun j n hj => ?_⟩
  · match j, hj with
    | 0, hj => cases hj; rfl
    | 1, hj => cases hj; rfl
    | j + 2, hj => cases hj
  · match j, hj with
    | 0, hj => cases hj; rfl
    | j + 1, hj => cases hj
theorem kind_two {k j : Nat} : kindN k [2 * j, 2 * j + 1] = if j < k then 1 else 2 := by
  unfold kindN
  rw [if_neg (by simp)]
  by_cases h : j < k
  · rw [if_pos h, if_pos ⟨j, h, rfl⟩]
  · rw [if_neg h, if_neg]
    rintro ⟨q, hq, e⟩
    simp at e
    omega
theorem kind_single {k x : Nat} : kindN k [x] = 2 := by
  unfold kindN
  rw [if_neg (by simp), if_neg]
  rintro ⟨q, hq, e⟩
  simp at e
theorem kind_nil {k : Nat} : kindN k [] = 0 := by unfold kindN; rw [if_pos rfl]
end Go.Proofs.YtjmbpldkggbdlaaGreatDoor

/- What Left, Whole, Kind, Gone and Text of package damage answer where Check answers an error. -/
namespace Go.Proofs.YtjmbpldkggbdlaaGreatDoor
open Go.RowKit Gf
set_option linter.unusedVariables false
set_option maxRecDepth 20000
theorem left_err (k r : Int) (v : Value) (s : Addr) (w : World) (hF : ∀ w0 : World, w0 = w → Calls Tryz.prog 11 #[.int .i64 k, .int .i64 r, v] w0 fun e w' => e = .returned (errAt s) ∧ Below w0.heap.size w0 w') :
    Calls Tryz.prog 12 #[.int .i64 k, .int .i64 r, v] w fun e w' => e = .returned (.tuple #[.slice none 0 0, errAt s]) ∧ Below w.heap.size w w' := by
  have HF : Hid _ := hF w rfl
  clear hF
  go_enter Tryz.func12, Tryz.ntmps12
  go_wp2_with fail
  refine Calls.mono HF.out ?_
  unfold errAt
  rintro e w1 ⟨rfl, hb1⟩
  have HB1 : Hid _ := hb1
  clear hb1
  go_wp2
  go_ret2
  exact ⟨rfl, HB1.out⟩
theorem whole_err (k r : Int) (v : Value) (s : Addr) (w : World) (hF : ∀ w0 : World, w0 = w → Calls Tryz.prog 11 #[.int .i64 k, .int .i64 r, v] w0 fun e w' => e = .returned (errAt s) ∧ Below w0.heap.size w0 w') :
    Calls Tryz.prog 13 #[.int .i64 k, .int .i64 r, v] w fun e w' => e = .returned (.tuple #[.slice none 0 0, errAt s]) ∧ Below w.heap.size w w' := by
  have HF : Hid _ := hF w rfl
  clear hF
  go_enter Tryz.func13, Tryz.ntmps13
  go_wp2_with fail
  refine Calls.mono HF.out ?_
  unfold errAt
  rintro e w1 ⟨rfl, hb1⟩
  have HB1 : Hid _ := hb1
  clear hb1
  go_wp2
  go_ret2
  exact ⟨rfl, HB1.out⟩
theorem kind_err (k r : Int) (v : Value) (s : Addr) (w : World) (hF : ∀ w0 : World, w0 = w → Calls Tryz.prog 13 #[.int .i64 k, .int .i64 r, v] w0 fun e w' => e = .returned (.tuple #[.slice none 0 0, errAt s]) ∧ Below w0.heap.size w0 w') :
    Calls Tryz.prog 14 #[.int .i64 k, .int .i64 r, v] w fun e w' => e = .returned (.tuple #[.int .i64 0, errAt s]) ∧ Below w.heap.size w w' := by
  have HF : Hid _ := hF w rfl
  clear hF
  go_enter Tryz.func14, Tryz.ntmps14
  go_wp2_with fail
  refine Calls.mono HF.out ?_
  unfold errAt
  rintro e w1 ⟨rfl, hb1⟩
  have HB1 : Hid _ := hb1
  clear hb1
  go_wp2
  go_ret2
  exact ⟨rfl, HB1.out⟩
theorem gone_err (k r : Int) (v : Value) (s : Addr) (w : World) (hF : ∀ w0 : World, w0 = w → Calls Tryz.prog 12 #[.int .i64 k, .int .i64 r, v] w0 fun e w' => e = .returned (.tuple #[.slice none 0 0, errAt s]) ∧ Below w0.heap.size w0 w') :
    Calls Tryz.prog 15 #[.int .i64 k, .int .i64 r, v] w fun e w' => e = .returned (.tuple #[.bool false, errAt s]) ∧ Below w.heap.size w w' := by
  have HF : Hid _ := hF w rfl
  clear hF
  go_enter Tryz.func15, Tryz.ntmps15
  go_wp2_with fail
  refine Calls.mono HF.out ?_
  unfold errAt
  rintro e w1 ⟨rfl, hb1⟩
  have HB1 : Hid _ := hb1
  clear hb1
  go_wp2
  go_ret2
  exact ⟨rfl, HB1.out⟩
theorem text_err (k r : Int) (v : Value) (s : Addr) (w : World) (hF : ∀ w0 : World, w0 = w → Calls Tryz.prog 11 #[.int .i64 k, .int .i64 r, v] w0 fun e w' => e = .returned (errAt s) ∧ Below w0.heap.size w0 w') :
    Calls Tryz.prog 16 #[.int .i64 k, .int .i64 r, v] w fun e w' => e = .returned (.tuple #[.string (strB []), errAt s]) ∧ Below w.heap.size w w' := by
  have HF : Hid _ := hF w rfl
  clear hF
  go_enter Tryz.func16, Tryz.ntmps16
  go_wp2_with fail
  refine Calls.mono HF.out ?_
  unfold errAt
  rintro e w1 ⟨rfl, hb1⟩
  have HB1 : Hid _ := hb1
  clear hb1
  go_wp2
  go_ret2
  exact ⟨rfl, HB1.out⟩
end Go.Proofs.YtjmbpldkggbdlaaGreatDoor

/- The document's own Good, In, Left and Kind of lost halves. -/
namespace Go.Proofs.YtjmbpldkggbdlaaGreatDoor
open Go.RowKit Go.Maps Gf
set_option linter.unusedVariables false
set_option maxRecDepth 20000
theorem goodH_step2 {n i : Nat} {xs : List Int} {x y : Int} (h : i < xs.length) (hx : xs[i] = x) (hy : xs.getD (i - 1) 0 = y) (hg : GoodH n (xs.take i)) : GoodH n (xs.take (i + 1)) ↔ (0 ≤ x ∧ x < n) ∧ (i = 0 ∨ y < x) := by
  rw [goodH_step h hg, hx]
  have hl : (xs.take i).length = i := by rw [List.length_take]; omega
  have e1 : xs.take i = [] ↔ i = 0 := by rw [← List.length_eq_zero_iff, hl]
  by_cases h0 : i = 0
  · simp [h0]
  · have e2 : (xs.take i).getD (i - 1) 0 = y := by
      rw [← hy, List.getD, List.getElem?_take_of_lt (by omega), ← List.getD]
    rw [hl, e2, e1]
theorem goodH_full {n i : Nat} {xs : List Int} (h : ¬ GoodH n (xs.take (i + 1))) : ¬ GoodH n xs := fun h2 => h (goodH_take h2 _)
noncomputable def goodB (n : Nat) (xs : List Int) : Bool := @decide (GoodH n xs) (Classical.propDecidable _)
theorem goodB_yes {n : Nat} {xs : List Int} (h : GoodH n xs) : goodB n xs = true := @decide_eq_true _ (Classical.propDecidable _) h
theorem goodB_no {n : Nat} {xs : List Int} (h : ¬ GoodH n xs) : goodB n xs = false := @decide_eq_false _ (Classical.propDecidable _) h
set_option maxHeartbeats 2000000 in
theorem rgood_F (k r l cap : Nat) (a : Option Addr) (xs : List Int) (w : World) (h3 : k + r ≤ 16) (hl : l = xs.length) (hl9 : l ≤ 4611686018427387904) (hcap : l ≤ cap) (hX : RowI w a xs) :
    Calls Tryz.prog 19 #[.int .i64 k, .int .i64 r, .slice a l cap] w fun e w' => e = .returned (.bool (goodB (2 * (k + r)) xs)) ∧ w = w' := by
  obtain ⟨d, hd⟩ : ∃ d, d = goodB (2 * (k + r)) xs := ⟨_, rfl⟩
  have HY : Hid (GoodH (2 * (k + r)) xs → d = true) := fun h => hd.trans (goodB_yes h)
  have HN0 : Hid (¬ GoodH (2 * (k + r)) xs → d = false) := fun h => hd.trans (goodB_no h)
  rw [← hd]
  clear hd
  have HL : Hid (l = xs.length) := hl
  have HX : Hid (RowI w a xs) := hX
  clear hl hX
  go_enter Tryz.func19, Tryz.ntmps19
  go_wp2
  go_loopw [11] (fun i wr => ∃ j : Nat, j ≤ l ∧ i = .int .i64 j ∧ wr = w ∧ GoodH (2 * (k + r)) (xs.take j)) (fun i _ => l - (intOf i).toNat)
  case atStart => exact ⟨0, by omega, rfl, rfl, by rw [List.take_zero]; exact goodH_nil _⟩
  case round =>
    obtain ⟨j, hj, rfl, rfl, hg⟩ := hrel
    have HG : Hid (GoodH (2 * (k + r)) (xs.take j)) := hg
    clear hg
    by_cases hlt : j < l
    · have hjx : j < xs.length := by rw [← HL.out]; exact hlt
      obtain ⟨b, off, hab, hbl, hc⟩ := rowI_cell HX.out hjx
      have c1 := hc j hjx
      have c0 := hc (j - 1) (by omega)
      rw [show xs.getD j 0 = xs[j] by simp [List.getD, hjx]] at c1
      obtain ⟨x, hx⟩ : ∃ x, xs[j] = x := ⟨_, rfl⟩
      obtain ⟨y, hy⟩ : ∃ y, xs.getD (j - 1) 0 = y := ⟨_, rfl⟩
      have HS : Hid _ := goodH_step2 (n := 2 * (k + r)) hjx hx hy HG.out
      have HF : Hid (¬ GoodH (2 * (k + r)) (xs.take (j + 1)) → ¬ GoodH (2 * (k + r)) xs) := fun h => goodH_full h
      rw [hx] at c1
      rw [hy] at c0
      clear hx hy hc hjx
      subst hab
      by_cases n1 : x < 0
      · have HB : Hid _ := HF.out (fun h => by have := (HS.out.1 h).1; omega)
        clear HS HF c0
        go_wp2
        go_ret
        exact ⟨by rw [HN0.out HB.out]; rfl, rfl⟩
      by_cases n2 : 2 * ((k : Int) + r) ≤ x
      · have HB : Hid _ := HF.out (fun h => by have := (HS.out.1 h).1; omega)
        clear HS HF c0
        go_wp2
        go_ret
        exact ⟨by rw [HN0.out HB.out]; rfl, rfl⟩
      by_cases n3 : j = 0
      · have HN : Hid _ := HS.out.2 ⟨by omega, .inl n3⟩
        clear HS HF c0
        subst n3
        rw [Nat.add_zero] at c1
        go_wp2
        exact ⟨⟨1, by omega, by go_num, by first | rfl | trivial, HN.out⟩, by simp [intOf]; omega⟩
      obtain ⟨q, rfl⟩ : ∃ q, j = q + 1 := ⟨j - 1, by omega⟩
      rw [Nat.add_sub_cancel] at c0
      by_cases n4 : x ≤ y
      · have HB : Hid _ := HF.out (fun h => by have := (HS.out.1 h).2; omega)
        clear HS HF
        go_wp2
        go_ret
        exact ⟨by rw [HN0.out HB.out]; rfl, rfl⟩
      · have HN : Hid _ := HS.out.2 ⟨by omega, .inr (by omega)⟩
        clear HS HF
        go_wp2
        exact ⟨⟨q + 1 + 1, by omega, by go_num, by first | rfl | trivial, HN.out⟩, by simp [intOf]; omega⟩
    · obtain rfl : j = l := by omega
      have HF : Hid (GoodH (2 * (k + r)) xs) := by have := HG.out; rwa [HL.out, List.take_length] at this
      go_wp2
      go_ret
      exact ⟨by rw [HY.out HF.out]; rfl, rfl⟩
set_option maxHeartbeats 1000000 in
theorem rin_F (l cap : Nat) (a : Option Addr) (ns : List Int) (x : Int) (w : World) (hl : l = ns.length) (hl9 : l ≤ 4611686018427387904) (hX : RowI w a ns) :
    Calls Tryz.prog 20 #[.slice a l cap, .int .i64 x] w fun e w' => e = .returned (.bool (decide (x ∈ ns))) ∧ w = w' := by
  have HL : Hid (l = ns.length) := hl
  have HX : Hid (RowI w a ns) := hX
  obtain ⟨d, hd⟩ : ∃ d, d = decide (x ∈ ns) := ⟨_, rfl⟩
  have HD : Hid (d = decide (x ∈ ns)) := hd
  rw [← hd]
  clear hl hX hd
  go_enter Tryz.func20, Tryz.ntmps20
  go_wp2
  go_loopw [9] (fun i wr => ∃ j : Nat, j ≤ l ∧ i = .int .i64 j ∧ wr = w ∧ (∀ q, q < j → ns[q]? ≠ some x)) (fun i _ => l - (intOf i).toNat)
  case atStart => exact ⟨0, by omega, rfl, rfl, fun q h => by omega⟩
  case round =>
    obtain ⟨j, hj, rfl, rfl, hq⟩ := hrel
    have HQ : Hid (∀ q, q < j → ns[q]? ≠ some x) := hq
    clear hq
    by_cases hlt : j < l
    · obtain ⟨b, off, rfl, hb, hc⟩ := rowI_cell HX.out (show j < ns.length by rw [← HL.out]; exact hlt)
      have c1 := hc j (by rw [← HL.out]; exact hlt)
      obtain ⟨y, hy⟩ : ∃ y, y = ns.getD j 0 := ⟨_, rfl⟩
      rw [← hy] at c1
      have HY : Hid (ns[j]? = some y) := by
        show _ = _
        rw [hy, List.getD_eq_getElem?_getD, List.getElem?_eq_getElem (by rw [← HL.out]; exact hlt)]; rfl
      clear hc hy
      by_cases he : y = x
      · have he' : (y == x) = true := by simp [he]
        have HT : Hid (d = true) := by show _ = _; rw [HD.out]; exact decide_eq_true (by rw [← he]; exact List.mem_of_getElem? HY.out)
        clear he HY HD HQ
        go_wp2
        go_ret
        exact ⟨by rw [HT.out]; rfl, rfl⟩
      · have he' : (y == x) = false := by simp [he]
        have HE : Hid (¬ y = x) := he
        clear he
        go_wp2
        refine ⟨⟨j + 1, by omega, by go_num, by first | rfl | trivial, fun q hq => ?_⟩, by simp [intOf]; omega⟩
        by_cases hqj : q < j
        · exact HQ.out q hqj
        · obtain rfl : q = j := by omega
          rw [HY.out]
          exact fun h => HE.out (Option.some.inj h)
    · obtain rfl : j = l := by omega
      have HT : Hid (d = false) := by
        show _ = _
        rw [HD.out]
        refine decide_eq_false fun h => ?_
        obtain ⟨q, hq⟩ := List.mem_iff_getElem?.1 h
        exact absurd hq (HQ.out q (by have := (List.getElem?_eq_some_iff.1 hq).1; rw [HL.out]; exact this))
      clear HD HQ
      go_wp2
      go_ret
      exact ⟨by rw [HT.out]; rfl, rfl⟩
theorem leftL_step (m : Nat) (ns : List Nat) : leftL (m + 1) ns = leftL m ns ++ (if m ∈ ns then [] else [m]) := by
  rw [leftL, List.range_succ, List.filter_append, ← leftL]
  congr 1
  by_cases h : m ∈ ns <;> simp [h]
set_option maxHeartbeats 4000000 in
theorem rleft_F (k r l cap : Nat) (a : Option Addr) (ns : List Nat) (w : World) (h3 : k + r ≤ 16) (hl : l = ns.length) (hl9 : l ≤ 4611686018427387904) (hX : RowI w a (natJ8 ns)) :
    Calls Tryz.prog 22 #[.int .i64 k, .int .i64 r, .slice a l cap] w fun e w' => ∃ v, e = .returned v ∧ ListOf w' w.heap.size v (leftL (2 * (k + r)) ns) ∧ Below w.heap.size w w' := by
  have HL : Hid (l = ns.length) := hl
  have HX : Hid (RowI w a (natJ8 ns)) := hX
  obtain ⟨n, hn⟩ : ∃ n, n = 2 * (k + r) := ⟨_, rfl⟩
  rw [← hn]
  have en : (2 : Int) * ((k : Int) + r) = n := by omega
  have hn32 : n ≤ 32 := by omega
  have HN : Hid _ := hn
  clear hl hX hn
  go_enter Tryz.func22, Tryz.ntmps22
  go_wp2
  have HO0 : Hid ((w.alloc (.cells #[] 3)).ownsRow w.heap.size 3 1 (.slice (some ⟨w.heap.size, 0, none⟩) 0 0) 0 ((natJ8 (leftL 0 ns)).map (Value.int .i64))) := ⟨rfl, .inr ⟨w.heap.size, 0, #[], rfl, Nat.le_refl _, heap_alloc_last _ _, Nat.le_refl _, by decide, rfl, rfl⟩⟩
  go_loopw [8, 7] (fun i v wr => ∃ j : Nat, j ≤ n ∧ i = .int .i64 j ∧ (∃ av cv, v = .slice av (leftL j ns).length cv) ∧ Below w.heap.size w wr ∧ wr.ownsRow w.heap.size 3 1 v (leftL j ns).length ((natJ8 (leftL j ns)).map (Value.int .i64))) (fun i _ _ => n - (intOf i).toNat)
  case atStart => exact ⟨0, by omega, rfl, ⟨_, _, rfl⟩, (Below.refl _ _).alloc (Nat.le_refl _) _, HO0.out⟩
  case round =>
    obtain ⟨j, hj, rfl, ⟨av, cv, rfl⟩, hb, ho⟩ := hrel
    have HB : Hid _ := hb
    clear hb
    by_cases hlt : j < n
    · have hs := leftL_step j ns
      have HWL : Hid _ := leftL_le j ns
      have HIN : Hid (decide ((j : Int) ∈ natJ8 ns) = decide (j ∈ ns)) := by show _ = _; simp only [natJ8_mem]
      have hlt2 : (j : Int) < 2 * ((k : Int) + r) := by omega
      by_cases q1 : j ∈ ns
      · rw [if_pos q1, List.append_nil] at hs
        have HS : Hid _ := hs
        have HO : Hid (wr.ownsRow w.heap.size 3 1 (.slice av (leftL j ns).length cv) (leftL j ns).length ((natJ8 (leftL j ns)).map (Value.int .i64))) := ho
        have HQ : Hid (decide (j ∈ ns) = true) := decide_eq_true q1
        clear hs ho q1
        go_wp2_with fail
        refine Calls.mono (rin_F l cap a (natJ8 ns) j _ (by rw [natJ8_len]; exact HL.out) hl9 (rowI_below HX.out HB.out)) ?_
        rw [HIN.out, HQ.out]
        rintro e w4 ⟨rfl, rfl⟩
        go_wp2
        exact ⟨⟨j + 1, by omega, by go_num, ⟨av, cv, by rw [HS.out]⟩, HB.out, by rw [HS.out]; exact HO.out⟩, by simp [intOf]; omega⟩
      · rw [if_neg q1] at hs
        have hb5 := HB.out.alloc HB.out.size (.cells #[.int .i64 j] 3)
        have ho5 := ho.alloc (.cells #[.int .i64 j] 3)
        obtain ⟨g2, cap2, w6, hrun, ho2, hgr, hor, hlt2⟩ := appendI (b := wr.heap.size) (c := 1) (x := (j : Int)) 22 ho5 (cellAt (heap_alloc_last wr (.cells #[.int .i64 j] 3)) 0 _ rfl) (by have := HWL.out; omega) (by have := HB.out.size; simp; omega)
        have hb6 := below_own hb5 ho5 hgr (by have := HB.out.size; simp; omega)
        have hn6 : (leftL (j + 1) ns).length = (leftL j ns).length + 1 := by rw [hs]; simp
        have hv6 : (natJ8 (leftL j ns)).map (Value.int .i64) ++ [.int .i64 (j : Int)] = (natJ8 (leftL (j + 1) ns)).map (Value.int .i64) := by rw [hs]; simp [natJ8]
        rw [hv6] at ho2
        have HRun : Hid _ := hrun
        have HO2 : Hid (w6.ownsRow w.heap.size 3 1 (.slice (some ⟨g2, 0, none⟩) ((leftL j ns).length + 1) cap2) ((leftL j ns).length + 1) ((natJ8 (leftL (j + 1) ns)).map (Value.int .i64))) := ho2
        have HB6 : Hid _ := hb6
        have HN6 : Hid _ := hn6
        have HQ : Hid (decide (j ∈ ns) = false) := decide_eq_false q1
        clear hs ho q1 hb5 ho5 hrun ho2 hgr hor hlt2 hb6 hn6 hv6
        go_wp2_with fail
        refine Calls.mono (rin_F l cap a (natJ8 ns) j _ (by rw [natJ8_len]; exact HL.out) hl9 (rowI_below HX.out HB.out)) ?_
        rw [HIN.out, HQ.out]
        rintro e w4 ⟨rfl, rfl⟩
        go_wp2_with (at_builtin; refine wpList_append_run rfl _ _ 22 rfl _ _ _ _ rfl rfl HRun.out ?_)
        exact ⟨⟨j + 1, by omega, by go_num, ⟨_, _, by rw [HN6.out]⟩, HB6.out, by rw [HN6.out]; exact HO2.out⟩, by simp [intOf]; omega⟩
    · obtain rfl : j = n := by omega
      have HV : Hid (ListOf wr w.heap.size (.slice av (leftL j ns).length cv) (leftL j ns)) := listOf_own (Nat.le_refl _) rfl ho
      have hlt2 : ¬ (j : Int) < 2 * ((k : Int) + r) := by omega
      clear ho
      go_wp2
      go_ret
      exact ⟨_, rfl, HV.out, HB.out⟩
end Go.Proofs.YtjmbpldkggbdlaaGreatDoor

/- What the document's own Row of package half's chapter answers, of all legal numbers; nothing that was there turns. -/
namespace Go.Proofs.YtjmbpldkggbdlaaGreatDoor
open Go.RowKit Gf
set_option linter.unusedVariables false
set_option maxRecDepth 20000
theorem half_unit {k c s p : Nat} {car : Nat → Nat} (hc : c = 2 * k) (hs : s < k) (hp : p < 2) : (zeros c).set (2 * s + p) 1 = rowF c (halfF k car (2 * s + p)) := by
  rw [colP_zero c (halfF k car (2 * s + p)), colP, rowF_set]
  refine rowF_congr fun v hv => ?_
  by_cases e : v = 2 * s + p
  · rw [if_pos e, e]
    unfold halfF
    rw [if_pos rfl, show (2 * s + p) / 2 = s by omega, genF, if_pos hs, if_pos rfl]
  · rw [if_neg e, if_neg (Nat.not_lt_zero v)]
    simp only [halfF]
    rw [show (2 * s + p) / 2 = s by omega]
    by_cases h2 : v % 2 = (2 * s + p) % 2
    · rw [if_pos h2, genF, if_pos hs, if_neg (by omega)]
    · rw [if_neg h2, if_neg (by omega)]
set_option maxHeartbeats 4000000 in
theorem rrow_unit (k r h s p : Nat) (w : World) (h1 : 1 ≤ k) (h2 : 2 ≤ r) (h3 : k + r ≤ 16) (hh : h = 2 * s + p) (hp : p < 2) (hs : s < k) :
    Calls Tryz.prog 61 #[.int .i64 k, .int .i64 r, .int .i64 h] w fun e w' => ∃ g n, e = .returned (.slice (some ⟨g, 0, none⟩) n n) ∧ n = 2 * k ∧ w.heap.size ≤ g ∧
      w'.heap[g]? = some (.cells (vfs (rowF (2 * k) (halfF k (carN (groupN k r)) h))) 5 (0, 0)) ∧ Below w.heap.size w w' := by
  obtain ⟨c, hc⟩ : ∃ c, c = 2 * k := ⟨_, rfl⟩
  have ec : (2 : Int) * (k : Int) = c := by omega
  have hu := half_unit (car := carN (groupN k r)) hc hs hp
  rw [← hc, hh]
  rw [← hh]
  rw [← hh] at hu
  have HU : Hid _ := hu
  have e1 : (h : Int) / 2 = s := by omega
  have e2 : (h : Int) % 2 = p := by omega
  have hlt : h < c := by omega
  have hc32 : c ≤ 32 := by omega
  have hmk := run_make8 c (by omega)
  have HH : Hid _ := hh
  clear hc hu hh
  go_enter Tryz.func61, Tryz.ntmps61
  have B1 := heap_alloc_last w (.cells (vfs (zeros c)) 5)
  have HB : Hid _ := (Below.refl w.heap.size w).alloc (Nat.le_refl _) (.cells (vfs (zeros c)) 5)
  have c5 := cellAt B1 h _ (vfs_get _ _ (by rw [zeros_len]; exact hlt))
  have c6 := frozen_of_row _ w.heap.size h _ _ B1
  have HB1 : Hid _ := B1
  clear B1
  go_wp2
  go_ret
  refine ⟨w.heap.size, c, rfl, rfl, Nat.le_refl _, ?_, (Below.refl w.heap.size w).alloc (Nat.le_refl _) _⟩
  rw [← HU.out, ← vfs_set]
  exact heap_alloc_last w _
theorem parM_at {k r i j : Nat} (hi : i < r) (hj : j < k) : at8 (parM k r) (i * k + j) = cyN (k + i) j := at8_grid hi hj
theorem half_even {k h i q p : Nat} {car : Nat → Nat} (hh : h = 2 * (k + i) + p) (hp : p < 2) : halfF k car h (2 * q + p) = cyN (k + i) q := by
  simp only [halfF]
  rw [if_pos (by omega), show h / 2 = k + i by omega, show (2 * q + p) / 2 = q by omega, genF, if_neg (by omega)]
theorem half_odd {k h i q : Nat} {car : Nat → Nat} (hh : h = 2 * (k + i)) : halfF k car h (2 * q + 1) = 0 := by
  simp only [halfF]
  rw [if_neg (by omega), if_neg (by omega)]
theorem half_car {k h i q : Nat} {car : Nat → Nat} (hh : h = 2 * (k + i) + 1) : halfF k car h (2 * q) = if car q = i then 1 else 0 := by
  simp only [halfF]
  rw [if_neg (by omega), show h / 2 = k + i by omega, show 2 * q / 2 = q by omega]
  by_cases e : car q = i
  · rw [if_pos e, if_pos ⟨by omega, by omega, by omega⟩]
  · rw [if_neg e, if_neg (fun h => e (by omega))]
theorem colP_at {r j : Nat} {f : Nat → F} (h : j < r) (k : Nat) (hk : k ≤ j) : at8 (colP r f k) j = 0 := by
  rw [colP, at8_rowF h, if_neg (by omega)]
set_option maxHeartbeats 4000000 in
theorem rrow_0 (k r h i : Nat) (w : World) (h1 : 1 ≤ k) (h2 : 2 ≤ r) (h3 : k + r ≤ 16) (hh : h = 2 * (k + i) + 0) (hi : i < r) :
    Calls Tryz.prog 61 #[.int .i64 k, .int .i64 r, .int .i64 h] w fun e w' => ∃ g n, e = .returned (.slice (some ⟨g, 0, none⟩) n n) ∧ n = 2 * k ∧ w.heap.size ≤ g ∧
      w'.heap[g]? = some (.cells (vfs (rowF (2 * k) (halfF k (carN (groupN k r)) h))) 5 (0, 0)) ∧ Below w.heap.size w w' := by
  obtain ⟨c, hc⟩ : ∃ c, c = 2 * k := ⟨_, rfl⟩
  have ec : (2 : Int) * (k : Int) = c := by omega
  have HCA : Hid _ := fun j w (hj : j ≤ 1000) => rcarrier_F k r j w h1 h2 h3 hj
  generalize carN (groupN k r) = car at *
  rw [← hc]
  obtain ⟨s, hs⟩ : ∃ s, s = k + i := ⟨_, rfl⟩
  have e1 : (h : Int) / 2 = s := by omega
  have e2 : (h : Int) % 2 = 0 := by omega
  have e3 : (s : Int) - k = i := by omega
  have hks : (k : Int) ≤ s := by omega
  have hs16 : s ≤ 16 := by omega
  have hh33 : h ≤ 33 := by omega
  obtain ⟨ik, hik⟩ : ∃ ik, ik = i * k := ⟨_, rfl⟩
  have e4 : (i : Int) * k = ik := by rw [hik]; simp
  have hik2 : ik + k ≤ 256 := by
    have h4 := Nat.mul_le_mul (show i + 1 ≤ 16 by omega) (show k ≤ 16 by omega)
    rw [Nat.succ_mul] at h4; omega
  have hikr : ik + k ≤ r * k := by
    have h4 := Nat.mul_le_mul_right k (show i + 1 ≤ r by omega)
    rw [Nat.succ_mul] at h4; omega
  have hc32 : c ≤ 32 := by omega
  have hmk := run_make8 c (by omega)
  have HH : Hid _ := hh
  have HC : Hid _ := hc
  have HIK : Hid _ := hik
  have HIKR : Hid _ := hikr
  have HI : Hid _ := hi
  clear hc hh hs hik hikr hi
  go_enter Tryz.func61, Tryz.ntmps61
  go_wp2_with fail
  have B1 := heap_alloc_last w (.cells (vfs (zeros c)) 5)
  have HB : Hid _ := (Below.refl w.heap.size w).alloc (Nat.le_refl _) (.cells (vfs (zeros c)) 5)
  have HA : Hid (Holds (w.alloc (.cells (vfs (zeros c)) 5)) [(w.heap.size, .cells (vfs (zeros c)) 5 (0, 0))]) := holds_cons (holds_nil _) B1
  clear B1
  refine Calls.mono (rparity_F k r _ h1 h2 h3) ?_
  rintro e w2 ⟨g, m, rfl, hm, hg, hh2, hb2⟩
  have HA2 : Hid _ := holds_new (holds_cons (holds_later HA.out hb2) hh2) #[.int .i64 r, .int .i64 k, .slice (some ⟨g, 0, none⟩) m m] 63
  have hB2 := HB.out.trans (hb2.mono HB.out.size)
  have HB2 : Hid _ := hB2.alloc hB2.size (.cells #[.int .i64 r, .int .i64 k, .slice (some ⟨g, 0, none⟩) m m] 63)
  have HM : Hid _ := hm
  have hz := hB2.size
  have HGN : Hid (w.heap.size < g) := by simp only [World.size_alloc] at hg; exact hg
  clear hb2 hh2 hm hB2 HA HB hmk hg
  go_wp2
  generalize hMM : w2.heap.size = M at *
  generalize (w2.alloc (.cells #[.int .i64 r, .int .i64 k, .slice (some ⟨g, 0, none⟩) m m] 63)) = W3 at *
  clear hMM
  obtain ⟨f, hf⟩ : ∃ f, f = halfF k car h := ⟨_, rfl⟩
  have HF : Hid _ := hf
  clear hf
  go_loopw [11] (fun v wr => ∃ j : Nat, j ≤ k ∧ v = .int .i64 j ∧ Below w.heap.size w wr ∧ Holds wr [(M, .cells #[.int .i64 r, .int .i64 k, .slice (some ⟨g, 0, none⟩) m m] 63 (0, 0)), (g, .cells (vfs (parM k r)) 5 (0, 0)), (w.heap.size, .cells (vfs (colP c f (2 * j))) 5 (0, 0))]) (fun v _ => k - (intOf v).toNat)
  case atStart => exact ⟨0, by omega, rfl, HB2.out, by rw [Nat.mul_zero, ← colP_zero]; exact HA2.out⟩
  case round =>
    obtain ⟨j, hj, rfl, hb, hh⟩ := hrel
    have HB : Hid _ := hb
    have HH1 : Hid _ := hh
    clear hb hh
    by_cases hlt : j < k
    · have c1 := cellAt (holds_at HH1.out 0 rfl) 2 _ rfl
      have hjc : 2 * j < c := by have := HC.out; omega
      have c2 := cellAt (holds_at HH1.out 2 rfl) (2 * j) _ (vfs_get _ _ (by rw [colP_len]; exact hjc))
      rw [colP_at hjc (2 * j) (by omega)] at c2
      have hc2 : (((0 : F).toNat : Nat) : Int) = 0 := rfl
      rw [hc2] at c2
      have c3 := frozen_of_row _ w.heap.size (2 * j) _ _ (holds_at HH1.out 2 rfl)
      have hpa : at8 (parM k r) (ik + j) = cyN (k + i) j := by rw [HIK.out]; exact parM_at HI.out hlt
      have c4 := cellAt (holds_at HH1.out 1 rfl) (ik + j) _ (vfs_get _ _ (by have := HIKR.out; rw [parM_len]; omega))
      rw [hpa] at c4
      have hx := xor_val 0 (cyN (k + i) j)
      rw [hc2, show ga 0 (cyN (k + i) j) = cyN (k + i) j from F.zero_add _] at hx
      have hfo : f (2 * j) = cyN (k + i) j := by rw [HF.out]; exact half_even (q := j) HH.out (by decide)
      rw [← hfo] at c4 hx
      have HFO : Hid _ := hfo
      clear hpa hc2 hfo
      have hjm : ik + j < m := by have := HIKR.out; rw [HM.out]; omega
      go_upto_region 10 with fail
      go_region
      have hL : (colP c f (2 * j)).set (2 * j) (f (2 * j)) = colP c f (2 * (j + 1)) := by
        rw [colP_step, colP_skip (by rw [HF.out]; exact half_odd HH.out)]
        rfl
      have k1 : (wr.setCell ⟨w.heap.size, 2 * j, none⟩ (.int .u8 ((f (2 * j)).toNat : Int))).drew.heap[w.heap.size]? = some (.cells (vfs (colP c f (2 * (j + 1)))) 5 (0, 0)) := by
        rw [← hL, ← vfs_set]
        exact heap_setCell_same _ _ _ _ _ _ (holds_at HH1.out 2 rfl)
      have kA : (wr.setCell ⟨w.heap.size, 2 * j, none⟩ (.int .u8 ((f (2 * j)).toNat : Int))).drew.heap[M]? = some (.cells #[.int .i64 r, .int .i64 k, .slice (some ⟨g, 0, none⟩) m m] 63 (0, 0)) := (heap_setCell_other _ _ _ _ (hkind_ne (holds_at HH1.out 0 rfl) (holds_at HH1.out 2 rfl) (by decide))).trans (holds_at HH1.out 0 rfl)
      have kG : (wr.setCell ⟨w.heap.size, 2 * j, none⟩ (.int .u8 ((f (2 * j)).toNat : Int))).drew.heap[g]? = some (.cells (vfs (parM k r)) 5 (0, 0)) := (heap_setCell_other _ _ _ _ (by have := HGN.out; show g ≠ w.heap.size; omega)).trans (holds_at HH1.out 1 rfl)
      have HBx : Hid _ := (HB.out.setCell (p := ⟨w.heap.size, 2 * j, none⟩) (Nat.le_refl _) (.int .u8 ((f (2 * j)).toNat : Int))).drew
      have HHx : Hid _ := holds_cons (holds_cons (holds_cons (holds_nil _) k1) kG) kA
      clear k1 kA kG c1 c2 c3 c4 hx
      generalize (wr.setCell ⟨w.heap.size, 2 * j, none⟩ (.int .u8 ((f (2 * j)).toNat : Int))).drew = wx at *
      go_wp2
      exact ⟨⟨j + 1, by omega, by go_num, HBx.out, HHx.out⟩, by simp [intOf]; omega⟩
    · obtain rfl : j = k := by omega
      have k1 := holds_at HH1.out 2 rfl
      rw [← HC.out, colP_done, HF.out] at k1
      have HK1 : Hid _ := k1
      clear k1
      go_wp2
      go_ret
      exact ⟨w.heap.size, c, rfl, rfl, Nat.le_refl _, HK1.out, HB.out⟩
set_option maxHeartbeats 4000000 in
theorem rrow_1 (k r h i : Nat) (w : World) (h1 : 1 ≤ k) (h2 : 2 ≤ r) (h3 : k + r ≤ 16) (hh : h = 2 * (k + i) + 1) (hi : i < r) :
    Calls Tryz.prog 61 #[.int .i64 k, .int .i64 r, .int .i64 h] w fun e w' => ∃ g n, e = .returned (.slice (some ⟨g, 0, none⟩) n n) ∧ n = 2 * k ∧ w.heap.size ≤ g ∧
      w'.heap[g]? = some (.cells (vfs (rowF (2 * k) (halfF k (carN (groupN k r)) h))) 5 (0, 0)) ∧ Below w.heap.size w w' := by
  obtain ⟨c, hc⟩ : ∃ c, c = 2 * k := ⟨_, rfl⟩
  have ec : (2 : Int) * (k : Int) = c := by omega
  have HCA : Hid _ := fun j w (hj : j ≤ 1000) => rcarrier_F k r j w h1 h2 h3 hj
  generalize carN (groupN k r) = car at *
  rw [← hc]
  obtain ⟨s, hs⟩ : ∃ s, s = k + i := ⟨_, rfl⟩
  have e1 : (h : Int) / 2 = s := by omega
  have e2 : (h : Int) % 2 = 1 := by omega
  have e3 : (s : Int) - k = i := by omega
  have hks : (k : Int) ≤ s := by omega
  have hs16 : s ≤ 16 := by omega
  have hh33 : h ≤ 33 := by omega
  obtain ⟨ik, hik⟩ : ∃ ik, ik = i * k := ⟨_, rfl⟩
  have e4 : (i : Int) * k = ik := by rw [hik]; simp
  have hik2 : ik + k ≤ 256 := by
    have h4 := Nat.mul_le_mul (show i + 1 ≤ 16 by omega) (show k ≤ 16 by omega)
    rw [Nat.succ_mul] at h4; omega
  have hikr : ik + k ≤ r * k := by
    have h4 := Nat.mul_le_mul_right k (show i + 1 ≤ r by omega)
    rw [Nat.succ_mul] at h4; omega
  have hc32 : c ≤ 32 := by omega
  have hmk := run_make8 c (by omega)
  have HH : Hid _ := hh
  have HC : Hid _ := hc
  have HIK : Hid _ := hik
  have HIKR : Hid _ := hikr
  have HI : Hid _ := hi
  clear hc hh hs hik hikr hi
  go_enter Tryz.func61, Tryz.ntmps61
  go_wp2_with fail
  have B1 := heap_alloc_last w (.cells (vfs (zeros c)) 5)
  have HB : Hid _ := (Below.refl w.heap.size w).alloc (Nat.le_refl _) (.cells (vfs (zeros c)) 5)
  have HA : Hid (Holds (w.alloc (.cells (vfs (zeros c)) 5)) [(w.heap.size, .cells (vfs (zeros c)) 5 (0, 0))]) := holds_cons (holds_nil _) B1
  clear B1
  refine Calls.mono (rparity_F k r _ h1 h2 h3) ?_
  rintro e w2 ⟨g, m, rfl, hm, hg, hh2, hb2⟩
  have HA2 : Hid _ := holds_new (holds_cons (holds_later HA.out hb2) hh2) #[.int .i64 r, .int .i64 k, .slice (some ⟨g, 0, none⟩) m m] 63
  have hB2 := HB.out.trans (hb2.mono HB.out.size)
  have HB2 : Hid _ := hB2.alloc hB2.size (.cells #[.int .i64 r, .int .i64 k, .slice (some ⟨g, 0, none⟩) m m] 63)
  have HM : Hid _ := hm
  have hz := hB2.size
  have HGN : Hid (w.heap.size < g) := by simp only [World.size_alloc] at hg; exact hg
  clear hb2 hh2 hm hB2 HA HB hmk hg
  go_wp2
  generalize hMM : w2.heap.size = M at *
  generalize (w2.alloc (.cells #[.int .i64 r, .int .i64 k, .slice (some ⟨g, 0, none⟩) m m] 63)) = W3 at *
  clear hMM
  obtain ⟨f, hf⟩ : ∃ f, f = halfF k car h := ⟨_, rfl⟩
  have HF : Hid _ := hf
  clear hf
  go_loopw [11] (fun v wr => ∃ j : Nat, j ≤ k ∧ v = .int .i64 j ∧ Below w.heap.size w wr ∧ Holds wr [(M, .cells #[.int .i64 r, .int .i64 k, .slice (some ⟨g, 0, none⟩) m m] 63 (0, 0)), (g, .cells (vfs (parM k r)) 5 (0, 0)), (w.heap.size, .cells (vfs (colP c f (2 * j))) 5 (0, 0))]) (fun v _ => k - (intOf v).toNat)
  case atStart => exact ⟨0, by omega, rfl, HB2.out, by rw [Nat.mul_zero, ← colP_zero]; exact HA2.out⟩
  case round =>
    obtain ⟨j, hj, rfl, hb, hh⟩ := hrel
    have HB : Hid _ := hb
    have HH1 : Hid _ := hh
    clear hb hh
    by_cases hlt : j < k
    · have c1 := cellAt (holds_at HH1.out 0 rfl) 2 _ rfl
      have hjc : 2 * j + 1 < c := by have := HC.out; omega
      have c2 := cellAt (holds_at HH1.out 2 rfl) (2 * j + 1) _ (vfs_get _ _ (by rw [colP_len]; exact hjc))
      rw [colP_at hjc (2 * j) (by omega)] at c2
      have hc2 : (((0 : F).toNat : Nat) : Int) = 0 := rfl
      rw [hc2] at c2
      have c3 := frozen_of_row _ w.heap.size (2 * j + 1) _ _ (holds_at HH1.out 2 rfl)
      have hpa : at8 (parM k r) (ik + j) = cyN (k + i) j := by rw [HIK.out]; exact parM_at HI.out hlt
      have c4 := cellAt (holds_at HH1.out 1 rfl) (ik + j) _ (vfs_get _ _ (by have := HIKR.out; rw [parM_len]; omega))
      rw [hpa] at c4
      have hx := xor_val 0 (cyN (k + i) j)
      rw [hc2, show ga 0 (cyN (k + i) j) = cyN (k + i) j from F.zero_add _] at hx
      have hfo : f (2 * j + 1) = cyN (k + i) j := by rw [HF.out]; exact half_even (q := j) HH.out (by decide)
      rw [← hfo] at c4 hx
      have HFO : Hid _ := hfo
      clear hpa hc2 hfo
      have hjm : ik + j < m := by have := HIKR.out; rw [HM.out]; omega
      go_upto_region 10 with fail
      go_region
      obtain ⟨L1, hL⟩ : ∃ L1, L1 = (colP c f (2 * j)).set (2 * j + 1) (f (2 * j + 1)) := ⟨_, rfl⟩
      have k1 : (wr.setCell ⟨w.heap.size, 2 * j + 1, none⟩ (.int .u8 ((f (2 * j + 1)).toNat : Int))).drew.heap[w.heap.size]? = some (.cells (vfs L1) 5 (0, 0)) := by
        rw [hL, ← vfs_set]
        exact heap_setCell_same _ _ _ _ _ _ (holds_at HH1.out 2 rfl)
      have kA : (wr.setCell ⟨w.heap.size, 2 * j + 1, none⟩ (.int .u8 ((f (2 * j + 1)).toNat : Int))).drew.heap[M]? = some (.cells #[.int .i64 r, .int .i64 k, .slice (some ⟨g, 0, none⟩) m m] 63 (0, 0)) := (heap_setCell_other _ _ _ _ (hkind_ne (holds_at HH1.out 0 rfl) (holds_at HH1.out 2 rfl) (by decide))).trans (holds_at HH1.out 0 rfl)
      have kG : (wr.setCell ⟨w.heap.size, 2 * j + 1, none⟩ (.int .u8 ((f (2 * j + 1)).toNat : Int))).drew.heap[g]? = some (.cells (vfs (parM k r)) 5 (0, 0)) := (heap_setCell_other _ _ _ _ (by have := HGN.out; show g ≠ w.heap.size; omega)).trans (holds_at HH1.out 1 rfl)
      have HBx : Hid _ := (HB.out.setCell (p := ⟨w.heap.size, 2 * j + 1, none⟩) (Nat.le_refl _) (.int .u8 ((f (2 * j + 1)).toNat : Int))).drew
      have HHx : Hid _ := holds_cons (holds_cons (holds_cons (holds_nil _) k1) kG) kA
      clear k1 kA kG c1 c2 c3 c4 hx
      generalize (wr.setCell ⟨w.heap.size, 2 * j + 1, none⟩ (.int .u8 ((f (2 * j + 1)).toNat : Int))).drew = wx at *
      have HL : Hid _ := hL
      clear hL
      go_wp2_with fail
      refine (HCA.out j _ (by omega)).mono ?_
      rintro e wy ⟨rfl, rfl⟩
      by_cases hcar : car j = i
      · have hff : f (2 * j) = 1 := by rw [HF.out, half_car HH.out, if_pos hcar]
        have hL2 : L1.set (2 * j) 1 = colP c f (2 * (j + 1)) := by
          rw [HL.out, ← hff, List.set_comm _ _ (by omega), colP_step, colP_step]
          rfl
        have c2 := cellAt (holds_at HHx.out 2 rfl) (2 * j) _ (vfs_get _ _ (by rw [HL.out, List.length_set, colP_len]; omega))
        have c0 : at8 L1 (2 * j) = 0 := by
          have := colP_at (f := f) (show 2 * j < c by omega) (2 * j) (Nat.le_refl _)
          rw [HL.out]
          simp only [at8] at this ⊢
          rw [List.getD_eq_getElem?_getD, List.getElem?_set_ne (by omega), ← List.getD_eq_getElem?_getD]
          exact this
        rw [c0, show (((0 : F).toNat : Nat) : Int) = 0 from rfl] at c2
        have c3 := frozen_of_row _ w.heap.size (2 * j) _ _ (holds_at HHx.out 2 rfl)
        have hx1 : bits .xor .u8 0 1 = 1 := by decide
        have hci : (car j : Int) = i := by omega
        have HL2 : Hid _ := hL2
        clear hL2 c0 hff hcar
        go_wp2
        have k1 : (wx.setCell ⟨w.heap.size, 2 * j, none⟩ (.int .u8 1)).heap[w.heap.size]? = some (.cells (vfs (colP c f (2 * (j + 1)))) 5 (0, 0)) := by
          rw [heap_setCell_same _ _ _ _ _ _ (holds_at HHx.out 2 rfl), ← HL2.out, ← vfs_set]
          rfl
        have kA : (wx.setCell ⟨w.heap.size, 2 * j, none⟩ (.int .u8 1)).heap[M]? = some (.cells #[.int .i64 r, .int .i64 k, .slice (some ⟨g, 0, none⟩) m m] 63 (0, 0)) := (heap_setCell_other _ _ _ _ (hkind_ne (holds_at HHx.out 0 rfl) (holds_at HHx.out 2 rfl) (by decide))).trans (holds_at HHx.out 0 rfl)
        have kG : (wx.setCell ⟨w.heap.size, 2 * j, none⟩ (.int .u8 1)).heap[g]? = some (.cells (vfs (parM k r)) 5 (0, 0)) := (heap_setCell_other _ _ _ _ (by have := HGN.out; show g ≠ w.heap.size; omega)).trans (holds_at HHx.out 1 rfl)
        exact ⟨⟨j + 1, by omega, by go_num, HBx.out.setCell (Nat.le_refl _) _, holds_cons (holds_cons (holds_cons (holds_nil _) k1) kG) kA⟩, by simp [intOf]; omega⟩
      · have hff : f (2 * j) = 0 := by rw [HF.out, half_car HH.out, if_neg hcar]
        have hL2 : L1 = colP c f (2 * (j + 1)) := by
          rw [HL.out, colP_skip hff, colP_step]
          rfl
        rw [hL2] at HHx
        have hci : ¬ (car j : Int) = i := by omega
        clear hL2 hff hcar
        go_wp2
        exact ⟨⟨j + 1, by omega, by go_num, HBx.out, HHx.out⟩, by simp [intOf]; omega⟩
    · obtain rfl : j = k := by omega
      have k1 := holds_at HH1.out 2 rfl
      rw [← HC.out, colP_done, HF.out] at k1
      have HK1 : Hid _ := k1
      clear k1
      go_wp2
      go_ret
      exact ⟨w.heap.size, c, rfl, rfl, Nat.le_refl _, HK1.out, HB.out⟩
theorem hrrow_F (k r h : Nat) (w : World) (h1 : 1 ≤ k) (h2 : 2 ≤ r) (h3 : k + r ≤ 16) (hh : h < 2 * (k + r)) :
    Calls Tryz.prog 61 #[.int .i64 k, .int .i64 r, .int .i64 h] w fun e w' => ∃ g n, e = .returned (.slice (some ⟨g, 0, none⟩) n n) ∧ n = 2 * k ∧ w.heap.size ≤ g ∧
      w'.heap[g]? = some (.cells (vfs (rowF (2 * k) (halfF k (carN (groupN k r)) h))) 5 (0, 0)) ∧ Below w.heap.size w w' := by
  by_cases hs : h / 2 < k
  · exact rrow_unit k r h (h / 2) (h % 2) w h1 h2 h3 (by omega) (by omega) hs
  · rcases (show h % 2 = 0 ∨ h % 2 = 1 by omega) with e | e
    · exact rrow_0 k r h (h / 2 - k) w h1 h2 h3 (by omega) (by omega)
    · exact rrow_1 k r h (h / 2 - k) w h1 h2 h3 (by omega) (by omega)
end Go.Proofs.YtjmbpldkggbdlaaGreatDoor

/- Facts for the statement MatPlaces: refusals of Take, two lists apart, the document's own Row, an append in a drawn region. -/
namespace Go.Proofs.YtjmbpldkggbdlaaGreatDoor
open Go.RowKit Gf
set_option linter.unusedVariables false
set_option maxRecDepth 20000
set_option maxHeartbeats 1000000 in
theorem take_bad (r c : Int) (a an : Option Addr) (l cap ln cn : Nat) (w : World) (s : Addr) (hs : w.cell? ⟨2, 0, none⟩ = some (errAt s)) (h : ¬ (0 ≤ r ∧ r ≤ 64 ∧ 0 ≤ c ∧ c ≤ 64 ∧ (l : Int) = r * c)) :
    Calls Tryz.prog 35 #[.agg #[.int .i64 r, .int .i64 c, .slice a l cap], .slice an ln cn] w fun e w' => e = .returned (.tuple #[.agg #[.int .i64 0, .int .i64 0, .slice none 0 0], errAt s]) ∧ Below w.heap.size w w' := by
  have hlt := World.block_lt_of_cell? w _ hs
  simp at hlt
  have H : Hid _ := h
  clear h
  have HS : Hid _ := cell?_alloc_old (.cells #[.int .i64 0, .int .i64 0, .slice none 0 0] 63) (cell?_alloc_old (.cells #[.int .i64 r, .int .i64 c, .slice a l cap] 63) hs)
  unfold errAt at *
  go_enter Tryz.func35, Tryz.ntmps35
  go_wp2_with fail
  refine Calls.mono (check_bad r c a l cap _ _ HS.out H.out) ?_
  rintro e w1 ⟨rfl, hb1⟩
  have k1 := heap_later (heap_alloc2_new w (.cells #[.int .i64 r, .int .i64 c, .slice a l cap] 63) (.cells #[.int .i64 0, .int .i64 0, .slice none 0 0] 63)) hb1
  have c4 := cellAt k1 0 _ rfl
  have c5 := cellAt k1 1 _ rfl
  have c6 := cellAt k1 2 _ rfl
  have d4 : w1.frozen? ⟨w.heap.size + 1, 0, none⟩ = false := frozen_of_row _ _ _ _ _ k1
  have d5 : w1.frozen? ⟨w.heap.size + 1, 1, none⟩ = false := frozen_of_row _ _ _ _ _ k1
  have d6 : w1.frozen? ⟨w.heap.size + 1, 2, none⟩ = false := frozen_of_row _ _ _ _ _ k1
  have c9 := cell_later hb1 HS.out
  have HB1 : Hid (Below w.heap.size w w1) := (((Below.refl w.heap.size w).alloc (Nat.le_refl _) _).alloc (by simp) _).trans (hb1.mono (by simp; omega))
  clear hb1 k1
  go_wp2
  go_region
  go_wp2
  refine bodyPost_ret (v := .tuple #[.agg #[.int .i64 0, .int .i64 0, .slice none 0 0], .iface 188 (.pointer (some s))]) (by simp [results, Tryz.results35, go_sem, c4, c5, c6]) rfl ⟨rfl, ?_⟩
  exact (((HB1.out.setCell (by simp) _).setCell (by simp) _).setCell (by simp) _).drew
set_option maxHeartbeats 1000000 in
theorem take_long (r c : Nat) (a an : Option Addr) (l cap ln cn : Nat) (w : World) (s : Addr) (hs : w.cell? ⟨2, 0, none⟩ = some (errAt s)) (hr : r ≤ 64) (hc : c ≤ 64) (hl : l = r * c) (hn : 64 < ln) :
    Calls Tryz.prog 35 #[.agg #[.int .i64 r, .int .i64 c, .slice a l cap], .slice an ln cn] w fun e w' => e = .returned (.tuple #[.agg #[.int .i64 0, .int .i64 0, .slice none 0 0], errAt s]) ∧ Below w.heap.size w w' := by
  have hlt := World.block_lt_of_cell? w _ hs
  simp at hlt
  have HL : Hid _ := hl
  clear hl
  have HS : Hid _ := cell?_alloc_old (.cells #[.int .i64 0, .int .i64 0, .slice none 0 0] 63) (cell?_alloc_old (.cells #[.int .i64 r, .int .i64 c, .slice a l cap] 63) hs)
  unfold errAt at *
  go_enter Tryz.func35, Tryz.ntmps35
  go_wp2_with fail
  refine Calls.mono (check_ok r c a l cap _ hr hc HL.out) ?_
  rintro e w1 ⟨rfl, hb1⟩
  have k1 := heap_later (heap_alloc2_new w (.cells #[.int .i64 r, .int .i64 c, .slice a l cap] 63) (.cells #[.int .i64 0, .int .i64 0, .slice none 0 0] 63)) hb1
  have c4 := cellAt k1 0 _ rfl
  have c5 := cellAt k1 1 _ rfl
  have c6 := cellAt k1 2 _ rfl
  have d4 : w1.frozen? ⟨w.heap.size + 1, 0, none⟩ = false := frozen_of_row _ _ _ _ _ k1
  have d5 : w1.frozen? ⟨w.heap.size + 1, 1, none⟩ = false := frozen_of_row _ _ _ _ _ k1
  have d6 : w1.frozen? ⟨w.heap.size + 1, 2, none⟩ = false := frozen_of_row _ _ _ _ _ k1
  have c9 := cell_later hb1 HS.out
  have HB1 : Hid (Below w.heap.size w w1) := (((Below.refl w.heap.size w).alloc (Nat.le_refl _) _).alloc (by simp) _).trans (hb1.mono (by simp; omega))
  clear hb1 k1
  go_wp2
  go_region
  go_wp2
  refine bodyPost_ret (v := .tuple #[.agg #[.int .i64 0, .int .i64 0, .slice none 0 0], .iface 188 (.pointer (some s))]) (by simp [results, Tryz.results35, go_sem, c4, c5, c6]) rfl ⟨rfl, ?_⟩
  exact (((HB1.out.setCell (by simp) _).setCell (by simp) _).setCell (by simp) _).drew

theorem wanted_append_run {P : Program} {w : World} {o : Oper} {a : Act} {K : Act → World → Prop} {Q : Exit → Act → World → Prop} {ys : Nat → Option Bool} {L : Prop} (hgd : o.guard = none) (s x : Operand) (t : TypeId)
    (ho : o.op = .call { callee := .builtin .append, args := #[s, x], argTypes := #[t, t] }) (v u r : Value) (w' : World) (hs : a.eval s = v) (hx : a.eval x = u)
    (hr : (Builtin.append_ #[t, t] o.type #[v, u]).run P w = .ok r w') (h : K (a.put o.dst r) w') : if Region.wanted o ys = true then Oper.wp P o a w K Q else L := by
  rw [if_pos (by simp [Region.wanted, hgd])]
  unfold Oper.wp execOp
  simp only [ho, resolve, invoke, builtin, Sem.run_bind, Sem.run_pure, Result.andThen_ok, List.map_toArray, List.map_cons, List.map_nil, hs, hx, hr]
  exact h
theorem kind_ne {w : World} {a b : Nat} {cs ds : Array Value} {t u : TypeId} {f1 f2 : Nat × Nat} (h1 : w.heap[a]? = some (.cells cs t f1)) (h2 : w.heap[b]? = some (.cells ds u f2)) (h : t ≠ u) : a ≠ b := fun e => by
  subst e; rw [h1] at h2; cases h2; exact h rfl
theorem grown_some {w w' : World} (g : Nat) (h : w.grownBy w' none) : w.grownBy w' (some g) := ⟨h.os, h.tape, h.output, h.size, fun k hk _ => h.block k hk (by simp)⟩
theorem grown_keep {w w' : World} {r : Option Nat} {k : Nat} {o : Obj} (h : w.grownBy w' r) (hk : w.heap[k]? = some o) (hne : some k ≠ r) : w'.heap[k]? = some o := (h.block k (Array.getElem?_eq_some_iff.1 hk).1 hne).trans hk

theorem has8_take {w : World} {g cap : Nat} {xs : List F} (h : Has8 w g xs cap) (m : Nat) : Has8 w g (xs.take m) cap := by
  obtain ⟨cur, hg, hs, hl, hm, ht⟩ := h
  refine ⟨cur, hg, hs, by rw [List.length_take]; omega, hm, ?_⟩
  rw [List.map_take, ← ht, List.take_take, List.length_take]
theorem row8_grown {w w' : World} {r : Option Nat} {g : Nat} {xs : List F} (h : Row8 w (some ⟨g, 0, none⟩) xs) (hb : w.grownBy w' r) (hg : g < w.heap.size) (hne : some g ≠ r) : Row8 w' (some ⟨g, 0, none⟩) xs := by
  rcases h with e | ⟨b, off, e, h⟩
  · exact .inl e
  · cases e
    refine .inr ⟨g, 0, rfl, fun j hj => ?_⟩
    rw [← h j hj]
    simp only [World.cell?, hb.block g hg hne]
theorem append8_both {w : World} {g n cap : Nat} {xs ys : List F} {ad : Addr} {m c : Nat} (ty : TypeId) (h : Has8 w g xs cap) (hn : n = xs.length) (hm : m = ys.length) (hb : n + m ≤ 140737488355328)
    (hy : ∀ j, j < ys.length → w.cell? (ad.add j) = some (.int .u8 ((at8 ys j).toNat : Int))) :
    ∃ g' cap' w', (Builtin.append_ #[61, 61] ty #[.slice (some ⟨g, 0, none⟩) n cap, .slice (some ad) m c]).run Tryz.prog w = .ok (.slice (some ⟨g', 0, none⟩) (n + m) cap') w' ∧
      Has8 w' g' (xs ++ ys) cap' ∧ w.grownBy w' (some g) ∧ (g' = g ∨ w.heap.size ≤ g' ∧ w.grownBy w' none) := by
  by_cases hroom : n + m ≤ cap
  · subst hn hm
    obtain ⟨i, hi, h1, h2, h3⟩ := info8
    obtain ⟨cur, hg, hs, hl, hmx, ht⟩ := h
    have hown : w.ownsRow 0 5 1 (.slice (some ⟨g, 0, none⟩) xs.length cap) xs.length (xs.map vf) :=
      ⟨by simp, .inr ⟨g, cap, cur, rfl, Nat.zero_le _, hg, hl, hmx, by omega, by rw [Nat.mul_one]; exact ht⟩⟩
    obtain ⟨w', hrun, ho, hgr⟩ := run_append_fits (P := Tryz.prog) w 0 61 ty 5 i 1 Tryz.underlying61 hi h1 g xs.length cap _ hown ad ys.length c (ys.map vf) (by simp) (fun j v hv => by
        simp only [List.getElem?_map, Option.map_eq_some_iff] at hv
        obtain ⟨x, hx1, rfl⟩ := hv
        have hj : j < ys.length := (List.getElem?_eq_some_iff.1 hx1).1
        have e : at8 ys j = x := by simp [at8, hx1]
        rw [hy j hj, e]; rfl) (fun v hv => by
        simp only [List.mem_map] at hv
        obtain ⟨x, _, rfl⟩ := hv
        rfl) hroom
    rcases ho.2 with ⟨hv, _⟩ | ⟨g', cap', cur', hv, _, hg', hl', hm', hs', ht'⟩
    · cases hv
    · cases hv
      exact ⟨g, cap, w', hrun, ⟨cur', hg', by omega, by simpa using hl', hm', by rw [List.length_append, List.map_append, ← ht', Nat.mul_one]⟩, hgr, .inl rfl⟩
  · obtain ⟨g', cap', w', h1, h2, h3, h4⟩ := append8_grows (cap := cap) (m := m) (c := c) ty (row8_has h) hn hm (by omega) hb hy
    exact ⟨g', cap', w', h1, h2, ⟨h3.os, h3.tape, h3.output, h3.size, fun k hk _ => h3.block k hk (by simp)⟩, .inr ⟨h4, h3⟩⟩
/-- the second list nil -/
theorem append8_nil (w : World) {ys : List F} {ad : Addr} {m c : Nat} (ty : TypeId) (hm : m = ys.length) (h0 : 0 < m) (hb : m ≤ 140737488355328)
    (hy : ∀ j, j < ys.length → w.cell? (ad.add j) = some (.int .u8 ((at8 ys j).toNat : Int))) :
    ∃ g' cap' w', (Builtin.append_ #[61, 61] ty #[.slice none 0 0, .slice (some ad) m c]).run Tryz.prog w = .ok (.slice (some ⟨g', 0, none⟩) m cap') w' ∧
      Has8 w' g' ys cap' ∧ w.grownBy w' none ∧ w.heap.size ≤ g' := by
  subst hm
  obtain ⟨i, hi, h1, h2, h3⟩ := info8
  obtain ⟨v', w', hrun, ho, hgr, hnil, hat⟩ := run_append_own_at (P := Tryz.prog) w w.heap.size 61 ty 5 i _ 1 1 Tryz.underlying61 hi h3 h1 h2 rfl (by decide)
    (.slice none 0 0) 0 [] ⟨rfl, .inl ⟨rfl, rfl⟩⟩ ad ys.length c (ys.map vf) (by simp) (fun j v hv => by
      simp only [List.getElem?_map, Option.map_eq_some_iff] at hv
      obtain ⟨x, hx1, rfl⟩ := hv
      have hj : j < ys.length := (List.getElem?_eq_some_iff.1 hx1).1
      have e : at8 ys j = x := by simp [at8, hx1]
      rw [hy j hj, e]; rfl) (fun v hv => by
      simp only [List.mem_map] at hv
      obtain ⟨x, _, rfl⟩ := hv
      rfl) (by simp only [maxLen]; omega) (by omega) (Nat.le_refl _)
  rcases ho.2 with ⟨hv, hn⟩ | ⟨g', cap', cur', hv, hg, hg', hl', hm', hs', ht'⟩
  · have := (hnil.1 hv).2
    omega
  · subst hv
    refine ⟨g', cap', w', by rw [hrun, Nat.zero_add], ⟨cur', hg', by omega, by simpa using hl', hm', ?_⟩, hgr, hg⟩
    rw [← List.nil_append (ys.map vf), ← ht', Nat.mul_one, Nat.zero_add]
set_option maxHeartbeats 1000000 in
theorem rrow_some (r c i b off l cap : Nat) (xs : List F) (w : World) (hr : r ≤ 64) (hc : c ≤ 64) (hi : i < r) (hl : l = r * c) (hx : xs.length = r * c) (hcap : l ≤ cap) (hX : Row8 w (some ⟨b, off, none⟩) xs) :
    Calls Tryz.prog 108 #[.agg #[.int .i64 r, .int .i64 c, .slice (some ⟨b, off, none⟩) l cap], .int .i64 i] w fun e w' => ∃ g cap', e = .returned (.slice (some ⟨g, 0, none⟩) c cap') ∧ w.heap.size ≤ g ∧ Has8 w' g (rowAt c xs i) cap' ∧ Below w.heap.size w w' := by
  obtain ⟨m0, m1⟩ := mul_small (r := i) (c := c) (by omega) hc
  have m5 : i * c + c ≤ l := by
    have := Nat.mul_le_mul_right c (show i + 1 ≤ r from hi)
    rw [Nat.succ_mul] at this; omega
  have hl6 : l ≤ 4096 := by have := mul_small hr hc; have e : (r : Int) * (c : Int) = ((r * c : Nat) : Int) := by simp
                            omega
  have m4 : (i : Int) * (c : Int) = ((i * c : Nat) : Int) := by simp
  have m3 : ((i : Int) + 1) * (c : Int) = ((i * c : Nat) : Int) + (c : Int) := by rw [Int.add_mul, Int.one_mul, m4]
  have hrow : Row8 w (some ⟨b, rof off (i * c) cap, none⟩) (rowAt c xs i) := by
    rcases hX with e | ⟨b2, off2, e, h⟩
    · left
      rw [e]; simp [rowAt]
    · cases e
      exact row8_rowAt hx hi (by omega) h
  have hlen := rowAt_len hx hi
  generalize hp : i * c = p at m3 m4 m5 hrow ⊢
  rw [m4] at m0 m1
  have hh := heap_alloc_last (w.alloc (.cells #[.int .i64 r, .int .i64 c, .slice (some ⟨b, off, none⟩) l cap] 63)) (.cells #[] 5)
  obtain ⟨g', cap', w2, h1, h2, h3, h4⟩ := append8_new (g := w.heap.size + 1) (m := c) (c := cap - p) (a := some ⟨b, rof off p cap, none⟩) (ys := rowAt c xs i) 61 (by simpa using hh) hlen.symm (by omega) (row8_alloc (row8_alloc hrow _) _) (fun h => by cases h)
  have HR : Hid _ := h1
  have H2 : Hid _ := h2
  have HB : Hid (Below w.heap.size w w2) := grownBy_below (g := w.heap.size + 1) ((((Below.refl _ _).alloc (Nat.le_refl _) _).alloc (by simp) _)) ⟨h3.os, h3.tape, h3.output, h3.size, fun k hk _ => h3.block k hk (by simp)⟩ (by omega) (by simp; omega)
  have hg : w.heap.size ≤ g' := by
    rcases h4 with rfl | h4
    · omega
    · simp at h4; omega
  clear h1 h2 h3 h4 hh hX hrow hlen hp hl hx
  by_cases h : cap = p
  · subst h
    rw [rof_same] at HR
    have h0 : cap - cap = 0 := Nat.sub_self _
    rw [h0] at HR
    go_enter Tryz.func108, Tryz.ntmps108
    go_wp2_with (at_builtin; refine wpList_append_run rfl _ _ 61 rfl _ _ _ _ rfl ?_ HR.out ?_)
    · simp only [Nat.add_sub_cancel_left]
      rfl
    · go_wp2
      go_ret
      exact ⟨g', cap', rfl, hg, H2.out, HB.out⟩
  · rw [rof_room h] at HR
    go_enter Tryz.func108, Tryz.ntmps108
    go_wp2_with (at_builtin; refine wpList_append_run rfl _ _ 61 rfl _ _ _ _ rfl ?_ HR.out ?_)
    · simp only [Nat.add_sub_cancel_left]
      rfl
    · go_wp2
      go_ret
      exact ⟨g', cap', rfl, hg, H2.out, HB.out⟩

set_option maxHeartbeats 1000000 in
theorem rrow_nil (r i cap : Nat) (a : Option Addr) (w : World) (hi : i < 64) (hnil : a = none → cap = 0) :
    Calls Tryz.prog 108 #[.agg #[.int .i64 r, .int .i64 0, .slice a 0 cap], .int .i64 i] w fun e w' => ∃ g cap', e = .returned (.slice (some ⟨g, 0, none⟩) 0 cap') ∧ w.heap.size ≤ g ∧ Has8 w' g [] cap' ∧ Below w.heap.size w w' := by
  have hh := heap_alloc_last (w.alloc (.cells #[.int .i64 r, .int .i64 0, .slice a 0 cap] 63)) (.cells #[] 5)
  rw [World.size_alloc] at hh
  obtain ⟨g', cap', w2, h1, h2, h3, h4⟩ := append8_new (m := 0) (c := cap) (a := a) (ys := []) 61 hh rfl (by omega) (.inl rfl) hnil
  have HR : Hid _ := h1
  have H2 : Hid _ := h2
  have HB : Hid (Below w.heap.size w w2) := grownBy_below (g := w.heap.size + 1) ((((Below.refl _ _).alloc (Nat.le_refl _) _).alloc (by simp) _)) ⟨h3.os, h3.tape, h3.output, h3.size, fun k hk _ => h3.block k hk (by simp)⟩ (by omega) (by simp; omega)
  have hg : w.heap.size ≤ g' := by
    rcases h4 with rfl | h4
    · omega
    · simp at h4; omega
  have HN : Hid _ := hnil
  clear h1 h2 h3 h4 hh hnil
  by_cases h : cap = 0
  · subst h
    go_enter Tryz.func108, Tryz.ntmps108
    go_wp2_with (at_builtin; refine wpList_append_run rfl _ _ 61 rfl _ _ _ _ rfl rfl HR.out ?_)
    go_wp2
    go_ret
    exact ⟨g', cap', rfl, hg, H2.out, HB.out⟩
  · cases a with
    | none => exact absurd (HN.out rfl) h
    | some ad =>
      obtain ⟨b, off, tg⟩ := ad
      go_enter Tryz.func108, Tryz.ntmps108
      go_wp2_with (at_builtin; refine wpList_append_run rfl _ _ 61 rfl _ _ _ _ rfl rfl HR.out ?_)
      go_wp2
      go_ret
      exact ⟨g', cap', rfl, hg, H2.out, HB.out⟩
/-- of every matrix in form, every row that is there -/
theorem rrow_F (r c i l cap : Nat) (a : Option Addr) (xs : List F) (w : World) (hr : r ≤ 64) (hc : c ≤ 64) (hi : i < r) (hl : l = r * c) (hx : xs.length = r * c) (hcap : l ≤ cap) (hX : Row8 w a xs) (hnil : a = none → cap = 0) :
    Calls Tryz.prog 108 #[.agg #[.int .i64 r, .int .i64 c, .slice a l cap], .int .i64 i] w fun e w' => ∃ g cap', e = .returned (.slice (some ⟨g, 0, none⟩) c cap') ∧ w.heap.size ≤ g ∧ Has8 w' g (rowAt c xs i) cap' ∧ Below w.heap.size w w' := by
  rcases hX with e | ⟨b, off, rfl, h⟩
  · have h0 : r * c = 0 := by rw [← hx, e]; rfl
    have hc0 : c = 0 := by
      rcases Nat.mul_eq_zero.1 h0 with h | h
      · omega
      · exact h
    subst hc0
    obtain rfl : l = 0 := by omega
    refine (rrow_nil r i cap a w (by omega) hnil).mono fun e' w' ⟨g, cap', h⟩ => ⟨g, cap', ?_⟩
    have e0 : rowAt 0 xs i = [] := List.eq_nil_of_length_eq_zero (rowAt_len hx hi)
    rw [e0]
    exact h
  · exact rrow_some r c i b off l cap xs w hr hc hi hl hx hcap (.inr ⟨b, off, rfl, h⟩)
end Go.Proofs.YtjmbpldkggbdlaaGreatDoor

/- The document's own answers for elimination: a matrix's span, what is a combination, the rank. -/
namespace Go.Proofs.YtjmbpldkggbdlaaGreatDoor
open Go.RowKit Gf
set_option linter.unusedVariables false
set_option maxRecDepth 20000
/-- the rows of a matrix as lists' cells: 0 behind their end -/
def rowsF (c : Nat) (xs : List F) : Mt := fun i => at8 (rowAt c xs i)
theorem rowsF_cell {c : Nat} {xs : List F} {i j : Nat} (hj : j < c) : rowsF c xs i j = cellF c xs i j := at8_rowAt hj
theorem tr_rowsF {c r : Nat} {xs : List F} : ∀ i, i < c → ∀ j, j < r → tr (rowsF c xs) i j = tr (cellF c xs) i j := fun i hi j _ => rowsF_cell hi
set_option maxHeartbeats 4000000 in
theorem rof_F (r c l cap : Nat) (a : Option Addr) (xs : List F) (w : World) (hr : r ≤ 64) (hc : c ≤ 64) (hl : l = r * c) (hx : xs.length = r * c) (hcap : l ≤ cap) (hX : Row8 w a xs) (hnil : a = none → cap = 0) :
    Calls Tryz.prog 82 #[.agg #[.int .i64 r, .int .i64 c, .slice a l cap]] w fun e w' => ∃ SB t vR vM vF vB fr fm V Ms f, e = .returned (.pointer (some ⟨SB, 0, none⟩)) ∧ w.heap.size ≤ SB ∧
      SpanW w' w.heap.size SB c r t t t t vR vM vF vB fr fm V Ms f (pivL (tr (rowsF c xs)) c r) ∧ SpanOf (rowsF c xs) c r t V (madeF Ms) (f.getD · 0) ∧ Below w.heap.size w w' := by
  have HL : Hid _ := hl
  have HX : Hid _ := hx
  have HRX : Hid (Row8 w a xs) := hX
  have HNA : Hid _ := hnil
  have hA := holds_new (holds_new (holds_nil w) #[.int .i64 r, .int .i64 c, .slice a l cap] 63) #[.int .i64 c, .slice none 0 0, .slice none 0 0, .slice none 0 0, .int .i64 0, .slice none 0 0] 118
  rw [World.size_alloc] at hA
  have HA : Hid _ := hA
  have hB : Below w.heap.size w ((w.alloc (.cells #[.int .i64 r, .int .i64 c, .slice a l cap] 63)).alloc (.cells #[.int .i64 c, .slice none 0 0, .slice none 0 0, .slice none 0 0, .int .i64 0, .slice none 0 0] 118)) := ((Below.refl w.heap.size w).alloc (Nat.le_refl _) _).alloc (by simp) _
  have HB : Hid _ := hB
  clear hl hx hX hnil hA hB
  go_enter Tryz.func82, Tryz.ntmps82
  go_wp2
  generalize hW0 : ((w.alloc (.cells #[.int .i64 r, .int .i64 c, .slice a l cap] 63)).alloc (.cells #[.int .i64 c, .slice none 0 0, .slice none 0 0, .slice none 0 0, .int .i64 0, .slice none 0 0] 118)) = W0 at *
  clear hW0
  go_loopw [4] (fun i wr => ∃ k : Nat, k ≤ r ∧ i = .int .i64 k ∧ wr.heap[w.heap.size]? = some (.cells #[.int .i64 r, .int .i64 c, .slice a l cap] 63 (0, 0)) ∧ Below w.heap.size w wr ∧ Below (w.heap.size + 1) W0 wr ∧ ∃ t vR vM vF vB fr fm V Ms f,
    SpanW wr (w.heap.size + 1) (w.heap.size + 1) c k t t t t vR vM vF vB fr fm V Ms f (pivL (tr (rowsF c xs)) c k) ∧ SpanOf (rowsF c xs) c k t V (madeF Ms) (f.getD · 0)) (fun i _ => r - (intOf i).toNat)
  case atStart =>
    refine ⟨0, by omega, rfl, holds_at HA.out 1 rfl, HB.out, Below.refl _ _, 0, _, _, _, _, fun _ => (none, 0), fun _ => (none, 0), fun _ _ => 0, fun _ => [], [], ⟨holds_at HA.out 0 rfl, ⟨rfl, .inl ⟨rfl, rfl⟩⟩, ⟨rfl, .inl ⟨rfl, rfl⟩⟩, ⟨rfl, .inl ⟨rfl, rfl⟩⟩, ⟨by simp [pivL, natV], .inl ⟨rfl, rfl⟩⟩, rfl, by simp [pivL], fun i h => by omega, fun i h => by omega, fun i h => by omega, .inl rfl, .inl rfl, .inl rfl, .inl rfl⟩, SpanOf.start _ _ _ _ _⟩
  case round =>
    obtain ⟨k, hk, rfl, hbox, hbw, hb0, t, vR, vM, vF, vB, fr, fm, V, Ms, f, hsp, hso⟩ := hrel
    have c1 := cellAt hbox 0 _ rfl
    have HBOX : Hid _ := hbox
    have HBW : Hid _ := hbw
    have HB0 : Hid _ := hb0
    have HSP : Hid _ := hsp
    have HSO : Hid _ := hso
    have hsz := hsp.box
    have zz := ltHeap hsz
    clear hbox hbw hb0 hsp hso hsz
    by_cases hlt : k < r
    · have c2 := cellAt HBOX.out 1 _ rfl
      have c3 := cellAt HBOX.out 2 _ rfl
      go_wp2_with fail
      refine Calls.mono (rrow_F r c k l cap a xs _ hr hc hlt HL.out HX.out hcap (row8_below HRX.out HBW.out) HNA.out) ?_
      rintro e w2 ⟨g2, cap2, rfl, hg2, hh2, hb2⟩
      have hS2 := HSP.out.below hb2
      have HS2 : Hid _ := hS2
      have HBX2 : Hid _ := heap_later HBOX.out hb2
      have HB2 : Hid _ := hb2
      have HH2 : Hid _ := row8_has hh2
      have hsz2 := hb2.size
      have HRL : Hid ((rowAt c xs k).length = c) := rowAt_len HX.out hlt
      clear hS2 hb2 hh2 c1 c2 c3
      go_wp2_with fail
      refine Calls.mono (radd_F (rowsF c xs) (w.heap.size + 1) (w.heap.size + 1) c k t vR vM vF vB fr fm V Ms f (some ⟨g2, 0, none⟩) cap2 (rowAt c xs k) _ HS2.out HSO.out rfl hc (by omega) HRL.out HH2.out (fun h => by cases h) (by omega) (Nat.le_refl _)) ?_
      rintro e w3 ⟨rfl, hb3, t', vR', vM', vF', vB', fr', fm', V', Ms', f', hsp3, hso3⟩
      have HB3 : Hid (Below w.heap.size w w3) := (HBW.out.trans (HB2.out.mono HBW.out.size)).trans (hb3.mono (by omega))
      have HB03 : Hid (Below (w.heap.size + 1) W0 w3) := (HB0.out.trans (HB2.out.mono (by omega))).trans hb3
      have HBX3 : Hid _ := (hb3.block w.heap.size (by omega)).trans HBX2.out
      have HSP3 : Hid _ := hsp3
      have HSO3 : Hid _ := hso3
      clear hb3 hsp3 hso3
      go_wp2
      exact ⟨⟨k + 1, by omega, by go_num, HBX3.out, HB3.out, HB03.out, t', vR', vM', vF', vB', fr', fm', V', Ms', f', HSP3.out, HSO3.out⟩, by simp [intOf]; omega⟩
    · obtain rfl : k = r := by omega
      go_wp2
      go_ret
      have h := HSP.out
      exact ⟨w.heap.size + 1, t, vR, vM, vF, vB, fr, fm, V, Ms, f, rfl, by omega, ⟨h.box, own_lower h.rows (by omega), own_lower h.made (by omega), own_lower h.firsts (by omega), own_lower h.basis (by omega), h.fl, h.bl, h.rowT, h.madeT, h.ml, h.ne1, h.ne2, h.ne3, h.ne4⟩, HSO.out, HBW.out⟩
theorem rrank_F (r c l cap : Nat) (a : Option Addr) (xs : List F) (w : World) (hr : r ≤ 64) (hc : c ≤ 64) (hl : l = r * c) (hx : xs.length = r * c) (hcap : l ≤ cap) (hX : Row8 w a xs) (hnil : a = none → cap = 0) :
    Calls Tryz.prog 62 #[.agg #[.int .i64 r, .int .i64 c, .slice a l cap]] w fun e w' => e = .returned (.int .i64 (pivL (cellF c xs) r c).length) ∧ Below w.heap.size w w' := by
  have H : Hid _ := rof_F r c l cap a xs (w.alloc (.cells #[.int .i64 r, .int .i64 c, .slice a l cap] 63)) hr hc hl hx hcap (row8_alloc hX _) hnil
  clear hl hx hX hnil
  go_enter Tryz.func62, Tryz.ntmps62
  go_wp2_with fail
  refine Calls.mono H.out ?_
  rintro e w2 ⟨SB, t, vR, vM, vF, vB, fr, fm, V, Ms, f, rfl, hSB, hsp, hso, hb⟩
  obtain ⟨aB, cB, rfl⟩ := own_shape hsp.basis
  have ht : t = (pivL (cellF c xs) r c).length := by rw [← rk_tr, ← pivL_congr tr_rowsF]; exact hso.len
  have HT : Hid _ := ht
  have c1 := cellAt hsp.box 5 _ rfl
  have HB : Hid (Below w.heap.size w w2) := ((Below.refl w.heap.size w).alloc (Nat.le_refl _) _).trans (hb.mono (by simp))
  clear hsp hso hb ht H
  go_wp2
  go_ret
  exact ⟨by rw [← HT.out]; rfl, HB.out⟩
end Go.Proofs.YtjmbpldkggbdlaaGreatDoor

/- The document's own Kind, Text, Rank and Gone of lost halves. -/
namespace Go.Proofs.YtjmbpldkggbdlaaGreatDoor
open Go.RowKit Go.Maps Gf
set_option linter.unusedVariables false
set_option maxRecDepth 20000
set_option maxHeartbeats 2000000 in
theorem rkind_F (k r : Int) (kn l cap : Nat) (a : Option Addr) (ns : List Nat) (w : World) (hk : k = kn) (h3 : kn ≤ 16) (hl : l = ns.length) (hl9 : l ≤ 32) (hX : RowI w a (natJ8 ns)) :
    Calls Tryz.prog 23 #[.int .i64 k, .int .i64 r, .slice a l cap] w fun e w' => e = .returned (.int .i64 (kindN kn ns)) ∧ w = w' := by
  subst hk
  have HL : Hid (l = ns.length) := hl
  have HX : Hid (RowI w a (natJ8 ns)) := hX
  obtain ⟨d, hd⟩ : ∃ d, d = kindN kn ns := ⟨_, rfl⟩
  rw [← hd]
  have H0 : Hid (ns = [] → d = 0) := fun h => by rw [hd, kindN, if_pos h]
  have H1 : Hid (ns ≠ [] → (∃ j, j < kn ∧ ns = [2 * j, 2 * j + 1]) → d = 1) := fun h h2 => by rw [hd, kindN, if_neg h, if_pos h2]
  have H2 : Hid (ns ≠ [] → (¬ ∃ j, j < kn ∧ ns = [2 * j, 2 * j + 1]) → d = 2) := fun h h2 => by rw [hd, kindN, if_neg h, if_neg h2]
  clear hl hX hd
  by_cases h0 : l = 0
  · have HD : Hid _ := H0.out (List.eq_nil_of_length_eq_zero (by rw [← HL.out]; exact h0))
    clear H0 H1 H2 HX
    subst h0
    go_enter Tryz.func23, Tryz.ntmps23
    go_wp2
    go_ret
    exact ⟨by rw [HD.out]; rfl, rfl⟩
  have HNE : Hid (ns ≠ []) := fun h => h0 (by rw [HL.out, h]; rfl)
  go_enter Tryz.func23, Tryz.ntmps23
  go_wp2
  have e0 : ((l : Int) == 0) = false := by
    rw [beq_eq_false_iff_ne]; omega
  try rw [e0]
  clear e0
  go_loopw [7] (fun i wr => ∃ j : Nat, j ≤ kn ∧ i = .int .i64 j ∧ wr = w ∧ (∀ q, q < j → ns ≠ [2 * q, 2 * q + 1])) (fun i _ => kn - (intOf i).toNat)
  case atStart => exact ⟨0, by omega, rfl, rfl, fun q h => by omega⟩
  case round =>
    obtain ⟨j, hj, rfl, rfl, hq⟩ := hrel
    have HQ : Hid (∀ q, q < j → ns ≠ [2 * q, 2 * q + 1]) := hq
    clear hq
    by_cases hlt : j < kn
    · by_cases h2 : l = 2
      · obtain ⟨x, y, hxy⟩ : ∃ x y, ns = [x, y] := by
          have := HL.out
          match ns, (show ns.length = 2 by omega) with
          | [x, y], _ => exact ⟨x, y, rfl⟩
        have HXY : Hid _ := hxy
        obtain ⟨b, off, rfl, hb, hc⟩ := rowI_cell HX.out (show 0 < (natJ8 ns).length by rw [natJ8_len, ← HL.out, h2]; omega)
        have c0 := hc 0 (by rw [natJ8_len, ← HL.out, h2]; omega)
        have c1 := hc 1 (by rw [natJ8_len, ← HL.out, h2]; omega)
        rw [show (natJ8 ns).getD 0 0 = (x : Int) by rw [hxy]; rfl, Nat.add_zero] at c0
        rw [show (natJ8 ns).getD 1 0 = (y : Int) by rw [hxy]; rfl] at c1
        clear hc hxy HX
        subst h2
        by_cases q1 : x = 2 * j
        · by_cases q2 : y = 2 * j + 1
          · have HD : Hid _ := H1.out HNE.out ⟨j, hlt, by rw [HXY.out, q1, q2]⟩
            have e1 : ((x : Int) == 2 * (j : Int)) = true := by rw [beq_iff_eq]; omega
            have e2 : ((y : Int) == 2 * (j : Int) + 1) = true := by rw [beq_iff_eq]; omega
            clear q1 q2 H0 H1 H2
            go_wp2
            go_ret
            exact ⟨by rw [HD.out]; rfl, rfl⟩
          · have e1 : ((x : Int) == 2 * (j : Int)) = true := by rw [beq_iff_eq]; omega
            have e2 : ((y : Int) == 2 * (j : Int) + 1) = false := by rw [beq_eq_false_iff_ne]; omega
            have HS : Hid (ns ≠ [2 * j, 2 * j + 1]) := fun h => q2 (by have := HXY.out.symm.trans h; simp at this; exact this.2)
            clear q1 q2
            go_wp2
            refine ⟨⟨j + 1, by omega, by go_num, by first | rfl | trivial, fun q hq => ?_⟩, by simp [intOf]; omega⟩
            by_cases hqj : q < j
            · exact HQ.out q hqj
            · obtain rfl : q = j := by omega
              exact HS.out
        · have e1 : ((x : Int) == 2 * (j : Int)) = false := by rw [beq_eq_false_iff_ne]; omega
          have HS : Hid (ns ≠ [2 * j, 2 * j + 1]) := fun h => q1 (by have := HXY.out.symm.trans h; simp at this; exact this.1)
          clear q1
          go_wp2
          refine ⟨⟨j + 1, by omega, by go_num, by first | rfl | trivial, fun q hq => ?_⟩, by simp [intOf]; omega⟩
          by_cases hqj : q < j
          · exact HQ.out q hqj
          · obtain rfl : q = j := by omega
            exact HS.out
      · have HS : Hid (ns ≠ [2 * j, 2 * j + 1]) := fun h => h2 (by rw [HL.out, h]; rfl)
        have e3 : ((l : Int) == 2) = false := by rw [beq_eq_false_iff_ne]; omega
        go_wp2
        refine ⟨⟨j + 1, by omega, by go_num, by first | rfl | trivial, fun q hq => ?_⟩, by simp [intOf]; omega⟩
        by_cases hqj : q < j
        · exact HQ.out q hqj
        · obtain rfl : q = j := by omega
          exact HS.out
    · obtain rfl : j = kn := by omega
      have HD : Hid _ := H2.out HNE.out (fun ⟨q, hq, h⟩ => HQ.out q hq h)
      clear H0 H1 H2
      go_wp2
      go_ret
      exact ⟨by rw [HD.out]; rfl, rfl⟩
end Go.Proofs.YtjmbpldkggbdlaaGreatDoor

/- The document's own Text, Rank and Gone of lost halves. -/
namespace Go.Proofs.YtjmbpldkggbdlaaGreatDoor
open Go.RowKit Go.Maps Gf
set_option linter.unusedVariables false
set_option maxRecDepth 20000
def preT (k : Nat) (ns : List Nat) : List UInt8 := Lib.join (ns.map (nameB k)) [44]
theorem joinTail_snoc (sep x : List UInt8) (r : List (List UInt8)) : Lib.joinTail sep (r ++ [x]) = Lib.joinTail sep r ++ (sep ++ x) := by simp [Lib.joinTail]
theorem preT_snoc (k x : Nat) : ∀ ns : List Nat, preT k (ns ++ [x]) = if ns = [] then nameB k x else preT k ns ++ [44] ++ nameB k x
  | [] => by simp [preT, Lib.join_one]
  | y :: ns => by
    rw [if_neg (by simp)]
    simp only [preT, List.cons_append, List.map_cons, List.map_append, List.map_nil]
    rw [Lib.join_cons, Lib.join_cons, joinTail_snoc]
    simp [List.append_assoc]
theorem preT_len {k : Nat} (hk : k < 15) {ns : List Nat} (h : ∀ x ∈ ns, x < 32) : (preT k ns).length ≤ 5 * ns.length := by
  have hs := join_short hk ns h
  cases ns with
  | nil => simp [preT, Lib.join_nil]
  | cons x ns =>
    rw [List.map_cons] at hs
    rw [preT, List.map_cons, Lib.join_length]
    simp only [List.length_cons, List.length_nil, List.length_map] at *
    omega
theorem preT_ne {k : Nat} (hk : k < 15) {ns : List Nat} (h : ∀ x ∈ ns, x < 32) (h0 : ns ≠ []) : 1 ≤ (preT k ns).length := by
  cases ns with
  | nil => exact absurd rfl h0
  | cons x ns =>
    have := (nameB_len k hk x (h x (by simp))).1
    rw [preT, List.map_cons, Lib.join_length]
    simp only [Lib.lens, List.map_cons, List.sum_cons] at *
    omega
set_option maxHeartbeats 4000000 in
theorem rtext_F (k l cap : Nat) (r : Int) (a : Option Addr) (ns : List Nat) (w : World) (hk : k < 15) (hl : l = ns.length) (hl9 : l ≤ 32) (hX : RowI w a (natJ8 ns)) (hr : ∀ x ∈ ns, x < 32) :
    Calls Tryz.prog 25 #[.int .i64 k, .int .i64 r, .slice a l cap] w fun e w' => e = .returned (.string (strB (textB k ns))) ∧ Below w.heap.size w w' := by
  have HL : Hid (l = ns.length) := hl
  have HX : Hid (RowI w a (natJ8 ns)) := hX
  have HR : Hid (∀ x ∈ ns, x < 32) := hr
  have HT : Hid (textB k ns = if ns = [] then [110, 111, 110, 101] else preT k ns) := rfl
  clear hl hX hr
  go_enter Tryz.func25, Tryz.ntmps25
  go_wp2
  go_loopw [12, 7] (fun i v wr => ∃ (j : Nat) (S : ByteArray), j ≤ l ∧ i = .int .i64 j ∧ v = .string S ∧ S = strB (preT k (ns.take j)) ∧ Below w.heap.size w wr) (fun i _ _ => l - (intOf i).toNat)
  case atStart => exact ⟨0, _, by omega, rfl, rfl, rfl, Below.refl _ _⟩
  case round =>
    obtain ⟨j, S, hj, rfl, rfl, hS, hb⟩ := hrel
    have HB : Hid _ := hb
    have HS : Hid (S = strB (preT k (ns.take j))) := hS
    have hsz : S.size ≤ 160 := by
      rw [hS, strB_size]
      have := preT_len hk (ns := ns.take j) (fun x hx => HR.out x (List.mem_of_mem_take hx))
      rw [List.length_take] at this
      omega
    clear hb hS
    by_cases hlt : j < l
    · have hin : j < ns.length := by rw [← HL.out]; exact hlt
      obtain ⟨b, off, hab, hbl, hc⟩ := rowI_cell (rowI_below HX.out HB.out) (show j < (natJ8 ns).length by rw [natJ8_len]; exact hin)
      have c1 := hc j (by rw [natJ8_len]; exact hin)
      rw [show (natJ8 ns).getD j 0 = ((ns[j] : Nat) : Int) by simp [natJ8, List.getD, hin]] at c1
      have hx9 := HR.out _ (List.getElem_mem hin)
      have HTK : Hid (ns.take (j + 1) = ns.take j ++ [ns[j]]) := List.take_succ_eq_append_getElem hin
      generalize ns[j] = x at *
      have hz4 : (strB (nameB k x)).size ≤ 4 := by rw [strB_size]; exact (nameB_len k hk x hx9).2
      have HP : Hid _ := preT_snoc k x (ns.take j)
      clear hc
      subst hab
      by_cases h0 : j = 0
      · have HN : Hid (S ++ strB (nameB k x) = strB (preT k (ns.take (j + 1)))) := by
          show _ = _
          rw [HTK.out, HP.out, HS.out, h0, List.take_zero, if_pos rfl]
          simp only [preT, List.map_nil, Lib.join_nil]
          rw [strB_app]; rfl
        subst h0
        rw [Nat.add_zero] at c1
        go_wp2_with fail
        refine Calls.mono (rname_F k x _ (by omega) (by omega)) ?_
        rintro e w4 ⟨rfl, hb4⟩
        have HB4 : Hid _ := HB.out.trans (hb4.mono HB.out.size)
        clear hb4 c1
        go_wp2
        exact ⟨⟨1, _, by omega, by go_num, rfl, HN.out, HB4.out⟩, by simp [intOf]; omega⟩
      · have HN : Hid (S ++ ⟨#[44]⟩ ++ strB (nameB k x) = strB (preT k (ns.take (j + 1)))) := by
          show _ = _
          rw [HTK.out, HP.out, HS.out, if_neg (fun h => h0 (by have := congrArg List.length h; rw [List.length_take, List.length_nil] at this; omega))]
          rw [strB_one, strB_app, strB_app]
        go_wp2_with fail
        refine Calls.mono (rname_F k x _ (by omega) (by omega)) ?_
        rintro e w4 ⟨rfl, hb4⟩
        have HB4 : Hid _ := HB.out.trans (hb4.mono HB.out.size)
        clear hb4 c1
        go_wp2
        exact ⟨⟨j + 1, _, by omega, by go_num, rfl, HN.out, HB4.out⟩, by simp [intOf]; omega⟩
    · obtain rfl : j = l := by omega
      have hS := HS.out
      rw [show ns.take j = ns by rw [HL.out, List.take_length]] at hS
      by_cases h0 : ns = []
      · have HT2 : Hid (textB k ns = [110, 111, 110, 101]) := by have := HT.out; rwa [if_pos h0] at this
        have hS2 : S = ⟨#[]⟩ := by rw [hS, h0]; rfl
        clear HS hS
        subst hS2
        go_wp2
        go_ret
        exact ⟨by rw [HT2.out]; rfl, HB.out⟩
      · have HT2 : Hid (textB k ns = preT k ns) := by have := HT.out; rwa [if_neg h0] at this
        have hne := preT_ne hk HR.out h0
        have he : S.toList.isEmpty = false := by
          rw [hS]
          exact strB_some fun h => by
            have h9 : (preT k ns).length = 0 := congrArg List.length h
            omega
        have HS2 : Hid (S = strB (preT k ns)) := hS
        clear HS hS hne
        go_wp2
        go_ret
        exact ⟨by rw [HT2.out, ← HS2.out]; rfl, HB.out⟩
end Go.Proofs.YtjmbpldkggbdlaaGreatDoor

/- Texts of lost halves as plain lists: cut at commas, read name by name, and written back; no program is spoken of. -/
namespace Go.Proofs.YtjmbpldkggbdlaaGreatDoor
open Go.RowKit Gf
set_option linter.unusedVariables false
set_option maxRecDepth 20000
/-- the pieces between commas -/
def splitC : List UInt8 → List (List UInt8)
  | [] => [[]]
  | c :: l => if c = 44 then [] :: splitC l else ((c :: (splitC l).headD []) :: (splitC l).tail)
theorem splitC_ne (l : List UInt8) : splitC l ≠ [] := by
  cases l with
  | nil => simp [splitC]
  | cons c l => rw [splitC]; split <;> simp
theorem splitC_none : ∀ {l : List UInt8}, 44 ∉ l → splitC l = [l]
  | [], _ => rfl
  | c :: l, h => by
    have h1 : c ≠ 44 := fun e => h (by simp [e])
    have h2 := splitC_none (l := l) (fun hh => h (List.mem_cons_of_mem _ hh))
    rw [splitC, if_neg h1, h2]; rfl
theorem splitC_comma : ∀ {a : List UInt8} (b : List UInt8), 44 ∉ a → splitC (a ++ 44 :: b) = a :: splitC b
  | [], b, _ => by simp [splitC]
  | c :: a, b, h => by
    have h1 : c ≠ 44 := fun e => h (by simp [e])
    have h2 := splitC_comma (a := a) b (fun hh => h (List.mem_cons_of_mem _ hh))
    rw [List.cons_append, splitC, if_neg h1, h2]; rfl
theorem join_split : ∀ l : List UInt8, Lib.join (splitC l) [44] = l
  | [] => by simp [splitC, Lib.join_one]
  | c :: l => by
    have ih := join_split l
    obtain ⟨p, ps, hp⟩ : ∃ p ps, splitC l = p :: ps := by
      cases h : splitC l with
      | nil => exact absurd h (splitC_ne l)
      | cons p ps => exact ⟨p, ps, rfl⟩
    rw [hp, Lib.join_cons] at ih
    rw [splitC, hp]
    split
    · rename_i e
      rw [Lib.join_cons, e, ← ih]
      simp [Lib.joinTail]
    · simp only [List.headD_cons, List.tail_cons]
      rw [Lib.join_cons, ← ih]; rfl
theorem split_join : ∀ {ps : List (List UInt8)}, ps ≠ [] → (∀ p ∈ ps, 44 ∉ p) → splitC (Lib.join ps [44]) = ps
  | [], h, _ => absurd rfl h
  | [p], _, h => by rw [Lib.join_one]; exact splitC_none (h p (by simp))
  | p :: q :: ps, _, h => by
    have ih := split_join (ps := q :: ps) (by simp) (fun x hx => h x (List.mem_cons_of_mem _ hx))
    have e : Lib.join (p :: q :: ps) [44] = p ++ 44 :: Lib.join (q :: ps) [44] := by
      rw [Lib.join_cons, Lib.join_cons]
      simp [Lib.joinTail]
    rw [e, splitC_comma _ (h p (by simp)), ih]
/-- where a byte first stands -/
theorem ix_spec (c : UInt8) : ∀ m : List UInt8, (Lib.indexByte m c = -1 ∧ c ∉ m) ∨ ∃ i : Nat, Lib.indexByte m c = i ∧ i < m.length ∧ m = m.take i ++ c :: m.drop (i + 1) ∧ c ∉ m.take i
  | [] => .inl ⟨rfl, by simp⟩
  | b :: m => by
    rw [Lib.indexByte]
    by_cases h : b = c
    · subst h
      exact .inr ⟨0, by simp, by simp, by simp, by simp⟩
    · rw [if_neg (by simpa using h)]
      rcases ix_spec c m with ⟨h1, h2⟩ | ⟨i, h1, h2, h3, h4⟩
      · rw [if_pos (by simp [h1])]
        exact .inl ⟨rfl, fun hh => by rcases List.mem_cons.1 hh with e | e; exact h e.symm; exact h2 e⟩
      · rw [if_neg (by rw [h1]; simp), h1]
        refine .inr ⟨i + 1, by omega, by simp; omega, ?_, ?_⟩
        · simp only [List.take_succ_cons, List.drop_succ_cons, List.cons_append]
          rw [← h3]
        · simp only [List.take_succ_cons, List.mem_cons, not_or]
          exact ⟨fun e => h e.symm, h4⟩
/-- the half of a name -/
def nameIx (k n : Nat) (p : List UInt8) : Option Nat := (List.range n).find? fun h => decide (nameB k h = p)
theorem nameIx_some {k n h : Nat} {p : List UInt8} (e : nameIx k n p = some h) : h < n ∧ nameB k h = p := by
  have h1 := List.find?_some e
  have h2 := List.mem_of_find?_eq_some e
  exact ⟨List.mem_range.1 h2, of_decide_eq_true h1⟩
theorem nameIx_of {k n h : Nat} {p : List UInt8} (hk : k < 15) (hn : n ≤ 32) (hh : h < n) (e : nameB k h = p) : nameIx k n p = some h := by
  cases hf : nameIx k n p with
  | none =>
    have := List.find?_eq_none.1 hf h (List.mem_range.2 hh)
    simp [e] at this
  | some q =>
    obtain ⟨h1, h2⟩ := nameIx_some hf
    rw [nameB_inj k hk q (by omega) h (by omega) (h2.trans e.symm)]
theorem nameIx_no {k n : Nat} {p : List UInt8} (h : ∀ x, x < n → nameB k x ≠ p) : nameIx k n p = none := by
  cases hf : nameIx k n p with
  | none => rfl
  | some q => obtain ⟨h1, h2⟩ := nameIx_some hf; exact absurd h2 (h q h1)
/-- one name more -/
def stepC (k n : Nat) (acc : List Nat) (p : List UInt8) : Option (List Nat) :=
  match nameIx k n p with
  | none => none
  | some h => if acc = [] ∨ acc.getD (acc.length - 1) 0 < h then some (acc ++ [h]) else none
def readC (k n : Nat) (ps : List (List UInt8)) : Option (List Nat) := ps.foldlM (stepC k n) []
theorem readC_nil (k n : Nat) : readC k n [] = some [] := rfl
theorem readC_snoc (k n : Nat) (ps : List (List UInt8)) (p : List UInt8) : readC k n (ps ++ [p]) = (readC k n ps).bind fun acc => stepC k n acc p := by
  simp only [readC, List.foldlM_append, List.foldlM_cons, List.foldlM_nil]
  cases List.foldlM (stepC k n) [] ps with
  | none => rfl
  | some a => show (stepC k n a p).bind some = stepC k n a p; cases stepC k n a p <;> rfl
theorem readC_dead {k n : Nat} {ps qs : List (List UInt8)} (h : readC k n ps = none) : readC k n (ps ++ qs) = none := by
  have e : readC k n (ps ++ qs) = (readC k n ps).bind fun acc => qs.foldlM (stepC k n) acc := by rw [readC, List.foldlM_append]; rfl
  rw [e, h]; rfl
theorem last_nat {ns : List Nat} (h : ns.Pairwise (· < ·)) {x : Nat} (hx : ns = [] ∨ ns.getD (ns.length - 1) 0 < x) : ∀ y ∈ ns, y < x := by
  rcases hx with rfl | hx
  · intro y hy; cases hy
  · intro y hy
    obtain ⟨i, hi, e⟩ := List.getElem_of_mem hy
    have hl : ns.length - 1 < ns.length := by omega
    rw [List.getD, List.getElem?_eq_getElem hl, Option.getD_some] at hx
    by_cases e2 : i = ns.length - 1
    · subst e2; rw [← e]; exact hx
    · have := List.pairwise_iff_getElem.1 h i (ns.length - 1) hi hl (by omega)
      rw [← e]; omega
theorem stepC_good {k n : Nat} {acc acc' : List Nat} {p : List UInt8} (h1 : acc.Pairwise (· < ·)) (h2 : ∀ x ∈ acc, x < n) (h : stepC k n acc p = some acc') : acc'.Pairwise (· < ·) ∧ (∀ x ∈ acc', x < n) ∧ ∃ x, acc' = acc ++ [x] ∧ nameB k x = p := by
  unfold stepC at h
  cases hf : nameIx k n p with
  | none => rw [hf] at h; cases h
  | some x =>
    rw [hf] at h
    obtain ⟨hx, hxp⟩ := nameIx_some hf
    by_cases hr : acc = [] ∨ acc.getD (acc.length - 1) 0 < x
    · simp only [if_pos hr] at h
      cases h
      refine ⟨List.pairwise_append.2 ⟨h1, by simp, fun y hy z hz => ?_⟩, fun y hy => ?_, x, rfl, hxp⟩
      · rw [List.mem_singleton.1 hz]; exact last_nat h1 hr y hy
      · rcases List.mem_append.1 hy with h | h
        · exact h2 y h
        · rw [List.mem_singleton.1 h]; exact hx
    · simp only [if_neg hr] at h
      cases h
theorem readC_good {k n : Nat} (ps : List (List UInt8)) {acc : List Nat} (h0 : readC k n ps = some acc) : acc.Pairwise (· < ·) ∧ (∀ x ∈ acc, x < n) ∧ acc.map (nameB k) = ps := by
  suffices H : ∀ m (ps : List (List UInt8)), ps.length = m → ∀ (acc : List Nat), readC k n ps = some acc → acc.Pairwise (· < ·) ∧ (∀ x ∈ acc, x < n) ∧ acc.map (nameB k) = ps from H _ ps rfl acc h0
  intro m
  induction m with
  | zero =>
    intro ps hl acc h
    have e : ps = [] := List.eq_nil_of_length_eq_zero hl
    subst e
    cases h
    exact ⟨List.Pairwise.nil, fun x hx => (by cases hx), rfl⟩
  | succ m ih =>
    intro ps hl acc h
    obtain ⟨qs, q, rfl⟩ : ∃ qs q, ps = qs ++ [q] := ⟨ps.dropLast, ps.getLast (fun e => by rw [e] at hl; cases hl), (List.dropLast_concat_getLast _).symm⟩
    rw [readC_snoc] at h
    cases hq : readC k n qs with
    | none => rw [hq] at h; cases h
    | some a =>
      rw [hq] at h
      obtain ⟨i1, i2, i3⟩ := ih qs (by simpa using hl) _ hq
      obtain ⟨j1, j2, x, rfl, hx⟩ := stepC_good i1 i2 h
      exact ⟨j1, j2, by rw [List.map_append, i3, List.map_cons, hx, List.map_nil]⟩
/-- the lost halves of a text -/
def parseC (k n : Nat) (t : List UInt8) : Option (List Nat) := if t = [110, 111, 110, 101] then some [] else readC k n (splitC t)
theorem parseC_good {k n : Nat} {t : List UInt8} {acc : List Nat} (h : parseC k n t = some acc) : acc.Pairwise (· < ·) ∧ (∀ x ∈ acc, x < n) ∧ textB k acc = t := by
  unfold parseC at h
  by_cases ht : t = [110, 111, 110, 101]
  · rw [if_pos ht] at h
    cases h
    exact ⟨List.Pairwise.nil, fun x hx => (by cases hx), by rw [textB, if_pos rfl, ht]⟩
  · rw [if_neg ht] at h
    obtain ⟨h1, h2, h3⟩ := readC_good _ h
    have hne : acc ≠ [] := fun e => by rw [e] at h3; exact splitC_ne t h3.symm
    exact ⟨h1, h2, by rw [textB, if_neg hne, h3, join_split]⟩
theorem name_comma : ∀ k < 15, ∀ h < 32, 44 ∉ nameB k h ∧ (nameB k h).getD 0 0 ≠ 110 := by decide +kernel
theorem readC_names {k n : Nat} (hk : k < 15) (hn : n ≤ 32) : ∀ (ns : List Nat), ns.Pairwise (· < ·) → (∀ x ∈ ns, x < n) → readC k n (ns.map (nameB k)) = some ns := fun ns => by
  suffices H : ∀ m (ns : List Nat), ns.length = m → ns.Pairwise (· < ·) → (∀ x ∈ ns, x < n) → readC k n (ns.map (nameB k)) = some ns from H _ ns rfl
  intro m
  induction m with
  | zero =>
    intro ns hl _ _
    have e : ns = [] := List.eq_nil_of_length_eq_zero hl
    subst e
    rfl
  | succ m ih =>
    intro ns hl h1 h2
    obtain ⟨qs, q, rfl⟩ : ∃ qs q, ns = qs ++ [q] := ⟨ns.dropLast, ns.getLast (fun e => by rw [e] at hl; cases hl), (List.dropLast_concat_getLast _).symm⟩
    obtain ⟨p1, _, p2⟩ := List.pairwise_append.1 h1
    rw [List.map_append, List.map_cons, List.map_nil, readC_snoc, ih qs (by simpa using hl) p1 (fun x hx => h2 x (List.mem_append_left _ hx))]
    show stepC k n qs (nameB k q) = _
    unfold stepC
    rw [nameIx_of hk hn (h2 q (by simp)) rfl]
    have hr : qs = [] ∨ qs.getD (qs.length - 1) 0 < q := by
      by_cases e : qs = []
      · exact .inl e
      · have hl : qs.length - 1 < qs.length := by have := List.length_pos_iff.2 e; omega
        right
        rw [List.getD, List.getElem?_eq_getElem hl, Option.getD_some]
        exact p2 _ (List.getElem_mem hl) q (by simp)
    simp only [if_pos hr]
theorem parse_text {k n : Nat} (hk : k < 15) (hn : n ≤ 32) {ns : List Nat} (h1 : ns.Pairwise (· < ·)) (h2 : ∀ x ∈ ns, x < n) : parseC k n (textB k ns) = some ns := by
  by_cases h0 : ns = []
  · subst h0; rw [textB, if_pos rfl, parseC, if_pos rfl]
  · have hsp : splitC (Lib.join (ns.map (nameB k)) [44]) = ns.map (nameB k) := split_join (by simpa using h0) (fun p hp => by
      obtain ⟨x, hx, rfl⟩ := List.mem_map.1 hp
      exact (name_comma k hk x (by have := h2 x hx; omega)).1)
    have hno : Lib.join (ns.map (nameB k)) [44] ≠ [110, 111, 110, 101] := fun e => by
      rw [e] at hsp
      have e2 : splitC [110, 111, 110, 101] = [[110, 111, 110, 101]] := by decide
      rw [e2] at hsp
      cases ns with
      | nil => exact h0 rfl
      | cons x ns =>
        simp only [List.map_cons, List.cons.injEq] at hsp
        have h9 := (name_comma k hk x (by have := h2 x (by simp); omega)).2
        rw [← hsp.1] at h9
        exact h9 rfl
    rw [textB, if_neg h0, parseC, if_neg hno, hsp, readC_names hk hn ns h1 h2]
end Go.Proofs.YtjmbpldkggbdlaaGreatDoor

/- A range over the pieces of a text: what strings.SplitSeq answers, and what its iterator does with a loop's rounds; the iterator keeps the rest of the text in a cell of its own. -/
namespace Go.Proofs.YtjmbpldkggbdlaaGreatDoor
open Go.RowKit Go.Shelf Gf
set_option linter.unusedVariables false
set_option maxRecDepth 20000
attribute [local go_sem] Oper.semAt_some
set_option maxHeartbeats 2000000 in
/-- three boxes: the text, the comma, nought -/
theorem splitSeq_F (S : ByteArray) (w : World) : Calls Tryz.prog 41 #[.string S, .string ⟨#[44]⟩] w fun e w' =>
    e = .returned (.func (.func 83) #[] #[.pointer (some ⟨w.heap.size + 1, 0, none⟩), .pointer (some ⟨w.heap.size, 0, none⟩), .pointer (some ⟨w.heap.size + 2, 0, none⟩)]) ∧
    w' = ((w.alloc (.cells #[.string S] 9)).alloc (.cells #[.string ⟨#[44]⟩] 9)).alloc (.cells #[.int .i64 0] 3) := by
  go_enter Tryz.func41, Tryz.ntmps41
  go_wp2
  go_ret
  exact ⟨rfl, rfl⟩
/-- one round of a loop: its body walked once -/
theorem round_at {F : Fence} {m : Nat} {P : Program} {R Rb Rd : Loop} {l : Nat} {args : Array Value} {W : World} {a1 : Act} {Go : World → Prop} {Out : Code → World → Prop}
    (hRb : Rb = { R with state := .busy }) (hRd : Rd = { R with state := .done, pending := some .ret })
    (hF : F.fn R.fn) (hl : W.heap[l]? = some (.loop R)) (hs : args.size = R.params.size) (hst : R.state = .ready) (hpe : R.pending = none)
    (hassign : ∀ K : Act → World → Prop, K a1 W → R.assign.wpIn (F.inRound l) m P (Exit.then K (fun _ _ _ => False)) { tmps := (R.params.zip args).foldl (fun t (p, v) => t.setIfInBounds p v) R.tmps, defers := [] } W)
    (hbody : R.body.wpIn (F.inRound l) m P (fun e _ U => match e with
      | .normal => U.heap[l]? = some (.loop Rb) ∧ Go U
      | .ret => U.heap[l]? = some (.loop Rb) ∧ Out .ret U
      | _ => False) a1 (W.putObj l (.loop Rb))) :
    YieldAt F m P l args W fun e U' => (e = .returned (.bool true) ∧ ∃ U, U.heap[l]? = some (.loop Rb) ∧ Go U ∧ U' = U.putObj l (.loop R)) ∨
      (e = .returned (.bool false) ∧ ∃ U, U.heap[l]? = some (.loop Rb) ∧ Out .ret U ∧ U' = U.putObj l (.loop Rd)) := by
  subst hRb hRd
  refine ⟨R.fn, _, R.assign, R.body, run_yield hl hs, roundIn_of_wpIn hF (hassign _ ⟨_, run_beginRound hl hst, wpIn_mono hbody ?_⟩)⟩
  rintro e a U h
  cases e with
  | normal =>
    refine ⟨_, _, run_endRound none h.1, .inl ⟨rfl, U, h.1, h.2, ?_⟩⟩
    obtain ⟨_, _⟩ := R
    simp_all
  | ret =>
    refine ⟨_, _, run_endRound (some .ret) h.1, .inr ⟨rfl, U, h.1, h.2, ?_⟩⟩
    rfl
  | exit id => exact h.elim
  | goto t => exact h.elim
  | panic ch => exact h.elim
  | outgrown => exact h.elim
/-- how much of the text is left -/
def restN (bs : Nat) (w : World) : Nat := match w.cell? ⟨bs, 0, none⟩ with
  | some (.string b) => b.size
  | _ => 0
theorem restN_at {bs : Nat} {w : World} {S : ByteArray} (h : w.cell? ⟨bs, 0, none⟩ = some (.string S)) : restN bs w = S.size := by unfold restN; rw [h]
theorem pre_step {α : Type} {t pre r : List α} {x : α} (h : t = pre ++ x :: r) : pre ++ [x] <+: t := ⟨r, by rw [h]; simp⟩
set_option maxHeartbeats 8000000 in
theorem split1_in (n : Nat) (hn : 1 ≤ n) (l bs : Nat) (t : List UInt8) (ht : t.length ≤ 140737488355328) (J Jx : List (List UInt8) → World → Prop)
    (hbx : ∀ pre W, J pre W → W.heap[bs + 1]? = some (.cells #[.string ⟨#[44]⟩] 9 (0, 0)) ∧ W.heap[bs + 2]? = some (.cells #[.int .i64 0] 3 (0, 0)))
    (hset : ∀ pre W S S', J pre W → W.heap[bs]? = some (.cells #[.string S] 9 (0, 0)) → J pre (W.setCell ⟨bs, 0, none⟩ (.string S')))
    (hY : ∀ pre x W, pre ++ [x] <+: splitC t → J pre W → YieldAt Fence.wide (n - 1) Tryz.prog l #[.string (strB x)] W fun e W' =>
      (e = .returned (.bool true) ∧ J (pre ++ [x]) W' ∧ W'.heap[bs]? = W.heap[bs]?) ∨ (e = .returned (.bool false) ∧ Jx (pre ++ [x]) W'))
    (W0 : World) (h0 : J [] W0) (hs : W0.heap[bs]? = some (.cells #[.string (strB t)] 9 (0, 0))) :
    CallsIn Fence.wide n Tryz.prog 83 #[.func (.yield l) #[] #[], .pointer (some ⟨bs + 1, 0, none⟩), .pointer (some ⟨bs, 0, none⟩), .pointer (some ⟨bs + 2, 0, none⟩)] W0 fun e W' => (∃ v, e = .returned v) ∧
      (J (splitC t) W' ∨ ∃ pre, pre <+: splitC t ∧ Jx pre W') := by
  have HBX : Hid _ := hbx
  have HSET : Hid _ := hset
  have HY : Hid _ := hY
  have c1 := cellAt (hbx _ _ h0).1 0 _ rfl
  have H0 : Hid _ := h0
  have HS : Hid _ := hs
  clear hbx hset hY h0 hs
  refine callsIn_of_wp Tryz.func83 rfl trivial ?_ rfl
  simp only [Tryz.ntmps83, List.size_toArray, List.length_cons, List.length_nil, Nat.reduceAdd, Nat.reduceSub, Array.replicate_succ, Array.replicate_zero, List.push_toArray, List.append_toArray, List.nil_append, List.cons_append]
  gi_wp2
  gi_loopw [7] (fun _ wr => ∃ pre s, splitC t = pre ++ splitC s ∧ s.length ≤ t.length ∧ J pre wr ∧ wr.heap[bs]? = some (.cells #[.string (strB s)] 9 (0, 0))) (fun _ wr => restN bs wr)
  case atStart => exact ⟨[], t, rfl, Nat.le_refl _, H0.out, HS.out⟩
  case round =>
    obtain ⟨pre, s, hsp, hsl, hJ, hb⟩ := hrel
    have hx := HBX.out _ _ hJ
    have c1 := cellAt hx.1 0 _ rfl
    have c2 := cellAt hx.2 0 _ rfl
    have c0 := cellAt hb 0 _ rfl
    have HRN : Hid (restN bs wr = s.length) := by show _ = _; rw [restN_at c0, strB_size]
    rcases ix_spec 44 s with ⟨e1, e2⟩ | ⟨i, e1, e2, e3, e4⟩
    · have hfull : splitC t = pre ++ [s] := by rw [hsp, splitC_none e2]
      obtain ⟨fn, tmps, assign, body, hy, hR⟩ := HY.out pre s _ (by rw [hfull]; exact List.prefix_refl _) hJ
      have HF : Hid _ := hfull
      have HJ : Hid _ := hJ
      clear hfull hJ hsp hsl e2
      gi_wp2_with fail
      refine ⟨trivial, (callsIn_wide.2 (index_S s 44 _)).mono ?_⟩
      rw [e1]
      rintro e w2 ⟨rfl, rfl⟩
      gi_wp2
      refine hR.mono ?_
      rintro e W' (⟨rfl, hJ', _⟩ | ⟨rfl, hx⟩)
      · gi_wp2
        go_end0
        exact ⟨⟨_, rfl⟩, .inl (by rw [HF.out]; exact hJ')⟩
      · gi_wp2
        go_end0
        exact ⟨⟨_, rfl⟩, .inr ⟨_, by rw [HF.out]; exact List.prefix_refl _, hx⟩⟩
    · have hcut : splitC s = s.take i :: splitC (s.drop (i + 1)) := by
        conv => lhs; rw [e3]
        exact splitC_comma _ e4
      have hfull : splitC t = pre ++ s.take i :: splitC (s.drop (i + 1)) := by rw [hsp, hcut]
      obtain ⟨fn, tmps, assign, body, hy, hR⟩ := HY.out pre (s.take i) _ (pre_step hfull) hJ
      have HF : Hid _ := hfull
      have HJ : Hid _ := hJ
      have hS1 : (strB s).extract 0 i = strB (s.take i) := small_ba _ _ (by rw [extr_data, strB_data]; simp)
      have hS2 : (strB s).extract (i + 1) (strB s).size = strB (s.drop (i + 1)) := small_ba _ _ (by rw [extr_data, strB_data, strB_size]; rw [List.take_of_length_le (by rw [List.length_drop]; omega)])
      have hS3 : (strB s).size = s.length := strB_size s
      rw [← hS1] at hy
      have HS2 : Hid _ := hS2
      have HS3 : Hid _ := hS3
      have HB : Hid _ := hb
      have hi1 : i < (strB s).size := by rw [hS3]; exact e2
      have hi9 : (strB s).size ≤ 140737488355328 := by rw [hS3]; omega
      have HSL : Hid _ := hsl
      clear hfull hJ hsp hsl hcut e3 e4 hS1 hS2 hS3 hb
      gi_wp2_with fail
      refine ⟨trivial, (callsIn_wide.2 (index_S s 44 _)).mono ?_⟩
      rw [e1]
      rintro e w2 ⟨rfl, rfl⟩
      generalize strB s = SB at *
      gi_wp2
      refine hR.mono ?_
      rintro e W' (⟨rfl, hJ', hb'⟩ | ⟨rfl, hx⟩)
      · have hb2 := hb'.trans HB.out
        have hx2 := HBX.out _ _ hJ'
        have d1 := cellAt hx2.1 0 _ rfl
        have d0 := cellAt hb2 0 _ rfl
        have f0 : W'.frozen? ⟨bs, 0, none⟩ = false := frozen_of_row _ _ _ _ _ hb2
        have HJ2 : Hid _ := HSET.out _ _ _ (SB.extract (i + 1) SB.size) hJ' hb2
        have hn2 : (W'.setCell ⟨bs, 0, none⟩ (.string (SB.extract (i + 1) SB.size))).heap[bs]? = some (.cells #[.string (SB.extract (i + 1) SB.size)] 9 (0, 0)) := by
          rw [heap_setCell_same _ _ _ _ _ _ hb2]; rfl
        have HM2 : Hid (restN bs (W'.setCell ⟨bs, 0, none⟩ (.string (SB.extract (i + 1) SB.size))) = (SB.extract (i + 1) SB.size).size) := restN_at (cellAt hn2 0 _ rfl)
        have HN2 : Hid _ := hn2
        have HZ2 : Hid ((SB.extract (i + 1) SB.size).size + (i + 1) = SB.size) := by
          show _ = _
          rw [ByteArray.size_extract]; omega
        have HL2 : Hid ((s.drop (i + 1)).length ≤ s.length) := by show _ ≤ _; rw [List.length_drop]; omega
        clear hb2 hb' hn2 hJ' hx2 c0 c1 c2
        gi_wp2
        go_roundw
        case rel => exact ⟨pre ++ [s.take i], s.drop (i + 1), by rw [HF.out]; simp, Nat.le_trans HL2.out HSL.out, HJ2.out, by rw [← HS2.out]; exact HN2.out⟩
        case measure => rw [HM2.out, HRN.out, ← HS3.out]; have := HZ2.out; omega
      · gi_wp2
        refine bodyPost_ret (results_none rfl _ _ _) rfl ?_
        exact ⟨⟨_, rfl⟩, .inr ⟨_, pre_step HF.out, hx⟩⟩
end Go.Proofs.YtjmbpldkggbdlaaGreatDoor

/- What Parse of package damage answers of legal numbers and any text. -/
namespace Go.Proofs.YtjmbpldkggbdlaaGreatDoor
open Go.RowKit Go.Shelf Gf
set_option linter.unusedVariables false
set_option maxRecDepth 20000
attribute [local go_sem] Oper.semAt_some
/-- what stands between two rounds: acc has been read -/
def PCells (N : Nat) (k r : Nat) (w W : World) (acc : List Nat) : Prop :=
  W.heap[N]? = some (.cells #[.int .i64 k] 3 (0, 0)) ∧ W.heap[N + 1]? = some (.cells #[.int .i64 r] 3 (0, 0)) ∧ W.heap[N + 2]? = some (.cells #[.slice none 0 0] 22 (0, 0)) ∧ W.heap[N + 3]? = some (.cells #[.nilIface] 26 (0, 0)) ∧
  (∃ a c, W.heap[N + 4]? = some (.cells #[.slice a acc.length c] 22 (0, 0)) ∧ W.ownsRow (N + 10) 3 1 (.slice a acc.length c) acc.length ((natJ8 acc).map (Value.int .i64))) ∧
  W.heap[N + 5 + 1]? = some (.cells #[.string ⟨#[44]⟩] 9 (0, 0)) ∧ W.heap[N + 5 + 2]? = some (.cells #[.int .i64 0] 3 (0, 0)) ∧ W.heap[N + 8]? = some (.deferred (some [])) ∧ N + 10 ≤ W.heap.size ∧ Below N w W
/-- what stands where a round has left with an error -/
def PBad (N : Nat) (w W : World) (s : Addr) : Prop :=
  W.heap[N + 2]? = some (.cells #[.slice none 0 0] 22 (0, 0)) ∧ W.heap[N + 3]? = some (.cells #[errAt s] 26 (0, 0)) ∧ W.heap[N + 8]? = some (.deferred (some [])) ∧ Below N w W
theorem put_other {W : World} {l k : Nat} {o o' : Obj} (h : W.heap[k]? = some o) (hne : k ≠ l) : (W.putObj l o').heap[k]? = some o := (World.putObj_heap_other hne).trans h
theorem own_put {W : World} {B l n : Nat} {v : Value} {e : TypeId} {xs : List Value} {o' : Obj} (h : W.ownsRow B e 1 v n xs) (hl : l < B) : (W.putObj l o').ownsRow B e 1 v n xs :=
  ⟨h.1, h.2.imp id fun ⟨g, cap, cur, h1, h2, h3, h4⟩ => ⟨g, cap, cur, h1, h2, put_other h3 (by omega), h4⟩⟩
theorem below_put {N l : Nat} {w W : World} {o : Obj} (h : Below N w W) (hl : N ≤ l) (hlt : l < W.heap.size) : Below N w (W.putObj l o) :=
  h.grown (grownBy_putObj' W l o) (by omega) (fun k e => by cases e; exact hl)
theorem pcells_put {N k r : Nat} {w W : World} {acc : List Nat} (h : PCells N k r w W acc) (hw : N = w.heap.size) (o : Obj) : PCells N k r w (W.putObj (N + 9) o) acc := by
  obtain ⟨h0, h1, h2, h3, ⟨a, c, h4, h5⟩, h6, h7, h8, h9, hb⟩ := h
  exact ⟨put_other h0 (by omega), put_other h1 (by omega), put_other h2 (by omega), put_other h3 (by omega), ⟨a, c, put_other h4 (by omega), own_put h5 (by omega)⟩, put_other h6 (by omega), put_other h7 (by omega), put_other h8 (by omega), by simpa using h9, below_put hb (by omega) (by omega)⟩
theorem pcells_set {N k r : Nat} {w W : World} {acc : List Nat} {v : Value} (h : PCells N k r w W acc) (hw : N = w.heap.size) : PCells N k r w (W.setCell ⟨N + 5, 0, none⟩ v) acc := by
  obtain ⟨h0, h1, h2, h3, ⟨a, c, h4, h5⟩, h6, h7, h8, h9, hb⟩ := h
  have hs : ∀ {q : Nat} {o : Obj}, W.heap[q]? = some o → q ≠ N + 5 → (W.setCell ⟨N + 5, 0, none⟩ v).heap[q]? = some o := fun {q o} hq hne => (heap_setCell_other _ _ _ _ hne).trans hq
  exact ⟨hs h0 (by omega), hs h1 (by omega), hs h2 (by omega), hs h3 (by omega), ⟨a, c, hs h4 (by omega), ⟨h5.1, h5.2.imp id fun ⟨g, cap, cur, q1, q2, q3, q4⟩ => ⟨g, cap, cur, q1, q2, hs q3 (by omega), q4⟩⟩⟩, hs h6 (by omega), hs h7 (by omega), hs h8 (by omega), by simpa using h9, hb.setCell (p := ⟨N + 5, 0, none⟩) (by show N ≤ N + 5; omega) _⟩
theorem own_mono8 {w : World} {B B' size n : Nat} {v : Value} {e : TypeId} {xs : List Value} (hb : B' ≤ B) (h : w.ownsRow B e size v n xs) : w.ownsRow B' e size v n xs :=
  ⟨h.1, h.2.imp id fun ⟨g, cap, cur, h1, h2, h3⟩ => ⟨g, cap, cur, h1, Nat.le_trans hb h2, h3⟩⟩
theorem wpListIn_append_run8 {F : Fence} {nF : Nat} {P : Program} {w : World} {ops : Array Oper} {rest : List Oper} {o : Oper} {a : Act} {Q : Exit → Act → World → Prop} (hgd : o.guard = none) (s x : Operand) (t : TypeId)
    (ho : o.op = .call { callee := .builtin .append, args := #[s, x], argTypes := #[t, t] }) (v u r : Value) (w' : World) (hs : a.eval s = v) (hx : a.eval x = u)
    (hr : (Builtin.append_ #[t, t] o.type #[v, u]).run P w = .ok r w') (h : wpListIn F nF P ops Q rest (a.put o.dst r) w') : wpListIn F nF P ops Q (o :: rest) a w := by
  refine wpListIn_plain hgd fun K hK => ?_
  unfold Oper.wpIn
  refine ⟨?_, ?_⟩
  · simp [Oper.about, ho, resolve, Target.leads, Sem.run_pure]
  · rw [Oper.semAt_plain F _ _ (by rw [ho]; intro c hc'; cases hc')]
    simp only [execOp, ho, resolve, invoke, builtin, Sem.run_bind, Sem.run_pure, Result.andThen_ok, List.map_toArray, List.map_cons, List.map_nil, hs, hx, hr]
    exact hK _ _ h
theorem rises_nat {acc : List Nat} {h : Nat} : decide (natJ8 acc = [] ∨ (natJ8 acc).getD ((natJ8 acc).length - 1) 0 < (h : Int)) = decide (acc = [] ∨ acc.getD (acc.length - 1) 0 < h) := by
  simp only [decide_eq_decide]
  rw [natJ8_len]
  by_cases h0 : acc = []
  · simp [h0, natJ8]
  · have hl : acc.length - 1 < acc.length := by have := List.length_pos_iff.2 h0; omega
    have e : (natJ8 acc).getD (acc.length - 1) 0 = ((acc.getD (acc.length - 1) 0 : Nat) : Int) := by simp [natJ8, List.getD, hl]
    rw [e]
    simp [h0, natJ8]
theorem rowI_own8 {w : World} {B : Nat} {a : Option Addr} {c : Nat} {L : List Nat} (ho : w.ownsRow B 3 1 (.slice a L.length c) L.length ((natJ8 L).map (Value.int .i64))) : RowI w a (natJ8 L) := by
  obtain ⟨a2, c2, e, _, _, _, h, _⟩ := listOf_own (Nat.le_refl B) rfl ho
  cases e
  exact h
theorem one_same8 {W : World} {k : Nat} {v v' : Value} {t : TypeId} (h : W.heap[k]? = some (.cells #[v] t (0, 0))) : (W.setCell ⟨k, 0, none⟩ v').heap[k]? = some (.cells #[v'] t (0, 0)) := by
  rw [heap_setCell_same _ _ _ _ _ _ h]; rfl
theorem one_other8 {W : World} {j k : Nat} {v : Value} {o : Obj} (h : W.heap[j]? = some o) (hne : j ≠ k) : (W.setCell ⟨k, 0, none⟩ v).heap[j]? = some o := (heap_setCell_other _ _ _ _ hne).trans h
theorem range_enter {F : Fence} {n : Nat} {P : Program} {g : Operand} {ps : Array Tmp} {assign body : Code} {Q : Exit → Act → World → Prop} {a : Act} {w : World} {gf : Nat} {lb : Array Value} (hro : F.round = none) (h1 : 1 ≤ n)
    (hg : a.eval g = .func (.func gf) #[] lb) (hFg : F.fn gf) (eg : ∀ args w, (callFunc gf args).run P w = .ok (.enter gf args) w)
    (h : ∀ fn, F.fn fn → ∀ R : Loop, R = { state := .ready, pending := none, fn, tmps := a.tmps, params := ps, assign, body, defers := w.heap.size } →
      CallsIn F (n - 1) P gf (#[.func (.yield (w.heap.size + 1)) #[] #[]] ++ lb) ((w.alloc (.deferred (some []))).alloc (.loop R)) (rangePost F n P (w.heap.size + 1) Q { a with defers := [{ target := .collected w.heap.size, args := #[] }] ++ a.defers })) :
    (Code.rangeFunc g ps assign body).wpIn F n P Q a w := by
  refine wpIn_rangeFunc ?_
  intro fn hfn
  rw [hro]
  obtain ⟨R, hR⟩ : ∃ R : Loop, R = { state := .ready, pending := none, fn, tmps := a.tmps, params := ps, assign, body, defers := w.heap.size } := ⟨_, rfl⟩
  have hent := run_enterLoop_outer (P := P) (w := w) fn a.tmps ps assign body
  rw [← hR] at hent
  refine ⟨w.heap.size + 1, [{ target := .collected w.heap.size, args := #[] }], (w.alloc (.deferred (some []))).alloc (.loop R), { target := .fn (.func gf) lb, args := #[.func (.yield (w.heap.size + 1)) #[] #[]] }, (w.alloc (.deferred (some []))).alloc (.loop R), gf, #[.func (.yield (w.heap.size + 1)) #[] #[]] ++ lb, (w.alloc (.deferred (some []))).alloc (.loop R), hent, ?_, ?_, ?_, fun _ => h1, ?_⟩
  · simp only [resolve, hg]
    simp [go_sem]
  · intro f' hf'; simp [Target.leads] at hf'; subst hf'; exact hFg
  · simp [invoke, go_sem, eg]
  · exact h fn hfn R hR
theorem none_eq {t : List UInt8} : ((strB t).toList == (strB [110, 111, 110, 101]).toList) = decide (t = [110, 111, 110, 101]) := by
  by_cases h : t = [110, 111, 110, 101]
  · rw [strB_eq h, decide_eq_true h]
  · rw [strB_ne h, decide_eq_false h]
set_option maxRecDepth 100000 in
set_option maxHeartbeats 16000000 in
theorem parse8_in (k r : Nat) (t : List UInt8) (w : World) (E : Nat → Addr) (hE : ErrsH w E) (h1 : 1 ≤ k) (h2 : 2 ≤ r) (h3 : k + r ≤ 16) (ht : t.length ≤ 140737488355328) :
    CallsIn Fence.wide 5 Tryz.prog 26 #[.int .i64 k, .int .i64 r, .string (strB t)] w fun e w' =>
      ((∃ acc a c, parseC k (2 * (k + r)) t = some acc ∧ e = .returned (.tuple #[.slice a acc.length c, .nilIface]) ∧ ListOf w' w.heap.size (.slice a acc.length c) acc) ∨ (parseC k (2 * (k + r)) t = none ∧ e = .returned (.tuple #[.slice none 0 0, errAt (E 3)]))) ∧ Below w.heap.size w w' := by
  have HE : Hid (ErrsH w E) := hE
  clear hE
  refine callsIn_of_wp_marks Tryz.func26 rfl trivial ?_ rfl
  simp only [Tryz.ntmps26, List.size_toArray, List.length_cons, List.length_nil, Nat.reduceAdd, Nat.reduceSub, Array.replicate_succ, Array.replicate_zero, List.push_toArray, List.append_toArray, List.nil_append, List.cons_append]
  have hA := holds_new (holds_new (holds_new (holds_new (holds_nil w) #[.int .i64 k] 3) #[.int .i64 r] 3) #[.slice none 0 0] 22) #[.nilIface] 26
  simp only [World.size_alloc] at hA
  have HA0 : Hid _ := hA
  have HB0 : Hid (Below w.heap.size w ((((w.alloc (.cells #[.int .i64 k] 3)).alloc (.cells #[.int .i64 r] 3)).alloc (.cells #[.slice none 0 0] 22)).alloc (.cells #[.nilIface] 26))) := ((((Below.refl _ w).alloc (Nat.le_refl _) _).alloc (by simp) _).alloc (by simp; omega) _).alloc (by simp; omega) _
  clear hA
  gi_wp2_with fail
  refine ⟨trivial, (callsIn_wide.2 (bcheck_ok k r _ h1 h2 h3)).mono ?_⟩
  rintro e w' ⟨rfl, hw'⟩
  have hsz0 : ((((w.alloc (.cells #[.int .i64 k] 3)).alloc (.cells #[.int .i64 r] 3)).alloc (.cells #[.slice none 0 0] 22)).alloc (.cells #[.nilIface] 26)).heap.size = w.heap.size + 4 := by simp
  rw [hw'] at HA0 HB0 hsz0
  clear hw'
  by_cases hno : t = [110, 111, 110, 101]
  · subst hno
    have k2 := holds_at HA0.out 1 rfl
    have k3 := holds_at HA0.out 0 rfl
    have f2 : w'.frozen? ⟨w.heap.size + 1 + 1, 0, none⟩ = false := frozen_of_row _ _ _ _ _ k2
    have f3 : w'.frozen? ⟨w.heap.size + 1 + 1 + 1, 0, none⟩ = false := frozen_of_row _ _ _ _ _ k3
    have c2 := cellAt k2 0 _ rfl
    have c3 := cellAt k3 0 _ rfl
    have c0 := cellAt (holds_at HA0.out 3 rfl) 0 _ rfl
    have c1 := cellAt (holds_at HA0.out 2 rfl) 0 _ rfl
    rw [show strB [110, 111, 110, 101] = (⟨#[110, 111, 110, 101]⟩ : ByteArray) from rfl]
    have HK2 : Hid _ := k2
    have HK3 : Hid _ := k3
    clear k2 k3
    gi_wp2
    have m2 : ((w'.setCell ⟨w.heap.size + 1 + 1, 0, none⟩ (.slice none 0 0)).setCell ⟨w.heap.size + 1 + 1 + 1, 0, none⟩ .nilIface).heap[w.heap.size + 1 + 1]? = some (.cells #[.slice none 0 0] 22 (0, 0)) := one_other8 (one_same8 HK2.out) (by omega)
    have m3 : ((w'.setCell ⟨w.heap.size + 1 + 1, 0, none⟩ (.slice none 0 0)).setCell ⟨w.heap.size + 1 + 1 + 1, 0, none⟩ .nilIface).heap[w.heap.size + 1 + 1 + 1]? = some (.cells #[.nilIface] 26 (0, 0)) := one_same8 (one_other8 HK3.out (by omega))
    have d2 := cellAt m2 0 _ rfl
    have d3 := cellAt m3 0 _ rfl
    refine ⟨.tuple #[.slice none 0 0, .nilIface], by simp [results, Tryz.f26, go_sem, d2, d3], .inl ⟨[], none, 0, rfl, rfl, none, 0, rfl, Nat.le_refl _, Nat.zero_le _, fun _ => rfl, .inl rfl, fun p h => (by cases h)⟩, ?_⟩
    exact (HB0.out.setCell (p := ⟨w.heap.size + 1 + 1, 0, none⟩) (by show w.heap.size ≤ w.heap.size + 1 + 1; omega) _).setCell (p := ⟨w.heap.size + 1 + 1 + 1, 0, none⟩) (by show w.heap.size ≤ w.heap.size + 1 + 1 + 1; omega) _
  · have hne : ((strB t).toList == [110, 111, 110, 101]) = false := by rw [strB_list]; exact beq_eq_false_iff_ne.2 hno
    have HNO : Hid (parseC k (2 * (k + r)) t = readC k (2 * (k + r)) (splitC t)) := by show _ = _; rw [parseC, if_neg hno]
    gi_wp2_with fail
    refine ⟨trivial, (callsIn_wide.2 (splitSeq_F (strB t) _)).mono ?_⟩
    rintro e w2 ⟨rfl, hw2⟩
    have hA := holds_new (holds_new (holds_new (holds_new HA0.out #[.slice none 0 0] 22) #[.string (strB t)] 9) #[.string ⟨#[44]⟩] 9) #[.int .i64 0] 3
    have hB := (((HB0.out.alloc (by omega) (.cells #[.slice none 0 0] 22)).alloc (by simp; omega) (.cells #[.string (strB t)] 9)).alloc (by simp; omega) (.cells #[.string ⟨#[44]⟩] 9)).alloc (by simp; omega) (.cells #[.int .i64 0] 3)
    rw [← hw2] at hA hB
    have hsz2 : w2.heap.size = w.heap.size + 8 := by rw [hw2]; simp; omega
    simp only [World.size_alloc, hsz0] at hA ⊢
    have HA : Hid _ := hA
    have HB : Hid _ := hB
    clear hA hB hw2 HA0 HB0 hne hsz0
    gi_wp2
    have g0 : w2.heap[w.heap.size]? = some (.cells #[.int .i64 k] 3 (0, 0)) := holds_at HA.out 7 rfl
    have g1 : w2.heap[w.heap.size + 1]? = some (.cells #[.int .i64 r] 3 (0, 0)) := holds_at HA.out 6 rfl
    have g2 : w2.heap[w.heap.size + 2]? = some (.cells #[.slice none 0 0] 22 (0, 0)) := holds_at HA.out 5 rfl
    have g3 : w2.heap[w.heap.size + 3]? = some (.cells #[.nilIface] 26 (0, 0)) := holds_at HA.out 4 rfl
    have g4 : w2.heap[w.heap.size + 4]? = some (.cells #[.slice none 0 0] 22 (0, 0)) := holds_at HA.out 3 rfl
    have g5 : w2.heap[w.heap.size + 5]? = some (.cells #[.string (strB t)] 9 (0, 0)) := holds_at HA.out 2 rfl
    have g6 : w2.heap[w.heap.size + 5 + 1]? = some (.cells #[.string ⟨#[44]⟩] 9 (0, 0)) := holds_at HA.out 1 rfl
    have g7 : w2.heap[w.heap.size + 5 + 2]? = some (.cells #[.int .i64 0] 3 (0, 0)) := holds_at HA.out 0 rfl
    have hB9 : Below w.heap.size w w2 := HB.out
    simp only [Nat.add_assoc, Nat.reduceAdd]
    refine range_enter (gf := 83) (lb := #[.pointer (some ⟨w.heap.size + 5 + 1, 0, none⟩), .pointer (some ⟨w.heap.size + 5, 0, none⟩), .pointer (some ⟨w.heap.size + 5 + 2, 0, none⟩)]) rfl (by omega) rfl trivial (enters_of Tryz.func83 (by kernel_rfl) rfl) ?_
    intro fn hfn R hR
    rw [hsz2]
    have hsz2N : w2.heap.size = w.heap.size + 8 := hsz2
    refine (split1_in (5 - 1) (by omega) (w.heap.size + 8 + 1) (w.heap.size + 5) t ht
      (fun pre W => (∃ acc, readC k (2 * (k + r)) pre = some acc ∧ PCells w.heap.size k r w W acc) ∧ W.heap[w.heap.size + 9]? = some (.loop R))
      (fun pre W => (readC k (2 * (k + r)) pre = none ∧ PBad w.heap.size w W (E 3)) ∧ W.heap[w.heap.size + 9]? = some (.loop { R with state := .done, pending := some .ret })) ?hbx ?hset ?hY _ ?h0 ?hs).mono ?_
    case hbx =>
      rintro pre W ⟨⟨acc, _, hp⟩, _⟩
      exact ⟨hp.2.2.2.2.2.1, hp.2.2.2.2.2.2.1⟩
    case hset =>
      rintro pre W S S' ⟨⟨acc, ha, hp⟩, hl⟩ _
      exact ⟨⟨acc, ha, pcells_set hp rfl⟩, one_other8 hl (by omega)⟩
    case h0 =>
      have ho : ∀ {q : Nat} {o : Obj}, w2.heap[q]? = some o → ((w2.alloc (.deferred (some []))).alloc (.loop R)).heap[q]? = some o := fun {q o} h => (Below.heap_alloc _ _ _ (by simp; have := (Array.getElem?_eq_some_iff.1 h).1; omega)).trans ((Below.heap_alloc _ _ _ (Array.getElem?_eq_some_iff.1 h).1).trans h)
      have hd : ((w2.alloc (.deferred (some []))).alloc (.loop R)).heap[w.heap.size + 8]? = some (.deferred (some [])) := by
        rw [← hsz2N]; exact (Below.heap_alloc _ _ _ (by simp)).trans (World.alloc_heap_new w2 _)
      have hl : ((w2.alloc (.deferred (some []))).alloc (.loop R)).heap[w.heap.size + 9]? = some (.loop R) := by
        have := World.alloc_heap_new (w2.alloc (.deferred (some []))) (.loop R)
        rw [World.size_alloc, hsz2N] at this
        exact this
      exact ⟨⟨[], readC_nil _ _, ho g0, ho g1, ho g2, ho g3, ⟨none, 0, ho g4, World.ownsRow_nil _ _ _ _⟩, ho g6, ho g7, hd, by simp; omega, (hB9.alloc (by omega) _).alloc (by simp; omega) _⟩, hl⟩
    case hs => exact (Below.heap_alloc _ _ _ (by simp; omega)).trans ((Below.heap_alloc _ _ _ (by omega)).trans g5)
    case hY =>
      rintro pre x W hpre ⟨⟨acc, hacc, hp⟩, hl⟩
      obtain ⟨hu9, hn9, _⟩ := readC_good pre hacc
      have hlen9 := pair_len hu9 hn9
      have hRb := congrArg Loop.body hR
      have hRa := congrArg Loop.assign hR
      have hRt := congrArg Loop.tmps hR
      have hRp := congrArg Loop.params hR
      have hRs := congrArg Loop.state hR
      have hRe := congrArg Loop.pending hR
      dsimp only at hRb hRa hRt hRp hRs hRe
      obtain ⟨Rb, hRb2⟩ : ∃ Rb : Loop, Rb = { R with state := .busy } := ⟨_, rfl⟩
      obtain ⟨Rd, hRd2⟩ : ∃ Rd : Loop, Rd = { R with state := .done, pending := some .ret } := ⟨_, rfl⟩
      rw [← hRd2]
      have hYY := round_at (F := Fence.wide) (m := 5 - 1 - 1) (P := Tryz.prog) (l := w.heap.size + 8 + 1) (args := #[.string (strB x)]) (W := W) (Go := fun U => (∃ acc', readC k (2 * (k + r)) (pre ++ [x]) = some acc' ∧ PCells w.heap.size k r w U acc') ∧ U.heap[w.heap.size + 5]? = W.heap[w.heap.size + 5]?) (Out := fun _ U => readC k (2 * (k + r)) (pre ++ [x]) = none ∧ PBad w.heap.size w U (E 3))
        (a1 := { tmps := #[.int .i64 k, .int .i64 r, .string (strB t), .pointer (some ⟨w.heap.size, 0, none⟩), .pointer (some ⟨w.heap.size + 1, 0, none⟩), undef, .pointer (some ⟨w.heap.size + 2, 0, none⟩), .pointer (some ⟨w.heap.size + 3, 0, none⟩), .nilIface, .pointer (some ⟨w.heap.size + 4, 0, none⟩), .string (strB x), undef, undef, .int .i64 k, .int .i64 r, .nilIface, .nilIface, .bool false, undef, .string (strB t), .bool false, .string (strB t), .func (.func 83) #[] #[.pointer (some ⟨w.heap.size + 6, 0, none⟩), .pointer (some ⟨w.heap.size + 5, 0, none⟩), .pointer (some ⟨w.heap.size + 7, 0, none⟩)], .string (strB x), undef, undef, undef, undef, undef, undef, undef, undef, undef, undef, undef, undef, undef, undef, undef, undef, undef, undef, undef, undef], defers := [] })
        hRb2 hRd2 trivial hl (by rw [hRp]; rfl) hRs hRe ?asg ?bod
      case asg =>
        intro K hK
        rw [hRa, hRt, hRp]
        gi_wp2
        exact hK
      case bod =>
        rw [hRb]
        have hpU := pcells_put hp rfl (.loop Rb)
        have hlU : (W.putObj (w.heap.size + 9) (.loop Rb)).heap[w.heap.size + 9]? = some (.loop Rb) := World.putObj_heap_same (Array.getElem?_eq_some_iff.1 hl).1
        have h5U : (W.putObj (w.heap.size + 9) (.loop Rb)).heap[w.heap.size + 5]? = W.heap[w.heap.size + 5]? := World.putObj_heap_other (by omega)
        clear hRb hRa hRt hRp hRs hRe hRb2 hRd2 hR hl
        show Code.wpIn _ _ _ _ _ _ (W.putObj (w.heap.size + 9) (.loop Rb))
        generalize (W.putObj (w.heap.size + 9) (.loop Rb)) = U at *
        obtain ⟨p0, p1, p2, p3, ⟨av, cv, p4, p5⟩, p6, p7, p8, p9, pB⟩ := hpU
        have HR : Hid (readC k (2 * (k + r)) (pre ++ [x]) = stepC k (2 * (k + r)) acc x) := by
          show _ = _
          rw [readC_snoc, hacc]; rfl
        have HP0 : Hid _ := p0
        have HP1 : Hid _ := p1
        have HP2 : Hid _ := p2
        have HP3 : Hid _ := p3
        have HP4 : Hid _ := p4
        have HP5 : Hid (U.ownsRow (w.heap.size + 10) 3 1 (.slice av acc.length cv) acc.length ((natJ8 acc).map (Value.int .i64))) := p5
        have HP6 : Hid _ := p6
        have HP7 : Hid _ := p7
        have HP8 : Hid _ := p8
        have HPB : Hid _ := pB
        have HLU : Hid _ := hlU
        have H5U : Hid _ := h5U
        have c0 := cellAt p0 0 _ rfl
        have c1 := cellAt p1 0 _ rfl
        have hn32 : 2 * (k + r) ≤ 32 := by omega
        have HCC : Hid _ := hacc
        clear p0 p1 p2 p3 p4 p5 p6 p7 p8 pB hlU h5U hacc hp g0 g1 g2 g3 g4 g5 g6 g7 hB9 hsz2 hsz2N
        gi_wp2_with fail
        refine ⟨trivial, CallsIn.inRound _ ((callsIn_wide.2 (parse_F k r x _ (E 3) (errsH_below HE.out HPB.out).2 h1 h2 h3)).mono ?_)⟩
        rintro e w4 ⟨⟨v, rfl, hv⟩, hb4⟩
        have later : ∀ {q : Nat} {o : Obj}, U.heap[q]? = some o → w4.heap[q]? = some o := fun {q o} h => (hb4.block q (Array.getElem?_eq_some_iff.1 h).1).trans h
        have HPB4 : Hid (Below w.heap.size w w4) := HPB.out.trans (hb4.mono HPB.out.size)
        have HP4b : Hid (w4.ownsRow (w.heap.size + 10) 3 1 (.slice av acc.length cv) acc.length ((natJ8 acc).map (Value.int .i64))) := own_below HP5.out hb4
        have z9 : w.heap.size + 10 ≤ w4.heap.size := Nat.le_trans p9 hb4.size
        have HLT : Hid _ := @later
        clear hb4 later c0 c1
        rcases hv with ⟨h, hh, hnm, rfl⟩ | ⟨hnm, rfl⟩
        · have HIX : Hid _ := nameIx_of (show k < 15 by omega) hn32 hh hnm
          have HST : Hid (stepC k (2 * (k + r)) acc x = if acc = [] ∨ acc.getD (acc.length - 1) 0 < h then some (acc ++ [h]) else none) := by
            show _ = _
            unfold stepC; rw [HIX.out]
          have c4 := cellAt (HLT.out HP4.out) 0 _ rfl
          have hown4 := rowI_own8 HP4b.out
          gi_wp2_with fail
          refine ⟨trivial, CallsIn.inRound _ ((callsIn_wide.2 (rises_F acc.length cv av (natJ8 acc) h _ (natJ8_len _).symm (by omega) hown4)).mono ?_)⟩
          rw [rises_nat]
          by_cases hrise : acc = [] ∨ acc.getD (acc.length - 1) 0 < h
          · rw [decide_eq_true hrise]
            rintro e w5 ⟨rfl, rfl⟩
            have HN : Hid _ := HST.out.trans (if_pos hrise)
            have hg9 := readC_good pre HCC.out
            have hl9 := pair_len hg9.1 hg9.2.1
            have ho5 := World.ownsRow.alloc HP4b.out (.cells #[.int .i64 h] 3)
            obtain ⟨g2, cap2, w6, hrun, ho2, hgr, hor, hlt9⟩ := appendI (b := w4.heap.size) (c := 1) (x := (h : Int)) 22 ho5 (cellAt (heap_alloc_last w4 (.cells #[.int .i64 h] 3)) 0 _ rfl) (by omega) (by simp; omega)
            have hv6 : (natJ8 acc).map (Value.int .i64) ++ [.int .i64 (h : Int)] = (natJ8 (acc ++ [h])).map (Value.int .i64) := by simp [natJ8]
            rw [hv6] at ho2
            have hne : ∀ q, q < w.heap.size + 10 → some q ≠ (Value.slice av acc.length cv).ownBlock := fun q hq e => by have := (ho5.lt q e.symm).1; omega
            have keep : ∀ {q : Nat} {o : Obj}, q < w.heap.size + 10 → U.heap[q]? = some o → w6.heap[q]? = some o := fun {q o} hq hu => by
              have h4 := HLT.out hu
              exact (hgr.block q (by simp; omega) (hne q hq)).trans ((Below.heap_alloc w4 _ q (by omega)).trans h4)
            have hb6 : Below w.heap.size w w6 := below_own (HPB4.out.alloc (by omega) (.cells #[.int .i64 h] 3)) (own_mono8 (show w.heap.size ≤ w.heap.size + 10 by omega) ho5) hgr (by simp; omega)
            have k4 := keep (by omega) HP4.out
            have f4 : w6.frozen? ⟨w.heap.size + 4, 0, none⟩ = false := frozen_of_row _ _ _ _ _ k4
            have c6 := cellAt k4 0 _ rfl
            have z6 : w.heap.size + 10 ≤ w6.heap.size := by have := hgr.size; simp at this; omega
            have HRun : Hid _ := hrun
            have HO2 : Hid (w6.ownsRow (w.heap.size + 10) 3 1 (.slice (some ⟨g2, 0, none⟩) (acc.length + 1) cap2) (acc.length + 1) ((natJ8 (acc ++ [h])).map (Value.int .i64))) := ho2
            have HB6 : Hid _ := hb6
            have HK4 : Hid _ := k4
            have HKEEP : Hid _ := @keep
            clear hg9 hl9 ho5 hrun ho2 hgr hor hlt9 hv6 hne keep hb6 k4 hown4 hrise hnm
            gi_wp2_with (gi_at_builtin; refine wpListIn_append_run8 rfl _ _ 22 rfl _ _ _ _ rfl rfl HRun.out ?_)
            have hs : ∀ {q : Nat} {o : Obj}, q < w.heap.size + 10 → q ≠ w.heap.size + 4 → U.heap[q]? = some o → (w6.setCell ⟨w.heap.size + 4, 0, none⟩ (.slice (some ⟨g2, 0, none⟩) (acc.length + 1) cap2)).heap[q]? = some o := fun {q o} h1 h2 h3 => one_other8 (HKEEP.out h1 h3) h2
            refine ⟨hs (by omega) (by omega) HLU.out, ⟨acc ++ [h], by rw [HR.out]; exact HN.out, hs (by omega) (by omega) HP0.out, hs (by omega) (by omega) HP1.out, hs (by omega) (by omega) HP2.out, hs (by omega) (by omega) HP3.out, ⟨some ⟨g2, 0, none⟩, cap2, ?_, ?_⟩, hs (by omega) (by omega) HP6.out, hs (by omega) (by omega) HP7.out, hs (by omega) (by omega) HP8.out, by simpa using z6, HB6.out.setCell (p := ⟨w.heap.size + 4, 0, none⟩) (by show w.heap.size ≤ w.heap.size + 4; omega) _⟩, ?_⟩
            · rw [List.length_append]; exact one_same8 HK4.out
            · rw [List.length_append]
              exact ⟨HO2.out.1, HO2.out.2.imp id fun ⟨g, cap, cur, q1, q2, q3, q4⟩ => ⟨g, cap, cur, q1, q2, one_other8 q3 (by omega), q4⟩⟩
            · have h5 := H5U.out
              cases hq : U.heap[w.heap.size + 5]? with
              | none => exact absurd (Array.getElem?_eq_none_iff.1 hq) (by omega)
              | some o => rw [← h5, hq]; exact hs (by omega) (by omega) hq
          · rw [decide_eq_false hrise]
            rintro e w5 ⟨rfl, rfl⟩
            have HN : Hid _ := HST.out.trans (if_neg hrise)
            have k2 := HLT.out HP2.out
            have k3 := HLT.out HP3.out
            have f2 : w4.frozen? ⟨w.heap.size + 2, 0, none⟩ = false := frozen_of_row _ _ _ _ _ k2
            have f3 : w4.frozen? ⟨w.heap.size + 3, 0, none⟩ = false := frozen_of_row _ _ _ _ _ k3
            have c2 := cellAt k2 0 _ rfl
            have c3 := cellAt k3 0 _ rfl
            have c9 := (errsH_below HE.out HPB4.out).2
            have lt9 : 1 < w4.heap.size := by have := World.block_lt_of_cell? w4 _ c9; simpa using this
            have HK2 : Hid _ := k2
            have HK3 : Hid _ := k3
            have HK8 : Hid _ := HLT.out HP8.out
            have HKL : Hid _ := HLT.out HLU.out
            clear k2 k3 hnm hown4 c4 hrise
            have HBX : Hid (Below w.heap.size w (((w4.setCell ⟨w.heap.size + 2, 0, none⟩ (.slice none 0 0)).setCell ⟨w.heap.size + 3, 0, none⟩ (.iface 188 (.pointer (some (E 3))))).drew)) := ((HPB4.out.setCell (p := ⟨w.heap.size + 2, 0, none⟩) (by show w.heap.size ≤ w.heap.size + 2; omega) _).setCell (p := ⟨w.heap.size + 3, 0, none⟩) (by show w.heap.size ≤ w.heap.size + 3; omega) _).drew
            unfold errAt at *
            gi_wp2
            gi_region
            all_goals gi_wp2
            all_goals exact ⟨one_other8 (one_other8 HKL.out (by omega)) (by omega), by rw [HR.out]; exact HN.out, one_other8 (one_same8 HK2.out) (by omega), one_same8 (one_other8 HK3.out (by omega)), one_other8 (one_other8 HK8.out (by omega)) (by omega), HBX.out⟩
        · have HIX : Hid _ := nameIx_no (k := k) (n := 2 * (k + r)) (p := x) hnm
          have HN : Hid (stepC k (2 * (k + r)) acc x = none) := by
            show _ = _
            unfold stepC; rw [HIX.out]
          have k2 := HLT.out HP2.out
          have k3 := HLT.out HP3.out
          have f2 : w4.frozen? ⟨w.heap.size + 2, 0, none⟩ = false := frozen_of_row _ _ _ _ _ k2
          have f3 : w4.frozen? ⟨w.heap.size + 3, 0, none⟩ = false := frozen_of_row _ _ _ _ _ k3
          have c2 := cellAt k2 0 _ rfl
          have c3 := cellAt k3 0 _ rfl
          have HK2 : Hid _ := k2
          have HK3 : Hid _ := k3
          have HK8 : Hid _ := HLT.out HP8.out
          have HKL : Hid _ := HLT.out HLU.out
          clear k2 k3 hnm
          unfold errAt at *
          gi_wp2
          exact ⟨one_other8 (one_other8 HKL.out (by omega)) (by omega), by rw [HR.out]; exact HN.out, one_other8 (one_same8 HK2.out) (by omega), one_same8 (one_other8 HK3.out (by omega)), one_other8 (one_other8 HK8.out (by omega)) (by omega),
            (HPB4.out.setCell (p := ⟨w.heap.size + 2, 0, none⟩) (by show w.heap.size ≤ w.heap.size + 2; omega) _).setCell (p := ⟨w.heap.size + 3, 0, none⟩) (by show w.heap.size ≤ w.heap.size + 3; omega) _⟩
      obtain ⟨fn', tm', as', bd', hy, hRr⟩ := hYY
      refine ⟨fn', tm', as', bd', hy, hRr.mono ?_⟩
      rintro e W' (⟨rfl, U, hU, ⟨⟨acc', h1', h2'⟩, h3'⟩, rfl⟩ | ⟨rfl, U, hU, ⟨h1', h2'⟩, rfl⟩)
      · refine .inl ⟨rfl, ⟨⟨acc', h1', pcells_put h2' rfl _⟩, World.putObj_heap_same (Array.getElem?_eq_some_iff.1 hU).1⟩, (World.putObj_heap_other (by omega)).trans h3'⟩
      · refine .inr ⟨rfl, ⟨h1', put_other h2'.1 (by omega), put_other h2'.2.1 (by omega), put_other h2'.2.2.1 (by omega), below_put h2'.2.2.2 (by omega) (Array.getElem?_eq_some_iff.1 hU).1⟩, World.putObj_heap_same (Array.getElem?_eq_some_iff.1 hU).1⟩
    rintro e W2 ⟨⟨v, rfl⟩, (⟨⟨acc, hacc, hp⟩, hl⟩ | ⟨pre, ⟨qs, hpre⟩, ⟨hbad, hpb⟩, hl⟩)⟩
    · have he := run_endLoop (P := Tryz.prog) hl (by rw [hR]; simp)
      rw [show R.pending = none by rw [hR]] at he
      have hp2 := pcells_put hp rfl (.loop { R with state := .exhausted })
      have HPC : Hid (parseC k (2 * (k + r)) t = some acc) := HNO.out.trans hacc
      obtain ⟨U, hU⟩ : ∃ U, U = W2.putObj (w.heap.size + 9) (.loop { R with state := .exhausted }) := ⟨_, rfl⟩
      rw [← hU] at hp2
      have he2 : (Instr.endLoop (w.heap.size + 8 + 1)).run Tryz.prog W2 = .ok none U := he.trans (by rw [hU, show R.pending = none by rw [hR]])
      refine ⟨none, U, he2, ?_⟩
      clear he he2 hR hp hl hacc hU g0 g1 g2 g3 g4 g5 g6 g7 hB9 hsz2 hsz2N
      dsimp only [List.cons_append, List.nil_append]
      obtain ⟨p0, p1, p2, p3, ⟨av, cv, p4, p5⟩, p6, p7, p8, p9, pB⟩ := hp2
      have c4 := cellAt p4 0 _ rfl
      have f2 : U.frozen? ⟨w.heap.size + 2, 0, none⟩ = false := frozen_of_row _ _ _ _ _ p2
      have f3 : U.frozen? ⟨w.heap.size + 3, 0, none⟩ = false := frozen_of_row _ _ _ _ _ p3
      have c2 := cellAt p2 0 _ rfl
      have c3 := cellAt p3 0 _ rfl
      have HP2 : Hid _ := p2
      have HP3 : Hid _ := p3
      have HP5 : Hid (U.ownsRow (w.heap.size + 10) 3 1 (.slice av acc.length cv) acc.length ((natJ8 acc).map (Value.int .i64))) := p5
      have HP8 : Hid _ := p8
      have HPB : Hid _ := pB
      have HP9 : Hid _ := p9
      clear p0 p1 p2 p3 p4 p5 p6 p7 p8 p9 pB
      gi_wp2
      have hso : ∀ {q : Nat} {o : Obj} {v2 v3 : Value}, q ≠ w.heap.size + 2 → q ≠ w.heap.size + 3 → U.heap[q]? = some o → ((U.setCell ⟨w.heap.size + 2, 0, none⟩ v2).setCell ⟨w.heap.size + 3, 0, none⟩ v3).heap[q]? = some o := fun {q o v2 v3} h1 h2 h3 => one_other8 (one_other8 h3 h1) h2
      refine ⟨by simp, .inl ⟨_, _, rfl, run_takeDeferred (hso (by omega) (by omega) HP8.out), ?_⟩⟩
      have m2 : (((U.setCell ⟨w.heap.size + 2, 0, none⟩ (.slice av acc.length cv)).setCell ⟨w.heap.size + 3, 0, none⟩ .nilIface).putObj (w.heap.size + 8) (.deferred none)).heap[w.heap.size + 2]? = some (.cells #[.slice av acc.length cv] 22 (0, 0)) := put_other (one_other8 (one_same8 HP2.out) (by omega)) (by omega)
      have m3 : (((U.setCell ⟨w.heap.size + 2, 0, none⟩ (.slice av acc.length cv)).setCell ⟨w.heap.size + 3, 0, none⟩ .nilIface).putObj (w.heap.size + 8) (.deferred none)).heap[w.heap.size + 3]? = some (.cells #[.nilIface] 26 (0, 0)) := put_other (one_same8 (one_other8 HP3.out (by omega))) (by omega)
      have mo : (((U.setCell ⟨w.heap.size + 2, 0, none⟩ (.slice av acc.length cv)).setCell ⟨w.heap.size + 3, 0, none⟩ .nilIface).putObj (w.heap.size + 8) (.deferred none)).ownsRow (w.heap.size + 10) 3 1 (.slice av acc.length cv) acc.length ((natJ8 acc).map (Value.int .i64)) :=
        own_put ⟨HP5.out.1, HP5.out.2.imp id fun ⟨g, cap, cur, q1, q2, q3, q4⟩ => ⟨g, cap, cur, q1, q2, hso (by omega) (by omega) q3, q4⟩⟩ (by omega)
      have d2 := cellAt m2 0 _ rfl
      have d3 := cellAt m3 0 _ rfl
      refine ⟨.tuple #[.slice av acc.length cv, .nilIface], by simp [results, Tryz.f26, go_sem, d2, d3], .inl ⟨acc, av, cv, HPC.out, rfl, listOf_own (by omega) rfl mo⟩, ?_⟩
      exact below_put ((HPB.out.setCell (p := ⟨w.heap.size + 2, 0, none⟩) (by show w.heap.size ≤ w.heap.size + 2; omega) _).setCell (p := ⟨w.heap.size + 3, 0, none⟩) (by show w.heap.size ≤ w.heap.size + 3; omega) _) (by omega) (by have := HP9.out; simp; omega)
    · have he := run_endLoop (P := Tryz.prog) hl (by simp)
      obtain ⟨U, hU⟩ : ∃ U, U = W2.putObj (w.heap.size + 9) (.loop { R with state := .exhausted, pending := some .ret }) := ⟨_, rfl⟩
      have he2 : (Instr.endLoop (w.heap.size + 8 + 1)).run Tryz.prog W2 = .ok (some .ret) U := he.trans (by rw [hU])
      refine ⟨some .ret, U, he2, ?_⟩
      have HPC : Hid (parseC k (2 * (k + r)) t = none) := HNO.out.trans (by rw [← hpre]; exact readC_dead hbad)
      obtain ⟨p2, p3, p8, pB⟩ := hpb
      have z9 := (Array.getElem?_eq_some_iff.1 hl).1
      have hus : U.heap.size = W2.heap.size := by rw [hU]; simp
      have q2 : U.heap[w.heap.size + 2]? = some (.cells #[.slice none 0 0] 22 (0, 0)) := by rw [hU]; exact put_other p2 (by omega)
      have q3 : U.heap[w.heap.size + 3]? = some (.cells #[errAt (E 3)] 26 (0, 0)) := by rw [hU]; exact put_other p3 (by omega)
      have q8 : U.heap[w.heap.size + 8]? = some (.deferred (some [])) := by rw [hU]; exact put_other p8 (by omega)
      have qB : Below w.heap.size w U := by rw [hU]; exact below_put pB (by omega) z9
      clear he he2 hR hl hU hbad hpre p2 p3 p8 pB g0 g1 g2 g3 g4 g5 g6 g7 hB9 hsz2 hsz2N
      dsimp only [List.cons_append, List.nil_append]
      have HQ2 : Hid _ := q2
      have HQ3 : Hid _ := q3
      have HQ8 : Hid _ := q8
      have HQB : Hid _ := qB
      clear q2 q3 q8 qB
      gi_wp2
      refine ⟨by simp, .inl ⟨_, _, rfl, run_takeDeferred HQ8.out, ?_⟩⟩
      have m2 := put_other (o' := .deferred none) HQ2.out (show w.heap.size + 2 ≠ w.heap.size + 8 by omega)
      have m3 := put_other (o' := .deferred none) HQ3.out (show w.heap.size + 3 ≠ w.heap.size + 8 by omega)
      have d2 := cellAt m2 0 _ rfl
      have d3 := cellAt m3 0 _ rfl
      refine ⟨.tuple #[.slice none 0 0, errAt (E 3)], by simp [results, Tryz.f26, go_sem, d2, d3], .inr ⟨HPC.out, rfl⟩, ?_⟩
      exact below_put HQB.out (by omega) (by omega)
theorem parse8_F (k r : Nat) (t : List UInt8) (w : World) (E : Nat → Addr) (hE : ErrsH w E) (h1 : 1 ≤ k) (h2 : 2 ≤ r) (h3 : k + r ≤ 16) (ht : t.length ≤ 140737488355328) :
    Calls Tryz.prog 26 #[.int .i64 k, .int .i64 r, .string (strB t)] w fun e w' =>
      ((∃ acc a c, parseC k (2 * (k + r)) t = some acc ∧ e = .returned (.tuple #[.slice a acc.length c, .nilIface]) ∧ ListOf w' w.heap.size (.slice a acc.length c) acc) ∨ (parseC k (2 * (k + r)) t = none ∧ e = .returned (.tuple #[.slice none 0 0, errAt (E 3)]))) ∧ Below w.heap.size w w' :=
  (callsIn_wide (n := 5)).1 (parse8_in k r t w E hE h1 h2 h3 ht)
set_option maxHeartbeats 4000000 in
theorem parse8_bad (k r : Int) (S : ByteArray) (w : World) (s : Addr) (hs : w.cell? ⟨0, 0, none⟩ = some (errAt s)) (hk0 : -9223372036854775808 ≤ k) (hk1 : k ≤ 9223372036854775807) (hr0 : -9223372036854775808 ≤ r) (hr1 : r ≤ 9223372036854775807) (hL : ¬ LegalP k r) :
    Calls Tryz.prog 26 #[.int .i64 k, .int .i64 r, .string S] w fun e w' => e = .returned (.tuple #[.slice none 0 0, errAt s]) ∧ Below w.heap.size w w' := by
  refine (callsIn_wide (n := 5)).1 ?_
  refine callsIn_of_wp_marks Tryz.func26 rfl trivial ?_ rfl
  simp only [Tryz.ntmps26, List.size_toArray, List.length_cons, List.length_nil, Nat.reduceAdd, Nat.reduceSub, Array.replicate_succ, Array.replicate_zero, List.push_toArray, List.append_toArray, List.nil_append, List.cons_append]
  have hA := holds_new (holds_new (holds_new (holds_new (holds_nil w) #[.int .i64 k] 3) #[.int .i64 r] 3) #[.slice none 0 0] 22) #[.nilIface] 26
  simp only [World.size_alloc] at hA
  have HA0 : Hid _ := hA
  have HB0 : Hid (Below w.heap.size w ((((w.alloc (.cells #[.int .i64 k] 3)).alloc (.cells #[.int .i64 r] 3)).alloc (.cells #[.slice none 0 0] 22)).alloc (.cells #[.nilIface] 26))) := ((((Below.refl _ w).alloc (Nat.le_refl _) _).alloc (by simp) _).alloc (by simp; omega) _).alloc (by simp; omega) _
  have HS : Hid _ := cell_later HB0.out hs
  clear hA hs
  gi_wp2_with fail
  refine ⟨trivial, (callsIn_wide.2 (bcheck_bad k r _ s HS.out hk0 hk1 hr0 hr1 hL)).mono ?_⟩
  rintro e w' ⟨rfl, hw'⟩
  rw [hw'] at HA0 HB0
  have k2 := holds_at HA0.out 1 rfl
  have k3 := holds_at HA0.out 0 rfl
  have f2 : w'.frozen? ⟨w.heap.size + 1 + 1, 0, none⟩ = false := frozen_of_row _ _ _ _ _ k2
  have f3 : w'.frozen? ⟨w.heap.size + 1 + 1 + 1, 0, none⟩ = false := frozen_of_row _ _ _ _ _ k3
  have c2 := cellAt k2 0 _ rfl
  have c3 := cellAt k3 0 _ rfl
  have HK2 : Hid _ := k2
  have HK3 : Hid _ := k3
  clear k2 k3 hw'
  unfold errAt at *
  gi_wp2
  have m2 : ((w'.setCell ⟨w.heap.size + 1 + 1, 0, none⟩ (.slice none 0 0)).setCell ⟨w.heap.size + 1 + 1 + 1, 0, none⟩ (errAt s)).heap[w.heap.size + 1 + 1]? = some (.cells #[.slice none 0 0] 22 (0, 0)) := one_other8 (one_same8 HK2.out) (by omega)
  have m3 : ((w'.setCell ⟨w.heap.size + 1 + 1, 0, none⟩ (.slice none 0 0)).setCell ⟨w.heap.size + 1 + 1 + 1, 0, none⟩ (errAt s)).heap[w.heap.size + 1 + 1 + 1]? = some (.cells #[errAt s] 26 (0, 0)) := one_same8 (one_other8 HK3.out (by omega))
  have d2 := cellAt m2 0 _ rfl
  have d3 := cellAt m3 0 _ rfl
  unfold errAt at d2 d3
  refine ⟨.tuple #[.slice none 0 0, errAt s], by simp [results, Tryz.f26, go_sem, d2, d3, errAt], rfl, ?_⟩
  exact (HB0.out.setCell (p := ⟨w.heap.size + 1 + 1, 0, none⟩) (by show w.heap.size ≤ w.heap.size + 1 + 1; omega) _).setCell (p := ⟨w.heap.size + 1 + 1 + 1, 0, none⟩) (by show w.heap.size ≤ w.heap.size + 1 + 1 + 1; omega) _
end Go.Proofs.YtjmbpldkggbdlaaGreatDoor

/- The walk of DamageBack: at all numbers and lists. -/
namespace Go.Proofs.YtjmbpldkggbdlaaGreatDoor
open Go.RowKit Gf
set_option linter.unusedVariables false
set_option maxRecDepth 20000
theorem textB_short {k n : Nat} {ns : List Nat} (hk : k < 15) (hn : n ≤ 32) (h1 : ns.Pairwise (· < ·)) (h2 : ∀ x ∈ ns, x < n) : (textB k ns).length ≤ 200 := by
  unfold textB
  split
  · decide
  · exact textB_len hk hn h1 h2
set_option maxHeartbeats 8000000 in
theorem back_bad (k r : Int) (l cap q : Nat) (a : Option Addr) (xs : List Int) (w : World) (E : Nat → Addr) (hE : ErrsG w E) (hk0 : -9223372036854775808 ≤ k) (hk1 : k ≤ 9223372036854775807) (hr0 : -9223372036854775808 ≤ r) (hr1 : r ≤ 9223372036854775807)
    (hl : l = xs.length) (hl9 : l ≤ 17592186043904) (hcap : l ≤ cap) (hX : RowI w a xs) (hq : (¬ LegalP k r ∧ q = 0) ∨ (∃ a1 b1 : Nat, k = a1 ∧ r = b1 ∧ 1 ≤ a1 ∧ 2 ≤ b1 ∧ a1 + b1 ≤ 16 ∧ ¬ GoodH (2 * (a1 + b1)) xs ∧ q = 3)) :
    Calls Tryz.prog 5 #[.int .i64 k, .int .i64 r, .slice a l cap] w fun e w' => e = .returned (.bool true) ∧ Below w.heap.size w w' := by
  have hc : chkE k r xs = q + 1 := by
    rcases hq with ⟨h, rfl⟩ | ⟨a1, b1, rfl, rfl, h1, h2, h3, h4, rfl⟩
    · exact chkE_bad h
    · exact chkE_no h1 h2 h3 h4
  have HE : Hid (ErrsG w E) := hE
  have HX : Hid (RowI w a xs) := hX
  have HL : Hid (l = xs.length) := hl
  have HQ : Hid _ := hq
  have HF : Hid (∀ W, Below w.heap.size w W → Calls Tryz.prog 16 #[.int .i64 k, .int .i64 r, .slice a l cap] W fun e w' => e = .returned (.tuple #[.string (strB []), errAt (E q)]) ∧ Below W.heap.size W w') := fun W hb => by
    refine text_err k r (.slice a l cap) (E q) W fun w0 h0 => ?_
    subst h0
    have hC := dcheck_F k r l cap a xs w0 E (errsG_below hE hb).1 hk0 hk1 hr0 hr1 hl (by omega) hcap (rowI_below hX hb)
    rw [hc] at hC
    exact hC
  clear hE hX hl hq hc
  go_enter Tryz.func5, Tryz.ntmps5
  go_wp2_with fail
  refine Calls.mono (alive8_ok w E HE.out) ?_
  rintro e w1 ⟨rfl, hb1⟩
  have HB1 : Hid _ := hb1
  clear hb1
  go_wp2_with fail
  refine Calls.mono (HF.out _ HB1.out) ?_
  unfold errAt
  rintro e w2 ⟨rfl, hb2⟩
  have HB2 : Hid _ := HB1.out.trans (hb2.mono HB1.out.size)
  clear hb2
  rcases HQ.out with ⟨hn, rfl⟩ | ⟨a1, b1, rfl, rfl, h1, h2, h3, hg9, rfl⟩
  · have HN : Hid _ := hn
    clear hn HQ HF
    go_wp2_with fail
    refine Calls.mono (legal_no k r _ hk0 hk1 hr0 hr1 HN.out) ?_
    rintro e w10 ⟨rfl, rfl⟩
    go_wp2
    go_ret
    exact ⟨rfl, HB2.out⟩
  · have HN : Hid _ := goodB_no hg9
    clear hg9 HQ HF
    go_wp2_with fail
    refine Calls.mono (legal_yes a1 b1 _ h1 h2 h3) ?_
    rintro e w10 ⟨rfl, rfl⟩
    go_wp2_with fail
    refine Calls.mono (rgood_F a1 b1 l cap a xs _ h3 HL.out (by omega) hcap (rowI_below HX.out HB2.out)) ?_
    rw [HN.out]
    rintro e w10 ⟨rfl, rfl⟩
    go_wp2
    go_ret
    exact ⟨rfl, HB2.out⟩
set_option maxHeartbeats 8000000 in
theorem back_good (k r l cap : Nat) (a : Option Addr) (ns : List Nat) (w : World) (E : Nat → Addr) (hE : ErrsG w E) (h1 : 1 ≤ k) (h2 : 2 ≤ r) (h3 : k + r ≤ 16)
    (hl : l = ns.length) (hcap : l ≤ cap) (hX : RowI w a (natJ8 ns)) (hu : ns.Pairwise (· < ·)) (hr : ∀ x ∈ ns, x < 2 * (k + r)) :
    Calls Tryz.prog 5 #[.int .i64 k, .int .i64 r, .slice a l cap] w fun e w' => e = .returned (.bool true) ∧ Below w.heap.size w w' := by
  have hl32 : l ≤ 32 := by have := pair_len hu hr; omega
  have HE : Hid (ErrsG w E) := hE
  have HX : Hid (RowI w a (natJ8 ns)) := hX
  have HL : Hid (l = ns.length) := hl
  have HJ : Hid (l = (natJ8 ns).length) := by show l = _; rw [natJ8_len]; exact hl
  have HU : Hid _ := hu
  have HR : Hid (∀ x ∈ ns, x < 2 * (k + r)) := hr
  have HPT : Hid _ := parse_text (show k < 15 by omega) (show 2 * (k + r) ≤ 32 by omega) hu hr
  have HTS : Hid _ := textB_short (show k < 15 by omega) (show 2 * (k + r) ≤ 32 by omega) hu hr
  clear hE hX hl hu hr
  go_enter Tryz.func5, Tryz.ntmps5
  go_wp2_with fail
  refine Calls.mono (alive8_ok w E HE.out) ?_
  rintro e w1 ⟨rfl, hb1⟩
  have HB1 : Hid _ := hb1
  clear hb1
  go_wp2_with fail
  refine Calls.mono (text_legal k r l cap a ns _ E (errsG_below HE.out HB1.out).1 h1 h2 h3 HL.out hcap (rowI_below HX.out HB1.out) HU.out HR.out) ?_
  rintro e w2 ⟨rfl, hb2⟩
  have HB2 : Hid _ := HB1.out.trans (hb2.mono HB1.out.size)
  clear hb2
  go_wp2_with fail
  refine Calls.mono (parse8_F k r (textB k ns) _ E (errsG_below HE.out HB2.out).1 h1 h2 h3 (by have := HTS.out; omega)) ?_
  rw [HPT.out]
  rintro e w3 ⟨(⟨acc, a3, c3, hacc, rfl, hlo⟩ | ⟨hacc, _⟩), hb3⟩
  · cases hacc
    have HB3 : Hid _ := HB2.out.trans (hb3.mono HB2.out.size)
    obtain ⟨a4, c4, e4, q1, q2, q3, hx4, q5⟩ := hlo
    cases e4
    have HX4 : Hid _ := hx4
    clear hb3 hx4 q1 q2 q3 q5
    rw [← HL.out]
    go_wp2_with fail
    refine Calls.mono (sameInts_F _ a l _ l cap (natJ8 ns) (natJ8 ns) _ HJ.out HJ.out (by omega) (by omega) HX4.out (rowI_below HX.out HB3.out)) ?_
    rw [eqI_true]
    rintro e w4 ⟨rfl, hb4⟩
    have HB4 : Hid _ := HB3.out.trans (hb4.mono HB3.out.size)
    clear hb4
    go_wp2
    go_ret
    exact ⟨rfl, HB4.out⟩
  · cases hacc
theorem back_all (k r : Int) (l cap : Nat) (a : Option Addr) (xs : List Int) (w : World) (E : Nat → Addr) (hE : ErrsG w E) (hk0 : -9223372036854775808 ≤ k) (hk1 : k ≤ 9223372036854775807) (hr0 : -9223372036854775808 ≤ r) (hr1 : r ≤ 9223372036854775807)
    (hl : l = xs.length) (hl9 : l ≤ 17592186043904) (hcap : l ≤ cap) (hX : RowI w a xs) :
    Calls Tryz.prog 5 #[.int .i64 k, .int .i64 r, .slice a l cap] w fun e w' => e = .returned (.bool true) ∧ Below w.heap.size w w' := by
  by_cases hL : LegalP k r
  · obtain ⟨a1, b1, rfl, rfl, h1, h2, h3⟩ := legal_nat hL
    by_cases hg : GoodH (2 * (a1 + b1)) xs
    · obtain ⟨ns, rfl, hu, hr⟩ := goodH_nats hg
      exact back_good a1 b1 l cap a ns w E hE h1 h2 h3 (by rw [natJ8_len] at hl; exact hl) hcap hX hu hr
    · exact back_bad a1 b1 l cap 3 a xs w E hE hk0 hk1 hr0 hr1 hl hl9 hcap hX (.inr ⟨a1, b1, rfl, rfl, h1, h2, h3, hg, rfl⟩)
  · exact back_bad k r l cap 0 a xs w E hE hk0 hk1 hr0 hr1 hl hl9 hcap hX (.inl ⟨hL, rfl⟩)
end Go.Proofs.YtjmbpldkggbdlaaGreatDoor

/- The errors' variables, by the rows' condition, where tables stand ahead of them and behind; nothing of the program is proved here. -/
namespace Go.Proofs.YtjmbpldkggbdlaaGreatDoor
open Go.RowKit Gf
set_option linter.unusedVariables false
set_option maxRecDepth 20000
theorem errs_of_laid_keep {W : World} {laid : List (String × DataW Unit)} {gs : List Nat} (keep : String × DataW Unit → Bool) (n m : Nat) (h : laidMetH Tryz.prog laid W) (he : laid.filter keep = (laid.drop n).take m) (hp : (laid.all fun x => x.2.handleName?.isNone) = true)
    (hn : ((laid.drop n).take m).map (fun x => Tryz.prog.globalNamed x.1) = gs.map some) (ht : ∀ g ∈ gs, (Tryz.prog.globals[g]?).map (·.type) = some 26) (hd : ∀ x ∈ (laid.drop n).take m, ∃ text, x.2 = errD text) : ∃ es, ErrsAt W gs es := by
  have hp2 : (((laid.drop n).take m).all fun x => x.2.handleName?.isNone) = true := List.all_eq_true.2 fun x hx => List.all_eq_true.1 hp x (List.mem_of_mem_drop (List.mem_of_mem_take hx))
  have h2 := h.filter keep
  rw [he] at h2
  exact errs_of_laid h2 hp2 hn ht hd
end Go.Proofs.YtjmbpldkggbdlaaGreatDoor

/- The law DamageBack holds: Parse gives back what Text wrote of a list of halves, and refuses nothing that it wrote, at all numbers and lists; no condition but what the card ties. -/
namespace Go.Proofs.YtjmbpldkggbdlaaGreatDoor.damageBack
open Go.ChangeShapes Go.WideShapes Go.ChangeAt Go.RowKit
open Go.ChangeMaps (open_string shut_string)
open Gf
set_option linter.unusedVariables false
theorem errs {W : World} (h : laidMetH Tryz.prog Rows.damageBackRow.laid W) : ∃ es, ErrsAt W gsDam es :=
  errs_of_laid_keep (fun x => ["tessera/api.ErrParams", "tessera/api.ErrShape", "tessera/api.ErrHalf", "tessera/api.ErrNumber"].contains x.1) 4 4 h (by kernel_rfl) (by kernel_rfl) (by kernel_rfl) (fun g hg => by
    have hall : (gsDam.all fun g => decide ((Tryz.prog.globals[g]?).map (·.type) = some 26)) = true := by kernel_rfl
    simpa using List.all_eq_true.1 hall g hg) (fun x hx => by
    simp only [Rows.damageBackRow, List.drop, List.take, List.mem_cons, List.not_mem_nil, or_false] at hx
    rcases hx with rfl | rfl | rfl | rfl <;> exact ⟨_, rfl⟩)
set_option maxRecDepth 100000 in
theorem lifted (os : Os) (started : os.Started) (H : Type) (enc : TypeId × Value → H) :
    ReturnsInHanded {} Tryz.checked os 5 .any (fun w args => (Rows.damageBackSpec.pre enc Tryz.prog Tryz.f5 Rows.damageBackRow.domain false w args ∧ laidMetH Tryz.prog Rows.damageBackRow.laid w) ∧ sizedMet enc Tryz.prog Tryz.f5 (OpenSpec.ofChange Rows.damageBackSpec) false w args) (Rows.damageBackSpec.post enc Tryz.prog Tryz.f5 false true false false) := by
  refine returnsInHanded_of_change_and (C := Tryz.checked) (X := fun w _ => laidMetH Tryz.prog Rows.damageBackRow.laid w) (fun _ _ _ hh h => h.of_heap hh) own started (by kernel_rfl) Tryz.func5
    (ChangeSpec.witness_shaped (enc := enc) (C := Tryz.checked) (os := os) (X := fun w _ => laidMetH Tryz.prog Rows.damageBackRow.laid w) false (World.laidAll Tryz.prog os Rows.damageBackRow.laid) #[.int .i64 0, .int .i64 0, .slice none 0 0] 8 (World.laidAll_os _ _ _)
      (World.shaped_of_ZipB (by kernel_rfl) (by kernel_rfl)) (by kernel_rfl) (by kernel_rfl) (by kernel_rfl)
      (by rw [MakeChecks.laidMetH_plain _ _ _ (by kernel_rfl)]; exact laidMet_laidAll _ (by kernel_rfl) (by kernel_rfl))) ?_
  intro W base args ds gs before hval0 hW hcnd hsz0 hL _
  have hval : ∀ (j : Nat) t v, Tryz.f5.params[j]? = some t → args[j]? = some v → Value.okWide Tryz.prog W .any base t v := hval0
  have hsz : (DataW.weightsEach Tryz.prog (Tryz.f5.params.toList ++ Rows.damageBackSpec.plain.varTypes Tryz.prog) (ds ++ gs)).all (· ≤ reachBytes) = true := hsz0
  have hW' := hW
  obtain ⟨p, q, hA0, hV, rfl, hfz, hnd⟩ := hW
  have hA : DataW.TrodAll enc Tryz.prog W 0 (fun _ => true) true Tryz.f5.params.toList args.toList ds p := hA0
  rw [Tryz.params5] at hA hval hsz
  obtain ⟨v0, vs0, d0, ds0, p0, q0, hargs, rfl, rfl, h0, r0⟩ := trodAll_cons hA
  obtain ⟨v1, vs1, d1, ds1, p1, q1, rfl, rfl, rfl, h1, r1⟩ := trodAll_cons r0
  obtain ⟨v2, vs2, d2, ds2, p2, q2, rfl, rfl, rfl, h2, r2⟩ := trodAll_cons r1
  obtain ⟨rfl, rfl, rfl⟩ := trodAll_nil r2
  obtain rfl : args = #[v0, v1, v2] := by cases args; simp_all
  obtain ⟨rfl, rfl⟩ := trodVars_none hV
  obtain ⟨es, hes⟩ := errs hL
  have k0 := h0
  have lt0 : ∀ x ∈ p0, x.block < W.heap.size := by obtain ⟨m, hm⟩ := k0; exact DataW.trod_lt m _ _ _ hm
  have k1 := h1
  have lt1 : ∀ x ∈ p1, x.block < W.heap.size := by obtain ⟨m, hm⟩ := k1; exact DataW.trod_lt m _ _ _ hm
  have k2 := h2
  have lt2 : ∀ x ∈ p2, x.block < W.heap.size := by obtain ⟨m, hm⟩ := k2; exact DataW.trod_lt m _ _ _ hm
  obtain ⟨x, rfl, rfl, rfl, wx⟩ := open_int Tryz.underlying3 (hval 0 3 v0 rfl rfl) h0
  obtain ⟨y, rfl, rfl, rfl, wy⟩ := open_int Tryz.underlying3 (hval 1 3 v1 rfl rfl) h1
  obtain ⟨av, lv, cv, xv, rfl, lxv, rxv, lcv, bcv, nav, wnv⟩ := openInts (j := 2) (hval 2 22 v2 rfl rfl) h2 hsz rfl rfl
  clear hA0 hval0
  refine (back_all x y lv cv av xv W (ofDam es) (errsG_of hes) (bounds_i64 wx).1 (bounds_i64 wx).2 (bounds_i64 wy).1 (bounds_i64 wy).2 lxv (Nat.le_trans lcv bcv) lcv rxv).mono fun e W' ⟨he, bel⟩ => ?_
  subst he
  exact ⟨_, rfl, _, _, _, [], _, [], hW', trodAll_mk1 (shut_bool Tryz.underlying4 _), (trodAll_cons_mk (Below.trod laidOut (by kernel_rfl) (of_decide_eq_true (by kernel_rfl)) k0 bel lt0) (trodAll_cons_mk (Below.trod laidOut (by kernel_rfl) (of_decide_eq_true (by kernel_rfl)) k1 bel lt1) (trodAll_cons_mk (Below.trod laidOut (by kernel_rfl) (of_decide_eq_true (by kernel_rfl)) k2 bel lt2) trodAll_mk0))), rfl, bel.frame _, fun h => by cases h⟩

theorem over : Rows.damageBackRow.holds Tryz.pinned (OpenSpec.ofChange Rows.damageBackSpec) :=
  OpenClaim.holds_of_wide 5 Tryz.f5 rfl rfl rfl rfl rfl rfl rfl ⟨rfl, rfl, rfl, rfl, rfl⟩ rfl rfl rfl rfl rfl (by kernel_rfl) Tryz.func5 (by kernel_rfl)
    (of_decide_eq_true (by kernel_rfl)) (by unfold Func.isWrapper; first | (rw [if_pos (by decide +kernel)]; kernel_rfl) | (rw [if_neg (by decide +kernel)]; exact ⟨rfl, rfl⟩))
    (fun os started H enc _ => lifted os started H enc)

theorem proved : Rows.DamageBackCardSaid :=
  Claim7.holds_tied_plain_at .later [] [.data, .data, .data, .data, .sentinel, .sentinel, .sentinel, .sentinel, .pinned] true (true, "5058b7e4062a64372cddf6dcb62c46ebcd46048e0b46b486fa9f484617f21b80") true over (fun _ h => by cases h) (by kernel_rfl) (fun _ h => by cases h) damageBack_row_tie rfl ⟨rfl, rfl⟩ (by kernel_rfl) rfl
    (fun f fn hf hfn => by
      obtain rfl : f = 5 := Option.some.inj ((show Tryz.prog.funcNamed "tessera/tesseralaw08.DamageBack" = some 5 by kernel_rfl).symm.trans hf) |>.symm
      obtain rfl : fn = Tryz.f5 := (Option.some.inj (Tryz.func5.symm.trans hfn)).symm
      exact ⟨by kernel_rfl, fun j t ht => by
        rw [Tryz.params5] at ht
        have hm : t ∈ [3, 3, 22] := by simpa using Array.mem_of_getElem? ht
        have hall : ([3, 3, 22].all fun u => !Tryz.prog.wantsStandIn u) = true := by kernel_rfl
        exact (show Tryz.prog.wantsStandIn t = false by simpa using List.all_eq_true.1 hall t hm)⟩)
    (by kernel_rfl)
#print axioms proved
end Go.Proofs.YtjmbpldkggbdlaaGreatDoor.damageBack
