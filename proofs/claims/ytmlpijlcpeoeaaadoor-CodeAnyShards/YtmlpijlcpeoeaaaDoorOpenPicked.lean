/- How parameters, two lists of bytes, a list of numbers and a number come in as one; facts for the frames of the laws; nothing of the program is proved here. -/
import Derived.Test.YtmlpijlcpeoeaaaDoorOpenPiece
import Derived.Test.YtmlpijlcpeoeaaaDoorOpenMat
namespace Go.Proofs.YtmlpijlcpeoeaaaDoor
open Go.ChangeShapes Go.WideShapes Go.ChangeAt Go.RowKit Gf Go.Joins
set_option linter.unusedVariables false
set_option maxRecDepth 20000
theorem array6 {α : Type} {cs : Array α} (h : cs.size = 6) : ∃ c0 c1 c2 c3 c4 c5, cs = #[c0, c1, c2, c3, c4, c5] := by
  obtain ⟨l⟩ := cs
  match l, h with
  | [c0, c1, c2, c3, c4, c5], _ => exact ⟨c0, c1, c2, c3, c4, c5, rfl⟩
theorem open_agg6 {H : Type} {enc : TypeId × Value → H} {P : Program} {w : World} {base : Nat} {spare : Nat → Bool} {held : Bool} {r : Reach} {b0 : Nat} {t : TypeId} {f0 f1 f2 f3 f4 f5 : Field} {v : Value} {d : DataW H} {p : List MemPlace} (hs : P.underlying t = some (.struct #[f0, f1, f2, f3, f4, f5])) (hone : Go.Deep.oneCellFields P #[f0, f1, f2, f3, f4, f5] = true) (hC : P.cellsOf t = 6)
    (hv : Value.okWide P w r b0 t v) (h : DataW.Trod enc P w base spare held t v d p) :
    ∃ (v0 v1 v2 v3 v4 v5 : Value) (y0 y1 y2 y3 y4 y5 : DataW H × List MemPlace) (n : Nat), v = .agg #[v0, v1, v2, v3, v4, v5] ∧ d = .agg [y0.1, y1.1, y2.1, y3.1, y4.1, y5.1] ∧
      DataW.trod enc P w base spare held n f0.type [v0] = some y0 ∧ DataW.trod enc P w base spare held n f1.type [v1] = some y1 ∧ DataW.trod enc P w base spare held n f2.type [v2] = some y2 ∧ DataW.trod enc P w base spare held n f3.type [v3] = some y3 ∧ DataW.trod enc P w base spare held n f4.type [v4] = some y4 ∧ DataW.trod enc P w base spare held n f5.type [v5] = some y5 := by
  obtain ⟨cs, rfl, hsz⟩ := okWide_struct hs hv
  obtain ⟨c0, c1, c2, c3, c4, c5, rfl⟩ := array6 (hsz.trans hC)
  obtain ⟨fuel, hf⟩ := h
  obtain ⟨xs, n, _, hx, hl, hlen, hel⟩ := DataW.trod_struct hs hf
  match xs, hlen with
  | [y0, y1, y2, y3, y4, y5], _ =>
    obtain ⟨o0, k0⟩ := Go.Deep.hone_of hone 0 f0 rfl
    obtain ⟨o1, k1⟩ := Go.Deep.hone_of hone 1 f1 rfl
    obtain ⟨o2, k2⟩ := Go.Deep.hone_of hone 2 f2 rfl
    obtain ⟨o3, k3⟩ := Go.Deep.hone_of hone 3 f3 rfl
    obtain ⟨o4, k4⟩ := Go.Deep.hone_of hone 4 f4 rfl
    obtain ⟨o5, k5⟩ := Go.Deep.hone_of hone 5 f5 rfl
    have h0 := hel 0 f0 rfl
    have h1 := hel 1 f1 rfl
    have h2 := hel 2 f2 rfl
    have h3 := hel 3 f3 rfl
    have h4 := hel 4 f4 rfl
    have h5 := hel 5 f5 rfl
    simp only [Prod.mk.injEq] at hx
    exact ⟨c0, c1, c2, c3, c4, c5, y0, y1, y2, y3, y4, y5, n, rfl, by rw [hx.1]; rfl, by simpa [Value.cells, o0, k0] using h0, by simpa [Value.cells, o1, k1] using h1, by simpa [Value.cells, o2, k2] using h2, by simpa [Value.cells, o3, k3] using h3, by simpa [Value.cells, o4, k4] using h4, by simpa [Value.cells, o5, k5] using h5⟩
theorem cellsPicked : Tryd.prog.cellsOf 56 = 6 := by kernel_rfl
theorem openPicked {H : Type} {enc : TypeId × Value → H} {W : World} {v : Value} {d : DataW H} {p : List MemPlace} {base : Nat} {ts : List TypeId} {ds : List (DataW H)} {j : Nat}
    (hv : Value.okWide Tryd.prog W .any base 56 v) (h : DataW.Trod enc Tryd.prog W 0 (fun _ => true) true 56 v d p)
    (hsz : (DataW.weightsEach Tryd.prog ts ds).all (· ≤ reachBytes) = true) (ht : ts[j]? = some 56) (hd : ds[j]? = some d) :
    ∃ (k r n : Int) (a b c : Option Addr) (la ca lb cb lc cc : Nat) (xs ys : List F) (ns : List Int), v = .agg #[.int .i64 k, .int .i64 r, .slice a la ca, .slice b lb cb, .slice c lc cc, .int .i64 n] ∧
      (-9223372036854775808 ≤ k ∧ k ≤ 9223372036854775807) ∧ (-9223372036854775808 ≤ r ∧ r ≤ 9223372036854775807) ∧ (-9223372036854775808 ≤ n ∧ n ≤ 9223372036854775807) ∧
      (la = xs.length ∧ Row8 W a xs ∧ la ≤ ca ∧ ca ≤ 140737488351232 ∧ (a = none → ca = 0)) ∧ (lb = ys.length ∧ Row8 W b ys ∧ lb ≤ cb ∧ cb ≤ 140737488351232 ∧ (b = none → cb = 0)) ∧
      (lc = ns.length ∧ RowI W c ns ∧ lc ≤ cc ∧ cc ≤ 17592186043904 ∧ (c = none → cc = 0) ∧ ∀ n ∈ ns, -9223372036854775808 ≤ n ∧ n ≤ 9223372036854775807) := by
  obtain ⟨v0, v1, v2, v3, v4, v5, y0, y1, y2, y3, y4, y5, n, rfl, rfl, e0, e1, e2, e3, e4, e5⟩ := open_agg6 Tryd.underlying56 (by kernel_rfl) cellsPicked hv h
  obtain ⟨k, s0, _, w0⟩ := DataW.trod_int Tryd.underlying3 e0
  obtain ⟨r, s1, _, w1⟩ := DataW.trod_int Tryd.underlying3 e1
  obtain ⟨m, s5, _, w5⟩ := DataW.trod_int Tryd.underlying3 e5
  have hw : ∀ n ∈ DataW.weights Tryd.prog 56 (.agg [y0.1, y1.1, y2.1, y3.1, y4.1, y5.1]), n ≤ reachBytes := fun n hn => by
    simpa using List.all_eq_true.1 hsz _ (DataW.weights_mem_each ht hd n hn)
  simp only [DataW.weights, Tryd.underlying56] at hw
  obtain ⟨a, la, ca, xs, s2, ea, ka, ra, da, na⟩ := open8_cells e2
  obtain ⟨b, lb, cb, ys, s3, eb, kb, rb, db, nb⟩ := open8_cells e3
  obtain ⟨c, lc, cc, ns, s4, x4⟩ := openInts_cell e4 (fun n hn => hw n (by simp [DataW.weightsEach, hn]))
  have r2 : Room2 y2.1 ca := da.imp (fun h => ⟨h.1, h.2.2⟩) id
  have r3 : Room2 y3.1 cb := db.imp (fun h => ⟨h.1, h.2.2⟩) id
  have x2 := room2_le r2 (fun n hn => hw n (by simp [DataW.weightsEach, hn]))
  have x3 := room2_le r3 (fun n hn => hw n (by simp [DataW.weightsEach, hn]))
  simp only [List.cons.injEq, and_true] at s0 s1 s2 s3 s5
  subst s0 s1 s2 s3 s4 s5
  exact ⟨k, r, m, a, b, c, la, ca, lb, cb, lc, cc, xs, ys, ns, rfl, bounds_i64 w0, bounds_i64 w1, bounds_i64 w5, ⟨ea, ra, ka, x2, na⟩, ⟨eb, rb, kb, x3, nb⟩, x4⟩
end Go.Proofs.YtmlpijlcpeoeaaaDoor
