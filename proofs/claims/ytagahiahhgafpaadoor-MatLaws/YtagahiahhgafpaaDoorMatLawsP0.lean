/- How a size and three lists come in; and the walk of the statement MatLaws of all of them. -/
import Derived.Test.YtagahiahhgafpaaDoorMatLawsW
import Derived.Test.YtagahiahhgafpaaDoorOpenMat
namespace Go.Proofs.YtagahiahhgafpaaDoor
open Go.ChangeShapes Go.WideShapes Go.ChangeAt Go.RowKit Gf Go.Joins
set_option linter.unusedVariables false
def gsLaws : List Nat := [0]
theorem cellsThree : Tryd.prog.cellsOf 65 = 4 := by kernel_rfl
theorem openThree {H : Type} {enc : TypeId × Value → H} {W : World} {v : Value} {d : DataW H} {p : List MemPlace} {base : Nat}
    (hv : Value.okWide Tryd.prog W .any base 65 v) (h : DataW.Trod enc Tryd.prog W 0 (fun _ => true) true 65 v d p) :
    ∃ (t : Int) (a b e : Option Addr) (la ca lb cb le ce : Nat) (xs ys zs : List F), v = .agg #[.int .i64 t, .slice a la ca, .slice b lb cb, .slice e le ce] ∧ la = xs.length ∧ lb = ys.length ∧ le = zs.length ∧ Row8 W a xs ∧ Row8 W b ys ∧ Row8 W e zs := by
  obtain ⟨v0, v1, v2, v3, y0, y1, y2, y3, n, rfl, rfl, _, e0, e1, e2, e3⟩ := open_agg4 Tryd.underlying65 (by kernel_rfl) cellsThree hv h
  obtain ⟨t, s0, _, w0⟩ := DataW.trod_int Tryd.underlying3 e0
  obtain ⟨a, la, ca, xs, s1, ha, ka, ra, da, _⟩ := open8_cells e1
  obtain ⟨b, lb, cb, ys, s2, hb, kb, rb, db, _⟩ := open8_cells e2
  obtain ⟨e, le, ce, zs, s3, he, ke, re, de, _⟩ := open8_cells e3
  simp only [List.cons.injEq, and_true] at s0 s1 s2 s3
  subst s0 s1 s2 s3
  exact ⟨t, a, b, e, la, ca, lb, cb, le, ce, xs, ys, zs, rfl, ha, hb, he, ra, rb, re⟩
theorem matlaws_all (t : Int) (lx cx ly cy lz cz : Nat) (ax ay az : Option Addr) (xs ys zs : List F) (w : World) (hX : Row8 w ax xs) (hY : Row8 w ay ys) (hZ : Row8 w az zs) (ex : lx = xs.length) (ey : ly = ys.length) (ez : lz = zs.length) :
    Calls Tryd.prog 7 #[.agg #[.int .i64 t, .slice ax lx cx, .slice ay ly cy, .slice az lz cz]] w fun e w' => e = .returned (.bool true) ∧ Below w.heap.size w w' := by
  have b1 : -9 < t.tmod 9 ∧ t.tmod 9 < 9 := by
    have h1 := Int.tmod_lt_of_pos t (b := 9) (by decide)
    have h2 := Int.tmod_lt_of_pos (-t) (b := 9) (by decide)
    rw [Int.neg_tmod] at h2
    omega
  have hq : 0 ≤ t.tmod 9 + 9 := by omega
  have e0 : (t.tmod 9 + 9).tmod 9 = (t.tmod 9 + 9) % 9 := Int.tmod_eq_emod_of_nonneg hq
  have b2 : 0 ≤ (t.tmod 9 + 9) % 9 ∧ (t.tmod 9 + 9) % 9 < 9 := by omega
  obtain ⟨k, hk⟩ := Int.eq_ofNat_of_zero_le b2.1
  have e1 : wrap64 (t.tmod 9 + 9) = t.tmod 9 + 9 := by unfold wrap64; omega
  have e2 : wrap64 ((t.tmod 9 + 9).tmod 9 + 1) = ((k + 1 : Nat) : Int) := by rw [e0, hk]; unfold wrap64; omega
  exact matlaws_walk (k + 1) lx cx ly cy lz cz t ax ay az xs ys zs w e1 e2 (by omega) (by omega) hX hY hZ ex ey ez
end Go.Proofs.YtagahiahhgafpaaDoor
