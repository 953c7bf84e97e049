/- How the statement's parameters, a half and a text come in: facts for the frame of HalfNames; nothing of the program is proved here. -/
import Derived.Test.YtlcaodnimnghoaaDoorOpenMat
import Derived.Test.YtlcaodnimnghoaaDoorHalfN
import Derived.Lib.SmallJoins
namespace Go.Proofs.YtlcaodnimnghoaaDoor
open Go.ChangeShapes Go.WideShapes Go.ChangeAt Go.RowKit Gf Go.Joins
set_option maxRecDepth 20000
theorem cellsNamed : Tryd.prog.cellsOf 51 = 4 := by kernel_rfl
theorem openNamed {H : Type} {enc : TypeId × Value → H} {W : World} {v : Value} {d : DataW H} {p : List MemPlace} {base : Nat}
    (hv : Value.okWide Tryd.prog W .any base 51 v) (h : DataW.Trod enc Tryd.prog W 0 (fun _ => true) true 51 v d p) :
    ∃ (k r n : Int) (l : List UInt8), v = .agg #[.int .i64 k, .int .i64 r, .int .i64 n, .string (strB l)] ∧
      (-9223372036854775808 ≤ k ∧ k ≤ 9223372036854775807) ∧ (-9223372036854775808 ≤ r ∧ r ≤ 9223372036854775807) ∧ (-9223372036854775808 ≤ n ∧ n ≤ 9223372036854775807) := by
  obtain ⟨v0, v1, v2, v3, y0, y1, y2, y3, n, rfl, rfl, _, e0, e1, e2, e3⟩ := open_agg4 Tryd.underlying51 (by kernel_rfl) cellsNamed hv h
  obtain ⟨k, s0, _, w0⟩ := DataW.trod_int Tryd.underlying3 e0
  obtain ⟨r, s1, _, w1⟩ := DataW.trod_int Tryd.underlying3 e1
  obtain ⟨m, s2, _, w2⟩ := DataW.trod_int Tryd.underlying3 e2
  obtain ⟨b, s3, _, _⟩ := DataW.trod_string Tryd.underlying9 e3
  simp only [List.cons.injEq, and_true] at s0 s1 s2 s3
  subst s0 s1 s2 s3
  refine ⟨k, r, m, b.data.toList, ?_, bounds_i64 w0, bounds_i64 w1, bounds_i64 w2⟩
  rw [← small_ba b b.data.toList rfl]
end Go.Proofs.YtlcaodnimnghoaaDoor
