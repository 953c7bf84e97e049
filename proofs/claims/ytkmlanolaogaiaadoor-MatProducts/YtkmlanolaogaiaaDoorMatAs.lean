/- What the statements' own 'sized' and 'as' answer of a right answer, and of an error; nothing that was there turns. -/
import Derived.Test.YtkmlanolaogaiaaDoorMatS
import Derived.Test.YtkmlanolaogaiaaDoorNum
import Derived.Test.YtkmlanolaogaiaaDoorHolds
namespace Go.Proofs.YtkmlanolaogaiaaDoor
open Go.RowKit Gf
set_option linter.unusedVariables false
set_option maxRecDepth 20000
set_option maxHeartbeats 1000000 in
theorem as_ok (r c : Int) (a b : Option Addr) (la ca lb cb : Nat) (xs : List F) (w : World) (hla : la = xs.length) (hlb : lb = xs.length) (hx : Row8 w a xs) (hy : Row8 w b xs) :
    Calls Tryd.prog 12 #[.agg #[.int .i64 r, .int .i64 c, .slice a la ca], .nilIface, .agg #[.int .i64 r, .int .i64 c, .slice b lb cb], .int .i64 0] w fun e w' => e = .returned (.bool true) ∧ Below w.heap.size w w' := by
  have hb := ((Below.refl w.heap.size w).alloc (Nat.le_refl _) (.cells #[.int .i64 r, .int .i64 c, .slice a la ca] 24)).alloc (by simp) (.cells #[.int .i64 r, .int .i64 c, .slice b lb cb] 24)
  have HX : Hid _ := row8_below hx hb
  have HY : Hid _ := row8_below hy hb
  have HLA : Hid _ := hla
  have HLB : Hid _ := hlb
  have HB : Hid _ := hb
  clear hla hlb hx hy hb
  go_enter Tryd.func12, Tryd.ntmps12
  go_wp2_with fail
  refine Calls.mono (sameMatrix_F r c a b la ca lb cb xs xs _ HLA.out HLB.out HX.out HY.out) ?_
  rintro e w1 ⟨rfl, hb1⟩
  rw [eqB_true]
  have HW1 : Hid (Below w.heap.size w w1) := HB.out.trans (hb1.mono HB.out.size)
  clear hb1
  go_wp2
  go_ret
  exact ⟨rfl, HW1.out⟩
set_option maxHeartbeats 1000000 in
theorem as_err (k : Nat) (n : Int) (hn : n = (k : Int) + 1) (u : Value) (r c : Int) (b : Option Addr) (lb cb : Nat) (w : World) (es : List Addr) (s : Addr) (hes : ErrsAt w gsNum es) (hs : es[k]? = some s) (hu : u = .agg #[.int .i64 r, .int .i64 c, .slice b lb cb]) :
    Calls Tryd.prog 12 #[.agg #[.int .i64 0, .int .i64 0, .slice none 0 0], errAt s, u, .int .i64 n] w fun e w' => e = .returned (.bool true) ∧ Below w.heap.size w w' := by
  subst hu
  have hb := ((Below.refl w.heap.size w).alloc (Nat.le_refl _) (.cells #[.int .i64 0, .int .i64 0, .slice none 0 0] 24)).alloc (by simp) (.cells #[.int .i64 r, .int .i64 c, .slice b lb cb] 24)
  have HE : Hid _ := errsAt_below hes hb
  have HS : Hid _ := hs
  have HB : Hid _ := hb
  have hA := heap_alloc2_old w (.cells #[.int .i64 0, .int .i64 0, .slice none 0 0] 24) (.cells #[.int .i64 r, .int .i64 c, .slice b lb cb] 24)
  have HA : Hid _ := hA
  have hn0 : (n != 0) = true := by rw [bne_iff_ne]; omega
  have HN : Hid _ := hn
  clear hes hs hb hA hn
  go_enter Tryd.func12, Tryd.ntmps12
  go_wp2_with fail
  refine Calls.mono (num_err HE.out HS.out) ?_
  rintro e w1 ⟨rfl, hb1⟩
  rw [← HN.out]
  have hA1 := heap_later HA.out hb1
  have c1 := cellAt hA1 0 _ rfl
  have c2 := cellAt hA1 1 _ rfl
  have c3 := cellAt hA1 2 _ rfl
  have HW1 : Hid (Below w.heap.size w w1) := HB.out.trans (hb1.mono HB.out.size)
  clear hb1 hA1
  go_wp2
  go_ret
  exact ⟨by simp, HW1.out⟩
theorem as_shape (u : Value) (r c : Int) (b : Option Addr) (lb cb : Nat) (w : World) (es : List Addr) (s : Addr) (hes : ErrsAt w gsNum es) (hs : es[1]? = some s) (hu : u = .agg #[.int .i64 r, .int .i64 c, .slice b lb cb]) :
    Calls Tryd.prog 12 #[.agg #[.int .i64 0, .int .i64 0, .slice none 0 0], errAt s, u, .int .i64 2] w fun e w' => e = .returned (.bool true) ∧ Below w.heap.size w w' := as_err 1 2 rfl u r c b lb cb w es s hes hs hu
theorem as_number (u : Value) (r c : Int) (b : Option Addr) (lb cb : Nat) (w : World) (es : List Addr) (s : Addr) (hes : ErrsAt w gsNum es) (hs : es[11]? = some s) (hu : u = .agg #[.int .i64 r, .int .i64 c, .slice b lb cb]) :
    Calls Tryd.prog 12 #[.agg #[.int .i64 0, .int .i64 0, .slice none 0 0], errAt s, u, .int .i64 12] w fun e w' => e = .returned (.bool true) ∧ Below w.heap.size w w' := as_err 11 12 rfl u r c b lb cb w es s hes hs hu
end Go.Proofs.YtkmlanolaogaiaaDoor
