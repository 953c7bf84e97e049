/- What InForm, Same, Equal, SameMatrix, SameBytes answer, of all matrices; nothing that was there turns. -/
import Derived.Test.YtkmlanolaogaiaaDoorMatA
namespace Go.Proofs.YtkmlanolaogaiaaDoor
open Go.RowKit Gf
set_option linter.unusedVariables false
set_option maxRecDepth 20000
set_option maxHeartbeats 400000 in
theorem inForm_yes (r c : Nat) (a : Option Addr) (l cap : Nat) (w : World) (hr : r ≤ 64) (hc : c ≤ 64) (hl : l = r * c) :
    Calls Tryd.prog 13 #[.agg #[.int .i64 r, .int .i64 c, .slice a l cap]] w fun e w' => e = .returned (.bool true) ∧ Below w.heap.size w w' := by
  obtain ⟨m0, m1⟩ := mul_small hr hc
  have hb : ((l : Int) == (r : Int) * (c : Int)) = true := by rw [hl]; simp
  have hr0 : (0 : Int) ≤ r := by omega
  have hc0 : (0 : Int) ≤ c := by omega
  have hr' : (r : Int) ≤ 64 := by omega
  have hc' : (c : Int) ≤ 64 := by omega
  clear hl
  go_enter Tryd.func13, Tryd.ntmps13
  go_wp2
  go_ret
  exact ⟨rfl, (Below.refl _ _).alloc (Nat.le_refl _) _⟩
set_option maxHeartbeats 400000 in
theorem inForm_no (r c : Int) (a : Option Addr) (l cap : Nat) (w : World) (h : ¬ (0 ≤ r ∧ r ≤ 64 ∧ 0 ≤ c ∧ c ≤ 64 ∧ (l : Int) = r * c)) :
    Calls Tryd.prog 13 #[.agg #[.int .i64 r, .int .i64 c, .slice a l cap]] w fun e w' => e = .returned (.bool false) ∧ Below w.heap.size w w' := by
  by_cases h1 : 0 ≤ r
  · by_cases h2 : r ≤ 64
    · by_cases h3 : 0 ≤ c
      · by_cases h4 : c ≤ 64
        · obtain ⟨r, rfl⟩ := Int.eq_ofNat_of_zero_le h1
          obtain ⟨c, rfl⟩ := Int.eq_ofNat_of_zero_le h3
          obtain ⟨m0, m1⟩ := mul_small (r := r) (c := c) (by omega) (by omega)
          have hb : ((l : Int) == (r : Int) * (c : Int)) = false := by rw [beq_eq_false_iff_ne]; omega
          clear h
          go_enter Tryd.func13, Tryd.ntmps13
          go_wp2
          go_ret
          exact ⟨rfl, (Below.refl _ _).alloc (Nat.le_refl _) _⟩
        · clear h
          go_enter Tryd.func13, Tryd.ntmps13
          go_wp2
          go_ret
          exact ⟨rfl, (Below.refl _ _).alloc (Nat.le_refl _) _⟩
      · clear h
        go_enter Tryd.func13, Tryd.ntmps13
        go_wp2
        go_ret
        exact ⟨rfl, (Below.refl _ _).alloc (Nat.le_refl _) _⟩
    · clear h
      go_enter Tryd.func13, Tryd.ntmps13
      go_wp2
      go_ret
      exact ⟨rfl, (Below.refl _ _).alloc (Nat.le_refl _) _⟩
  · clear h
    go_enter Tryd.func13, Tryd.ntmps13
    go_wp2
    go_ret
    exact ⟨rfl, (Below.refl _ _).alloc (Nat.le_refl _) _⟩
/-- are the two lists one? -/
def eqB (xs ys : List F) : Bool := decide (xs = ys)
theorem eqB_true (xs : List F) : eqB xs xs = true := by simp [eqB]
theorem str8_eqB (xs ys : List F) : ((str8 xs).toList == (str8 ys).toList) = eqB xs ys := by
  rw [ByteArray.toList_eq, ByteArray.toList_eq]
  show ((xs.toArray).toList == (ys.toArray).toList) = _
  rw [Bool.eq_iff_iff]; simp [eqB]
set_option maxHeartbeats 400000 in
theorem equal_F (a b : Option Addr) (la ca lb cb : Nat) (xs ys : List F) (w : World) (hla : la = xs.length) (hlb : lb = ys.length) (hx : Row8 w a xs) (hy : Row8 w b ys) :
    Calls Tryd.prog 44 #[.slice a la ca, .slice b lb cb] w fun e w' => e = .returned (.bool (eqB xs ys)) ∧ w = w' := by
  have h1 := conv8 (ca := ca) hla hx
  have h2 := conv8 (ca := cb) hlb hy
  have h3 := str8_eqB xs ys
  clear hla hlb hx hy
  go_enter Tryd.func44, Tryd.ntmps44
  go_wp2
  go_ret
  exact ⟨rfl, rfl⟩
set_option maxHeartbeats 400000 in
theorem same_F (r c : Int) (a b : Option Addr) (la ca lb cb : Nat) (xs ys : List F) (w : World) (hla : la = xs.length) (hlb : lb = ys.length) (hx : Row8 w a xs) (hy : Row8 w b ys) :
    Calls Tryd.prog 28 #[.agg #[.int .i64 r, .int .i64 c, .slice a la ca], .agg #[.int .i64 r, .int .i64 c, .slice b lb cb]] w fun e w' => e = .returned (.bool (eqB xs ys)) ∧ Below w.heap.size w w' := by
  have HX : Hid (Row8 w a xs) := hx
  have HY : Hid (Row8 w b ys) := hy
  have HA : Hid _ := hla
  have HB : Hid _ := hlb
  clear hla hlb hx hy
  go_enter Tryd.func28, Tryd.ntmps28
  go_wp2_with fail
  refine Calls.mono (equal_F a b la ca lb cb xs ys _ HA.out HB.out (row8_alloc (row8_alloc HX.out _) _) (row8_alloc (row8_alloc HY.out _) _)) ?_
  rintro e w' ⟨rfl, rfl⟩
  go_wp2_with fail
  go_ret
  exact ⟨rfl, ((Below.refl _ _).alloc (Nat.le_refl _) _).alloc (by simp) _⟩
set_option maxHeartbeats 400000 in
theorem sameMatrix_F (r c : Int) (a b : Option Addr) (la ca lb cb : Nat) (xs ys : List F) (w : World) (hla : la = xs.length) (hlb : lb = ys.length) (hx : Row8 w a xs) (hy : Row8 w b ys) :
    Calls Tryd.prog 37 #[.agg #[.int .i64 r, .int .i64 c, .slice a la ca], .agg #[.int .i64 r, .int .i64 c, .slice b lb cb]] w fun e w' => e = .returned (.bool (eqB xs ys)) ∧ Below w.heap.size w w' := by
  have h1 := fun o1 o2 => conv8 (ca := ca) hla (row8_alloc (row8_alloc hx o1) o2)
  have h2 := fun o1 o2 => conv8 (ca := cb) hlb (row8_alloc (row8_alloc hy o1) o2)
  have h3 := str8_eqB xs ys
  clear hla hlb hx hy
  go_enter Tryd.func37, Tryd.ntmps37
  go_wp2
  go_ret
  exact ⟨rfl, ((Below.refl _ _).alloc (Nat.le_refl _) _).alloc (by simp) _⟩
end Go.Proofs.YtkmlanolaogaiaaDoor
