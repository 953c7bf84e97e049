/- What Half and Stripes of package shards answer, of all numbers; nothing that was there turns. -/
import Derived.Test.YtmlpijlcpeoeaaaDoorShardsL
import Derived.Test.YtmlpijlcpeoeaaaDoorErrs
import Derived.Test.YtmlpijlcpeoeaaaDoorInts
namespace Go.Proofs.YtmlpijlcpeoeaaaDoor
open Go.RowKit Gf
set_option linter.unusedVariables false
set_option maxRecDepth 20000
/-- the error of a number -/
def evV (E : Nat → Addr) (n : Nat) : Value := if n = 0 then .nilIface else errAt (E (n - 1))
theorem evV_zero (E : Nat → Addr) : evV E 0 = .nilIface := rfl
theorem evV_succ (E : Nat → Addr) (n : Nat) : evV E (n + 1) = errAt (E n) := rfl
/-- what stage 6 names -/
def ErrsE (w : World) (E : Nat → Addr) : Prop :=
  w.cell? ⟨0, 0, none⟩ = some (errAt (E 0)) ∧ w.cell? ⟨11, 0, none⟩ = some (errAt (E 11)) ∧ w.cell? ⟨19, 0, none⟩ = some (errAt (E 19))
theorem errsE_below {w w' : World} {E : Nat → Addr} (h : ErrsE w E) (hb : Below w.heap.size w w') : ErrsE w' E := ⟨cell_later hb h.1, cell_later hb h.2.1, cell_later hb h.2.2⟩
theorem scheck_ok (k : Nat) (w : World) (h1 : 1 ≤ k) (h2 : k ≤ 14) :
    Calls Tryd.prog 55 #[.int .i64 k] w fun e w' => e = .returned .nilIface ∧ w = w' := by
  have a1 : (1 : Int) ≤ k := by omega
  have a2 : (k : Int) ≤ 14 := by omega
  clear h1 h2
  go_enter Tryd.func55, Tryd.ntmps55
  go_wp2
  go_ret
  exact ⟨rfl, rfl⟩
theorem scheck_bad (k : Int) (w : World) (s : Addr) (hs : w.cell? ⟨0, 0, none⟩ = some (errAt s)) (h : ¬ OkK k) :
    Calls Tryd.prog 55 #[.int .i64 k] w fun e w' => e = .returned (errAt s) ∧ w = w' := by
  have hg : 0 < w.heap.size := by
    have := World.block_lt_of_cell? w _ hs; simpa using this
  unfold errAt at *
  by_cases h1 : k < 1
  · go_enter Tryd.func55, Tryd.ntmps55
    go_wp2
    go_ret
    exact ⟨rfl, rfl⟩
  · have h2 : 14 < k := by simp only [OkK] at h; omega
    clear h
    go_enter Tryd.func55, Tryd.ntmps55
    go_wp2
    go_ret
    exact ⟨rfl, rfl⟩
theorem most_F (k : Nat) (w : World) (h2 : k ≤ 14) :
    Calls Tryd.prog 56 #[.int .i64 k] w fun e w' => e = .returned (.int .i64 ((128 * k : Nat) : Int)) ∧ w = w' := by
  have E : Hid ((2 : Int) * k * 64 = ((128 * k : Nat) : Int)) := by show _ = _; omega
  go_enter Tryd.func56, Tryd.ntmps56
  go_wp2
  go_ret
  exact ⟨by rw [E.out]; rfl, rfl⟩
theorem half_F (k size : Int) (w : World) (E : Nat → Addr) (hE : ErrsE w E) (hs0 : -9223372036854775808 ≤ size) (hs1 : size ≤ 9223372036854775807) :
    Calls Tryd.prog 32 #[.int .i64 k, .int .i64 size] w fun e w' => e = .returned (.tuple #[.int .i64 (halfV k size), evV E (halfE k size)]) ∧ Below w.heap.size w w' := by
  have HE : Hid _ := hE
  clear hE
  by_cases hk : OkK k
  · obtain ⟨b1, b2⟩ := hk
    obtain ⟨a, rfl⟩ := Int.eq_ofNat_of_zero_le (show 0 ≤ k by omega)
    have c1 : 1 ≤ a := by omega
    have c2 : a ≤ 14 := by omega
    clear b1 b2
    by_cases h1 : size < 1
    · have e1 : halfE a size = 12 := by unfold halfE; rw [if_pos (show OkK a from ⟨by omega, by omega⟩), if_pos h1]
      rw [halfV_no (by rw [e1]; decide), e1, evV_succ]
      have h0 := HE.out.2.1
      have hg := World.block_lt_of_cell? w _ h0
      simp at hg
      clear e1
      unfold errAt at *
      go_enter Tryd.func32, Tryd.ntmps32
      go_wp2_with fail
      refine (scheck_ok _ _ c1 c2).mono ?_
      rintro e w' ⟨rfl, rfl⟩
      go_wp2
      go_region
      go_wp2
      go_ret2
      exact ⟨rfl, (Below.refl _ _).drew⟩
    · by_cases h2 : 128 * (a : Int) < size
      · have e1 : halfE a size = 20 := by unfold halfE; rw [if_pos (show OkK a from ⟨by omega, by omega⟩), if_neg h1, if_pos h2]
        rw [halfV_no (by rw [e1]; decide), e1, evV_succ]
        have h0 := HE.out.2.2
        have hg := World.block_lt_of_cell? w _ h0
        simp at hg
        have h3 : ((128 * a : Nat) : Int) < size := by omega
        clear e1 h2
        unfold errAt at *
        go_enter Tryd.func32, Tryd.ntmps32
        go_wp2_with fail
        refine (scheck_ok _ _ c1 c2).mono ?_
        rintro e w' ⟨rfl, rfl⟩
        go_wp2_with fail
        refine (most_F _ _ c2).mono ?_
        rintro e w' ⟨rfl, rfl⟩
        go_wp2
        go_region
        go_wp2
        go_ret2
        exact ⟨rfl, (Below.refl _ _).drew⟩
      · obtain ⟨n, rfl⟩ := Int.eq_ofNat_of_zero_le (show 0 ≤ size by omega)
        have d1 : 1 ≤ n := by omega
        have d2 : n ≤ 128 * a := by omega
        rw [halfV_ok c1 c2 d1 d2, halfE_ok c1 c2 d1 d2, evV_zero]
        have h3 : (n : Int) ≤ ((128 * a : Nat) : Int) := by omega
        have E2 : Hid (((n : Int) + 2 * a - 1) / (2 * a) = (cntN (2 * a) n : Nat)) := by
          have : (n : Int) + 2 * a - 1 = ((n + 2 * a - 1 : Nat) : Int) := by omega
          show _ = _
          rw [this, cntN]
          simp
        clear h1 h2
        go_enter Tryd.func32, Tryd.ntmps32
        go_wp2_with fail
        refine (scheck_ok _ _ c1 c2).mono ?_
        rintro e w' ⟨rfl, rfl⟩
        go_wp2_with fail
        refine (most_F _ _ c2).mono ?_
        rintro e w' ⟨rfl, rfl⟩
        go_wp2_with fail
        rw [E2.out]
        go_ret2
        exact ⟨rfl, Below.refl _ _⟩
  · have e1 : halfE k size = 1 := by unfold halfE; rw [if_neg hk]
    rw [halfV_no (by rw [e1]; decide), e1, evV_succ]
    have HK : Hid _ := hk
    clear hk e1
    go_enter Tryd.func32, Tryd.ntmps32
    go_wp2_with fail
    refine (scheck_bad _ _ _ HE.out.1 HK.out).mono ?_
    unfold errAt
    rintro e w' ⟨rfl, rfl⟩
    go_wp2_with fail
    go_ret2
    exact ⟨rfl, Below.refl _ _⟩
/-- sizes as the memory has them -/
def strV (m n i : Nat) : List Value := (strL m n i).map (Value.int .i64)
theorem strV_succ {m n i : Nat} {x : Int} (h : x = ((min (n - i * m) m : Nat) : Int)) : strV m n i ++ [.int .i64 x] = strV m n (i + 1) := by rw [h, strV, strV, strL_succ]; simp
theorem ownS_slice {w : World} {B i : Nat} {v : Value} {ns : List Int} (ho : w.ownsRow B 3 1 v i (ns.map (Value.int .i64))) : ∃ a cap, v = .slice a i cap ∧ RowI w a ns ∧ i = ns.length := by
  have hl := ho.1
  simp only [List.length_map, Nat.mul_one] at hl
  rcases ho.2 with ⟨rfl, h0⟩ | ⟨g, cap, cur, rfl, hg⟩
  · subst h0
    obtain rfl : ns = [] := List.eq_nil_of_length_eq_zero (by omega)
    exact ⟨none, 0, rfl, .inl rfl, rfl⟩
  · exact ⟨some ⟨g, 0, none⟩, cap, rfl, rowI_own ho, by omega⟩
end Go.Proofs.YtmlpijlcpeoeaaaDoor
