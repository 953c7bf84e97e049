/- The document's own words on programs: lists in form, sameness; no error is spoken of. -/
import Derived.Test.YtkoakingmnjdoaaGreatDoorStepW
import Derived.Test.YtkoakingmnjdoaaGreatDoorDamL
namespace Go.Proofs.YtkoakingmnjdoaaGreatDoor
open Go.RowKit Gf
set_option linter.unusedVariables false
set_option maxRecDepth 20000
namespace Prg
theorem goodH_step2 {n i : Nat} {xs : List Int} {x y : Int} (h : i < xs.length) (hx : xs[i] = x) (hy : xs.getD (i - 1) 0 = y) (hg : GoodH n (xs.take i)) : GoodH n (xs.take (i + 1)) ↔ (0 ≤ x ∧ x < n) ∧ (i = 0 ∨ y < x) := by
  rw [goodH_step h hg, hx]
  have hl : (xs.take i).length = i := by rw [List.length_take]; omega
  have e1 : xs.take i = [] ↔ i = 0 := by rw [← List.length_eq_zero_iff, hl]
  by_cases h0 : i = 0
  · simp [h0]
  · have e2 : (xs.take i).getD (i - 1) 0 = y := by
      rw [← hy, List.getD, List.getElem?_take_of_lt (by omega), ← List.getD]
    rw [hl, e2, e1]
theorem goodH_full {n i : Nat} {xs : List Int} (h : ¬ GoodH n (xs.take (i + 1))) : ¬ GoodH n xs := fun h2 => h (goodH_take h2 _)
noncomputable def goodB (n : Nat) (xs : List Int) : Bool := @decide (GoodH n xs) (Classical.propDecidable _)
theorem goodB_yes {n : Nat} {xs : List Int} (h : GoodH n xs) : goodB n xs = true := @decide_eq_true _ (Classical.propDecidable _) h
theorem goodB_no {n : Nat} {xs : List Int} (h : ¬ GoodH n xs) : goodB n xs = false := @decide_eq_false _ (Classical.propDecidable _) h
set_option maxHeartbeats 2000000 in
theorem rlists_F (l cap : Nat) (a : Option Addr) (xs : List Int) (w : World) (hl : l = xs.length) (hl9 : l ≤ 4611686018427387904) (hcap : l ≤ cap) (hX : RowI w a xs) :
    Calls Tryz.prog 62 #[.slice a l cap] w fun e w' => e = .returned (.bool (goodB (32) xs)) ∧ w = w' := by
  obtain ⟨d, hd⟩ : ∃ d, d = goodB (32) xs := ⟨_, rfl⟩
  have HY : Hid (GoodH (32) xs → d = true) := fun h => hd.trans (goodB_yes h)
  have HN0 : Hid (¬ GoodH (32) xs → d = false) := fun h => hd.trans (goodB_no h)
  rw [← hd]
  clear hd
  have HL : Hid (l = xs.length) := hl
  have HX : Hid (RowI w a xs) := hX
  clear hl hX
  go_enter Tryz.func62, Tryz.ntmps62
  go_wp2
  go_loopw [7] (fun i wr => ∃ j : Nat, j ≤ l ∧ i = .int .i64 j ∧ wr = w ∧ GoodH (32) (xs.take j)) (fun i _ => l - (intOf i).toNat)
  case atStart => exact ⟨0, by omega, rfl, rfl, by rw [List.take_zero]; exact goodH_nil _⟩
  case round =>
    obtain ⟨j, hj, rfl, rfl, hg⟩ := hrel
    have HG : Hid (GoodH (32) (xs.take j)) := hg
    clear hg
    by_cases hlt : j < l
    · have hjx : j < xs.length := by rw [← HL.out]; exact hlt
      obtain ⟨b, off, hab, hbl, hc⟩ := rowI_cell HX.out hjx
      have c1 := hc j hjx
      have c0 := hc (j - 1) (by omega)
      rw [show xs.getD j 0 = xs[j] by simp [List.getD, hjx]] at c1
      obtain ⟨x, hx⟩ : ∃ x, xs[j] = x := ⟨_, rfl⟩
      obtain ⟨y, hy⟩ : ∃ y, xs.getD (j - 1) 0 = y := ⟨_, rfl⟩
      have HS : Hid _ := goodH_step2 (n := 32) hjx hx hy HG.out
      have HF : Hid (¬ GoodH (32) (xs.take (j + 1)) → ¬ GoodH (32) xs) := fun h => goodH_full h
      rw [hx] at c1
      rw [hy] at c0
      clear hx hy hc hjx
      subst hab
      by_cases n1 : x < 0
      · have HB : Hid _ := HF.out (fun h => by have := (HS.out.1 h).1; omega)
        clear HS HF c0
        go_wp2
        go_ret
        exact ⟨by rw [HN0.out HB.out]; rfl, rfl⟩
      by_cases n2 : 31 < x
      · have HB : Hid _ := HF.out (fun h => by have := (HS.out.1 h).1; omega)
        clear HS HF c0
        go_wp2
        go_ret
        exact ⟨by rw [HN0.out HB.out]; rfl, rfl⟩
      by_cases n3 : j = 0
      · have HN : Hid _ := HS.out.2 ⟨by omega, .inl n3⟩
        clear HS HF c0
        subst n3
        rw [Nat.add_zero] at c1
        go_wp2
        exact ⟨⟨1, by omega, by go_num, by first | rfl | trivial, HN.out⟩, by simp [intOf]; omega⟩
      obtain ⟨q, rfl⟩ : ∃ q, j = q + 1 := ⟨j - 1, by omega⟩
      rw [Nat.add_sub_cancel] at c0
      by_cases n4 : x ≤ y
      · have HB : Hid _ := HF.out (fun h => by have := (HS.out.1 h).2; omega)
        clear HS HF
        go_wp2
        go_ret
        exact ⟨by rw [HN0.out HB.out]; rfl, rfl⟩
      · have HN : Hid _ := HS.out.2 ⟨by omega, .inr (by omega)⟩
        clear HS HF
        go_wp2
        exact ⟨⟨q + 1 + 1, by omega, by go_num, by first | rfl | trivial, HN.out⟩, by simp [intOf]; omega⟩
    · obtain rfl : j = l := by omega
      have HF : Hid (GoodH (32) xs) := by have := HG.out; rwa [HL.out, List.take_length] at this
      go_wp2
      go_ret
      exact ⟨by rw [HY.out HF.out]; rfl, rfl⟩
end Prg
end Go.Proofs.YtkoakingmnjdoaaGreatDoor
