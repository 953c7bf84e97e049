/- The document's own numbers in decimal, of any size. -/
import Derived.Test.YtbjjmlebpohmcaaDoorHalfN
namespace Go.Proofs.YtbjjmlebpohmcaaDoor
open Go.RowKit Gf
set_option linter.unusedVariables false
set_option maxRecDepth 20000
set_option linter.unusedSimpArgs false
theorem dec_step {m : Nat} (h : 10 ≤ m) : Lib.decDigits m = Lib.decDigits (m / 10) ++ [dig (m % 10)] := by
  rw [Lib.decDigits, dif_neg (by omega)]
  rfl
theorem dec_one {m : Nat} (h : m < 10) : Lib.decDigits m = [dig m] := Lib.decDigits_one h
theorem dec_len (m : Nat) : (Lib.decDigits m).length ≤ m + 1 := by
  induction m using Nat.strongRecOn with
  | _ m ih =>
    by_cases h : m < 10
    · rw [dec_one h]; simp
    · rw [dec_step (by omega), List.length_append]
      have := ih (m / 10) (by omega)
      simp only [List.length_cons, List.length_nil]
      omega
set_option maxHeartbeats 2000000 in
/-- the document's own number in decimal -/
theorem rnumber9_F (n : Nat) (w : World) (h : n < 4611686018427387904) : Calls Tryd.prog 37 #[.int .i64 n] w fun e w' => e = .returned (.string (strB (Lib.decDigits n))) ∧ Below w.heap.size w w' := by
  have hn9 : (n : Int) ≤ 4611686018427387904 := by omega
  go_enter Tryd.func37, Tryd.ntmps37
  go_wp2
  go_loopw [0, 3] (fun v s wr => Below w.heap.size w wr ∧ ∃ (m : Nat) (l : List UInt8), m ≤ n ∧ v = .int .i64 m ∧ s = .string (strB l) ∧ ((l = [] ∧ m = n) ∨ (l ≠ [] ∧ m = 0 ∧ l = Lib.decDigits n) ∨ (l ≠ [] ∧ 1 ≤ m ∧ Lib.decDigits m ++ l = Lib.decDigits n))) (fun v s wr => (intOf v).toNat + emptyN s)
  case atStart => exact ⟨Below.refl _ _, n, [], Nat.le_refl _, rfl, rfl, .inl ⟨rfl, rfl⟩⟩
  case round =>
    obtain ⟨hb, m, l, hm, rfl, rfl, hc⟩ := hrel
    have HB : Hid _ := hb
    have HC : Hid ((l = [] ∧ m = n) ∨ (l ≠ [] ∧ m = 0 ∧ l = Lib.decDigits n) ∨ (l ≠ [] ∧ 1 ≤ m ∧ Lib.decDigits m ++ l = Lib.decDigits n)) := hc
    clear hb hc
    by_cases hfin : l ≠ [] ∧ m = 0
    · have hl : l = Lib.decDigits n := by
        rcases HC.out with ⟨h1, _⟩ | ⟨_, _, h2⟩ | ⟨_, h1, _⟩
        · exact absurd h1 hfin.1
        · exact h2
        · omega
      have hse := strB_some hfin.1
      obtain ⟨_, rfl⟩ := hfin
      have HL : Hid _ := hl
      clear hl
      go_wp2
      go_ret
      exact ⟨by rw [HL.out]; rfl, HB.out⟩
    · have hgo : Lib.decDigits m ++ l = Lib.decDigits n := by
        rcases HC.out with ⟨h1, h2⟩ | ⟨h1, h2, _⟩ | ⟨_, _, h2⟩
        · rw [h1, h2, List.append_nil]
        · exact absurd ⟨h1, h2⟩ hfin
        · exact h2
      have hwhy : l = [] ∨ 1 ≤ m := by
        by_cases e : l = []
        · exact .inl e
        · exact .inr (Nat.pos_of_ne_zero fun h0 => hfin ⟨e, h0⟩)
      have HGO : Hid (Lib.decDigits m ++ l = Lib.decDigits n) := hgo
      have HW : Hid (l = [] ∨ 1 ≤ m) := hwhy
      clear hgo hwhy hfin
      obtain ⟨q, dd, hd, e1, e2, en⟩ : ∃ q dd : Nat, dd < 10 ∧ (m : Int) % 10 = dd ∧ (m : Int) / 10 = q ∧ m = 10 * q + dd := ⟨m / 10, m % 10, by omega, by omega, by omega, by omega⟩
      have HE : Hid (m = 10 * q + dd) := en
      have hcv := conv_digit hd wr
      have hlen : (strB [dig dd]).size + (strB l).size ≤ 4611686018427387906 := by
        have h1 := congrArg List.length HGO.out
        have h2 := dec_len n
        rw [List.length_append] at h1
        rw [strB_size, strB_size]
        simp only [List.length_cons, List.length_nil]
        omega
      have hst : strB [dig dd] ++ strB l = strB (dig dd :: l) := strB_app [dig dd] l
      have HQ : Hid (q ≤ n ∧ ((dig dd :: l) ≠ [] ∧ q = 0 ∧ (dig dd :: l) = Lib.decDigits n ∨ (dig dd :: l) ≠ [] ∧ 1 ≤ q ∧ Lib.decDigits q ++ (dig dd :: l) = Lib.decDigits n)) := by
        refine ⟨by omega, ?_⟩
        by_cases hq : q = 0
        · refine .inl ⟨by simp, hq, ?_⟩
          rw [← HGO.out, dec_one (by omega), show m = dd by omega]
          rfl
        · refine .inr ⟨by simp, by omega, ?_⟩
          rw [← HGO.out, dec_step (m := m) (by omega), show m / 10 = q by omega, show m % 10 = dd by omega, List.append_assoc]
          rfl
      clear en
      by_cases h0 : l = []
      · subst h0
        have hse : (strB ([] : List UInt8)).toList.isEmpty = true := by rw [strB_list]; rfl
        go_wp2
        have hB2 := HB.out.alloc HB.out.size (.cells #[.int .u8 (48 + (dd : Int))] 5)
        exact ⟨⟨hB2, q, dig dd :: [], HQ.out.1, by first | rfl | go_num, by first | rfl | rw [hst], .inr HQ.out.2⟩, by have := HE.out; simp [intOf, emptyN, strB_size, hst] <;> omega⟩
      · have hse := strB_some h0
        have hm1 : 1 ≤ m := HW.out.resolve_left h0
        go_wp2
        have hB2 := HB.out.alloc HB.out.size (.cells #[.int .u8 (48 + (dd : Int))] 5)
        exact ⟨⟨hB2, q, dig dd :: l, HQ.out.1, by first | rfl | go_num, by first | rfl | rw [hst], .inr HQ.out.2⟩, by have := HE.out; simp [intOf, emptyN, strB_size, hst] <;> omega⟩
end Go.Proofs.YtbjjmlebpohmcaaDoor
