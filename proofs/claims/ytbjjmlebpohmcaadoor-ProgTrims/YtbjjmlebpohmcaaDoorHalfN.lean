/- What small numbers in decimal, and names of halves, answer: the library's Itoa, nameOf, Name, Parse of package half, the document's own Number and Name; nothing that was there turns. -/
import Derived.Test.YtbjjmlebpohmcaaDoorHalfF
import Derived.Lib.ItoaNum
import Derived.Lib.ItoaWalk
namespace Go.Proofs.YtbjjmlebpohmcaaDoor
open Go.RowKit Gf
set_option linter.unusedVariables false
set_option maxRecDepth 20000
/-- a number below a hundred in decimal -/
def numB (n : Nat) : List UInt8 := if n < 10 then [UInt8.ofNat (48 + n)] else [UInt8.ofNat (48 + n / 10), UInt8.ofNat (48 + n % 10)]
/-- bytes as a string -/
def strB (l : List UInt8) : ByteArray := ⟨l.toArray⟩
theorem numB_dec {n : Nat} (h : n < 100) : Lib.decDigits n = numB n := by
  by_cases h1 : n < 10
  · rw [Lib.decDigits_one h1, numB, if_pos h1]
  · rw [Lib.decDigits_two h1 h, numB, if_neg h1]
theorem small_ba (x : ByteArray) (l : List UInt8) (h : x.data.toList = l) : x = strB l := by
  subst h
  cases x
  simp [strB]
theorem extr_data (x : ByteArray) (i j : Nat) : (x.extract i j).data.toList = (x.data.toList.drop i).take (j - i) := by
  simp [ByteArray.data_extract]
set_option maxHeartbeats 2000000 in
set_option maxRecDepth 100000 in
theorem small_F (i : Nat) (h : i < 100) (w : World) : Calls Tryd.prog 72 #[.int .i64 i] w fun e w' => e = .returned (.string (strB (numB i))) ∧ w = w' := by
  rw [← numB_dec h]
  go_enter Tryd.func72, Tryd.ntmps72
  go_name_bytes_deep 45 SM hSM
  have eSM : SM = Lib.smalls := by rw [← hSM]; decide +kernel
  subst eSM
  clear hSM
  go_name_bytes_deep 30 DG hDG
  have eDG : DG = Lib.digits36 := by rw [← hDG]; decide +kernel
  subst eDG
  clear hDG
  by_cases h10 : i < 10
  · have hsl : ∀ w, (Instr.slice 9 (.string Lib.digits36) (some (.int .i64 (i : Int))) (some (.int .i64 ((i : Int) + 1))) none).run Tryd.prog w = .ok (.string (Lib.digits36.extract i (i + 1))) w := fun w => by
      rw [run_slice_string w 9 Lib.digits36 .i64 .i64 _ _ Tryd.underlying9 (by omega) (by omega) (by rw [Lib.digits36_size]; omega), show ((i : Int)).toNat = i by omega, show ((i : Int) + 1).toNat = i + 1 by omega]
    go_wp2
    go_ret
    refine ⟨?_, rfl⟩
    show Ending.returned (Value.string (Lib.digits36.extract i (i + 1))) = _
    rw [small_ba (Lib.digits36.extract i (i + 1)) (Lib.decDigits i) (by rw [extr_data]; exact Lib.digits36_piece h10)]
  · have hsl : ∀ w, (Instr.slice 9 (.string Lib.smalls) (some (.int .i64 ((i : Int) * 2))) (some (.int .i64 ((i : Int) * 2 + 2))) none).run Tryd.prog w = .ok (.string (Lib.smalls.extract (i * 2) (i * 2 + 2))) w := fun w => by
      rw [run_slice_string w 9 Lib.smalls .i64 .i64 _ _ Tryd.underlying9 (by omega) (by omega) (by rw [Lib.smalls_size]; omega), show ((i : Int) * 2).toNat = i * 2 by omega, show ((i : Int) * 2 + 2).toNat = i * 2 + 2 by omega]
    go_wp2
    go_ret
    refine ⟨?_, rfl⟩
    show Ending.returned (Value.string (Lib.smalls.extract (i * 2) (i * 2 + 2))) = _
    rw [small_ba (Lib.smalls.extract (i * 2) (i * 2 + 2)) (Lib.decDigits i) (by rw [extr_data]; exact Lib.smalls_piece h10 h)]
set_option maxRecDepth 100000 in
theorem itoa_F (i : Nat) (h : i < 100) (w : World) : Calls Tryd.prog 45 #[.int .i64 i] w fun e w' => e = .returned (.string (strB (numB i))) ∧ w = w' := by
  go_enter Tryd.func45, Tryd.ntmps45
  go_wp2_with (first
    | (go_at_call 72; refine (small_F i h _).mono ?_; rintro e w' ⟨rfl, rfl⟩)
    | go_in)
  go_ret
  exact ⟨rfl, rfl⟩
/-- a half's name -/
def nameB (k h : Nat) : List UInt8 := (if h / 2 < k then 100 :: numB (h / 2) else 112 :: numB (h / 2 - k)) ++ [if h % 2 = 0 then 97 else 98]
theorem ab0 : (⟨#[97, 98]⟩ : ByteArray).extract 0 1 = strB [97] := by decide +kernel
theorem ab1 : (⟨#[97, 98]⟩ : ByteArray).extract 1 2 = strB [98] := by decide +kernel
theorem strB_app (a b : List UInt8) : strB a ++ strB b = strB (a ++ b) := by
  apply ByteArray.ext
  simp [strB]
theorem strB_size (l : List UInt8) : (strB l).size = l.length := by simp [strB, ByteArray.size]
theorem numB_size (n : Nat) : (strB (numB n)).size ≤ 2 := by
  rw [strB_size, numB]
  split <;> simp
theorem strB_one (c : UInt8) : (⟨#[c]⟩ : ByteArray) = strB [c] := rfl
theorem strB_nil : (⟨#[]⟩ : ByteArray) = strB [] := rfl
theorem strB_inj {a b : List UInt8} (h : strB a = strB b) : a = b := by
  have := congrArg (fun x => x.data.toList) h
  simpa [strB] using this
def dig (d : Nat) : UInt8 := UInt8.ofNat (48 + d)
theorem numB_one {n : Nat} (h : n < 10) : numB n = [dig n] := if_pos h
theorem numB_two {n : Nat} (h : ¬ n < 10) : numB n = [dig (n / 10), dig (n % 10)] := if_neg h
theorem strB_list (l : List UInt8) : (strB l).toList = l := by simp [strB]
theorem strB_some {l : List UInt8} (h : l ≠ []) : (strB l).toList.isEmpty = false := by rw [strB_list]; cases l with | nil => exact absurd rfl h | cons => rfl
theorem numB_ne (n : Nat) : numB n ≠ [] := by rw [numB]; split <;> simp
def emptyN : Value → Nat | .string b => if b.size = 0 then 1 else 0 | _ => 0
theorem vf_digit {d : Nat} (h : d < 10) : Value.int .u8 (48 + (d : Int)) = vf (dig d) := by
  have : (UInt8.ofNat (48 + d)).toNat = 48 + d := by rw [UInt8.toNat_ofNat']; omega
  simp only [vf, dig, this]
  simp
theorem conv_digit {d : Nat} (h : d < 10) (w : World) : (convert 31 9 (.slice (some ⟨w.heap.size, 0, none⟩) 1 1)).run Tryd.prog (w.alloc (.cells #[.int .u8 (48 + (d : Int))] 5)) = .ok (.string (strB [dig d])) (w.alloc (.cells #[.int .u8 (48 + (d : Int))] 5)) := by
  rw [vf_digit h]
  exact conv8 (xs := [dig d]) rfl (row8_own (heap_alloc_last w (.cells (vfs [dig d]) 5)))
set_option maxHeartbeats 1000000 in
/-- the document's own number in decimal -/
theorem rnumber_F (n : Nat) (w : World) (h : n < 100) : Calls Tryd.prog 37 #[.int .i64 n] w fun e w' => e = .returned (.string (strB (numB n))) ∧ Below w.heap.size w w' := by
  obtain ⟨q, d, hd, hq, e1, e2, en⟩ : ∃ q d : Nat, d < 10 ∧ q < 10 ∧ (n : Int) % 10 = d ∧ (n : Int) / 10 = q ∧ n = 10 * q + d := ⟨n / 10, n % 10, by omega, by omega, by omega, by omega, by omega⟩
  have HE : Hid _ := en
  clear en
  go_enter Tryd.func37, Tryd.ntmps37
  go_wp2
  go_loopw [0, 3] (fun v s wr => Below w.heap.size w wr ∧ (v = .int .i64 n ∧ s = .string ⟨#[]⟩ ∨ 1 ≤ q ∧ v = .int .i64 q ∧ s = .string (strB [dig d]) ∨ v = .int .i64 0 ∧ s = .string (strB (numB n)))) (fun v s wr => (intOf v).toNat + emptyN s)
  case atStart => exact ⟨Below.refl _ _, .inl ⟨rfl, rfl⟩⟩
  case round =>
    obtain ⟨hb, ⟨rfl, rfl⟩ | ⟨h10, rfl, rfl⟩ | ⟨rfl, rfl⟩⟩ := hrel
    · have HB : Hid _ := hb
      clear hb
      have hcv := conv_digit hd wr
      go_wp2
      have hB2 := HB.out.alloc HB.out.size (.cells #[.int .u8 (48 + (d : Int))] 5)
      have hst : strB [dig d] ++ ⟨#[]⟩ = strB [dig d] := strB_app [dig d] []
      rw [hst]
      by_cases hq0 : q = 0
      · subst hq0
        have hn : n = d := by have := HE.out; omega
        refine ⟨⟨hB2, .inr (.inr ⟨rfl, ?_⟩)⟩, ?_⟩
        · rw [numB_one (by omega), hn]
        · simp [intOf, emptyN, strB_size, strB_nil]
      · refine ⟨⟨hB2, .inr (.inl ⟨by omega, rfl, rfl⟩)⟩, ?_⟩
        have := HE.out
        simp [intOf, emptyN, strB_size, strB_nil]; omega
    · have HB : Hid _ := hb
      clear hb
      have hcv := conv_digit hq wr
      have hse := strB_some (show [dig d] ≠ [] by simp)
      have e3 : (q : Int) % 10 = q := by omega
      have e4 : (q : Int) / 10 = 0 := by omega
      go_wp2
      have hB2 := HB.out.alloc HB.out.size (.cells #[.int .u8 (48 + (q : Int))] 5)
      have hst : strB [dig q] ++ strB [dig d] = strB [dig q, dig d] := strB_app [dig q] [dig d]
      rw [hst]
      have hn := HE.out
      refine ⟨⟨hB2, .inr (.inr ⟨rfl, ?_⟩)⟩, ?_⟩
      · rw [numB_two (by omega), show n / 10 = q by omega, show n % 10 = d by omega]
      · simp [intOf, emptyN, strB_size]; omega
    · have HB : Hid _ := hb
      clear hb
      have hse := strB_some (numB_ne n)
      go_wp2
      go_ret
      exact ⟨rfl, HB.out⟩
end Go.Proofs.YtbjjmlebpohmcaaDoor
