/- Facts for the statement MatPlaces: refusals of Take, two lists apart, the document's own Row, an append in a drawn region. -/
import Derived.Test.YtjmbpldkggbdlaaGreatDoorHalfF
import Derived.Lib.ItoaNum
import Derived.Lib.ItoaWalk
import Derived.Test.YtjmbpldkggbdlaaGreatDoorHalfL
import Derived.Test.YtjmbpldkggbdlaaGreatDoorMatA
import Derived.LaidLaws
import Derived.MakeChecks
import Derived.LaidEql
import Derived.Test.YtjmbpldkggbdlaaGreatDoorOwn
import Derived.Test.YtjmbpldkggbdlaaGreatDoorNumKept
import Derived.Shelf.SlIterI.Sorted
import Derived.Shelf.SlIterI.Nil
import Derived.Shelf.SortM.Plain
import Derived.Shelf.SortM.SortNone
import Derived.Shelf.Strings.OnBuilder
import Derived.Shelf.Strings.Search3
import Derived.Test.YtjmbpldkggbdlaaGreatDoorChecked
import Derived.Maps.OwnSet
import Derived.Maps.OwnOps
import Derived.Maps.AppendAt
import Derived.Test.YtjmbpldkggbdlaaGreatDoorMatO
import Derived.Test.YtjmbpldkggbdlaaGreatDoorHolds
import Derived.Test.YtjmbpldkggbdlaaGreatDoorBaseW
import Derived.Test.YtjmbpldkggbdlaaGreatDoorBaseL
import Derived.Test.YtjmbpldkggbdlaaGreatDoorMatP
import Derived.Test.YtjmbpldkggbdlaaGreatDoorMatRow
import Derived.Test.YtjmbpldkggbdlaaGreatDoorMatV
import Derived.Test.YtjmbpldkggbdlaaGreatDoorHalfR
import Derived.Test.YtjmbpldkggbdlaaGreatDoorMatT
import Derived.Test.YtjmbpldkggbdlaaGreatDoorGfRefW
import Derived.Deep.RegionHeld3
import Derived.Test.YtjmbpldkggbdlaaGreatDoorRegHeld
import Derived.Test.YtjmbpldkggbdlaaGreatDoorNumApart
import Derived.Laws.OwnMore
/- What small numbers in decimal, and names of halves, answer: the library's Itoa, nameOf, Name, Parse of package half, the document's own Number and Name; nothing that was there turns. -/
namespace Go.Proofs.YtjmbpldkggbdlaaGreatDoor
open Go.RowKit Gf
set_option linter.unusedVariables false
set_option maxRecDepth 20000
/-- a number below a hundred in decimal -/
def numB (n : Nat) : List UInt8 := if n < 10 then [UInt8.ofNat (48 + n)] else [UInt8.ofNat (48 + n / 10), UInt8.ofNat (48 + n % 10)]
/-- bytes as a string -/
def strB (l : List UInt8) : ByteArray := ⟨l.toArray⟩
theorem numB_dec {n : Nat} (h : n < 100) : Lib.decDigits n = numB n := by
  by_cases h1 : n < 10
  · rw [Lib.decDigits_one h1, numB, if_pos h1]
  · rw [Lib.decDigits_two h1 h, numB, if_neg h1]
theorem small_ba (x : ByteArray) (l : List UInt8) (h : x.data.toList = l) : x = strB l := by
  subst h
  cases x
  simp [strB]
theorem extr_data (x : ByteArray) (i j : Nat) : (x.extract i j).data.toList = (x.data.toList.drop i).take (j - i) := by
  simp [ByteArray.data_extract]
set_option maxHeartbeats 2000000 in
set_option maxRecDepth 100000 in
theorem small_F (i : Nat) (h : i < 100) (w : World) : Calls Tryz.prog 132 #[.int .i64 i] w fun e w' => e = .returned (.string (strB (numB i))) ∧ w = w' := by
  rw [← numB_dec h]
  go_enter Tryz.func132, Tryz.ntmps132
  go_name_bytes_deep 45 SM hSM
  have eSM : SM = Lib.smalls := by rw [← hSM]; decide +kernel
  subst eSM
  clear hSM
  go_name_bytes_deep 30 DG hDG
  have eDG : DG = Lib.digits36 := by rw [← hDG]; decide +kernel
  subst eDG
  clear hDG
  by_cases h10 : i < 10
  · have hsl : ∀ w, (Instr.slice 9 (.string Lib.digits36) (some (.int .i64 (i : Int))) (some (.int .i64 ((i : Int) + 1))) none).run Tryz.prog w = .ok (.string (Lib.digits36.extract i (i + 1))) w := fun w => by
      rw [run_slice_string w 9 Lib.digits36 .i64 .i64 _ _ Tryz.underlying9 (by omega) (by omega) (by rw [Lib.digits36_size]; omega), show ((i : Int)).toNat = i by omega, show ((i : Int) + 1).toNat = i + 1 by omega]
    go_wp2
    go_ret
    refine ⟨?_, rfl⟩
    show Ending.returned (Value.string (Lib.digits36.extract i (i + 1))) = _
    rw [small_ba (Lib.digits36.extract i (i + 1)) (Lib.decDigits i) (by rw [extr_data]; exact Lib.digits36_piece h10)]
  · have hsl : ∀ w, (Instr.slice 9 (.string Lib.smalls) (some (.int .i64 ((i : Int) * 2))) (some (.int .i64 ((i : Int) * 2 + 2))) none).run Tryz.prog w = .ok (.string (Lib.smalls.extract (i * 2) (i * 2 + 2))) w := fun w => by
      rw [run_slice_string w 9 Lib.smalls .i64 .i64 _ _ Tryz.underlying9 (by omega) (by omega) (by rw [Lib.smalls_size]; omega), show ((i : Int) * 2).toNat = i * 2 by omega, show ((i : Int) * 2 + 2).toNat = i * 2 + 2 by omega]
    go_wp2
    go_ret
    refine ⟨?_, rfl⟩
    show Ending.returned (Value.string (Lib.smalls.extract (i * 2) (i * 2 + 2))) = _
    rw [small_ba (Lib.smalls.extract (i * 2) (i * 2 + 2)) (Lib.decDigits i) (by rw [extr_data]; exact Lib.smalls_piece h10 h)]
set_option maxRecDepth 100000 in
theorem itoa_F (i : Nat) (h : i < 100) (w : World) : Calls Tryz.prog 77 #[.int .i64 i] w fun e w' => e = .returned (.string (strB (numB i))) ∧ w = w' := by
  go_enter Tryz.func77, Tryz.ntmps77
  go_wp2_with (first
    | (go_at_call 132; refine (small_F i h _).mono ?_; rintro e w' ⟨rfl, rfl⟩)
    | go_in)
  go_ret
  exact ⟨rfl, rfl⟩
/-- a half's name -/
def nameB (k h : Nat) : List UInt8 := (if h / 2 < k then 100 :: numB (h / 2) else 112 :: numB (h / 2 - k)) ++ [if h % 2 = 0 then 97 else 98]
theorem ab0 : (⟨#[97, 98]⟩ : ByteArray).extract 0 1 = strB [97] := by decide +kernel
theorem ab1 : (⟨#[97, 98]⟩ : ByteArray).extract 1 2 = strB [98] := by decide +kernel
theorem strB_app (a b : List UInt8) : strB a ++ strB b = strB (a ++ b) := by
  apply ByteArray.ext
  simp [strB]
theorem strB_size (l : List UInt8) : (strB l).size = l.length := by simp [strB, ByteArray.size]
theorem numB_size (n : Nat) : (strB (numB n)).size ≤ 2 := by
  rw [strB_size, numB]
  split <;> simp
theorem strB_one (c : UInt8) : (⟨#[c]⟩ : ByteArray) = strB [c] := rfl
theorem strB_nil : (⟨#[]⟩ : ByteArray) = strB [] := rfl
theorem strB_inj {a b : List UInt8} (h : strB a = strB b) : a = b := by
  have := congrArg (fun x => x.data.toList) h
  simpa [strB] using this
theorem nameOf_d0 (k h s : Nat) (w : World) (hh : h = 2 * s + 0) (hs : s < 100) (hk : k ≤ 100) (hlt : s < k) :
    Calls Tryz.prog 57 #[.int .i64 k, .agg #[.int .i64 s, .int .i64 0]] w fun e w' => e = .returned (.string (strB (nameB k h))) ∧ Below w.heap.size w w' := by
  have hn : nameB k h = 100 :: numB s ++ [97] := by
    rw [nameB, show h / 2 = s by omega, if_pos hlt, if_pos (by omega)]
  clear hh
  have HN : Hid _ := hn
  clear hn
  go_enter Tryz.func57, Tryz.ntmps57
  go_wp2_with fail

  refine (itoa_F s (by omega) _).mono ?_
  rintro e w' ⟨rfl, rfl⟩
  have hz := numB_size s
  go_wp2
  go_ret
  refine ⟨?_, (Below.refl w.heap.size w).alloc (Nat.le_refl _) _⟩
  show Ending.returned (Value.string (⟨#[100]⟩ ++ strB (numB s) ++ ByteArray.extract ⟨#[97, 98]⟩ 0 1)) = _
  rw [ab0, strB_one, strB_app, strB_app, HN.out]
  rfl
theorem nameOf_d1 (k h s : Nat) (w : World) (hh : h = 2 * s + 1) (hs : s < 100) (hk : k ≤ 100) (hlt : s < k) :
    Calls Tryz.prog 57 #[.int .i64 k, .agg #[.int .i64 s, .int .i64 1]] w fun e w' => e = .returned (.string (strB (nameB k h))) ∧ Below w.heap.size w w' := by
  have hn : nameB k h = 100 :: numB s ++ [98] := by
    rw [nameB, show h / 2 = s by omega, if_pos hlt, if_neg (by omega)]
  clear hh
  have HN : Hid _ := hn
  clear hn
  go_enter Tryz.func57, Tryz.ntmps57
  go_wp2_with fail

  refine (itoa_F s (by omega) _).mono ?_
  rintro e w' ⟨rfl, rfl⟩
  have hz := numB_size s
  go_wp2
  go_ret
  refine ⟨?_, (Below.refl w.heap.size w).alloc (Nat.le_refl _) _⟩
  show Ending.returned (Value.string (⟨#[100]⟩ ++ strB (numB s) ++ ByteArray.extract ⟨#[97, 98]⟩ 1 2)) = _
  rw [ab1, strB_one, strB_app, strB_app, HN.out]
  rfl
theorem nameOf_p0 (k h s : Nat) (w : World) (hh : h = 2 * s + 0) (hs : s < 100) (hk : k ≤ 100) (hlt : ¬ s < k) :
    Calls Tryz.prog 57 #[.int .i64 k, .agg #[.int .i64 s, .int .i64 0]] w fun e w' => e = .returned (.string (strB (nameB k h))) ∧ Below w.heap.size w w' := by
  have hn : nameB k h = 112 :: numB (s - k) ++ [97] := by
    rw [nameB, show h / 2 = s by omega, if_neg hlt, if_pos (by omega)]
  clear hh
  obtain ⟨q, rfl⟩ : ∃ q, s = k + q := ⟨s - k, by omega⟩
  rw [show k + q - k = q by omega] at hn
  have E : Hid ((k : Int) + q - k = q) := by show _ = _; omega
  have HN : Hid _ := hn
  clear hn
  go_enter Tryz.func57, Tryz.ntmps57
  go_wp2_with fail
  rw [E.out]
  refine (itoa_F q (by omega) _).mono ?_
  rintro e w' ⟨rfl, rfl⟩
  have hz := numB_size q
  go_wp2
  go_ret
  refine ⟨?_, (Below.refl w.heap.size w).alloc (Nat.le_refl _) _⟩
  show Ending.returned (Value.string (⟨#[112]⟩ ++ strB (numB q) ++ ByteArray.extract ⟨#[97, 98]⟩ 0 1)) = _
  rw [ab0, strB_one, strB_app, strB_app, HN.out]
  rfl
theorem nameOf_p1 (k h s : Nat) (w : World) (hh : h = 2 * s + 1) (hs : s < 100) (hk : k ≤ 100) (hlt : ¬ s < k) :
    Calls Tryz.prog 57 #[.int .i64 k, .agg #[.int .i64 s, .int .i64 1]] w fun e w' => e = .returned (.string (strB (nameB k h))) ∧ Below w.heap.size w w' := by
  have hn : nameB k h = 112 :: numB (s - k) ++ [98] := by
    rw [nameB, show h / 2 = s by omega, if_neg hlt, if_neg (by omega)]
  clear hh
  obtain ⟨q, rfl⟩ : ∃ q, s = k + q := ⟨s - k, by omega⟩
  rw [show k + q - k = q by omega] at hn
  have E : Hid ((k : Int) + q - k = q) := by show _ = _; omega
  have HN : Hid _ := hn
  clear hn
  go_enter Tryz.func57, Tryz.ntmps57
  go_wp2_with fail
  rw [E.out]
  refine (itoa_F q (by omega) _).mono ?_
  rintro e w' ⟨rfl, rfl⟩
  have hz := numB_size q
  go_wp2
  go_ret
  refine ⟨?_, (Below.refl w.heap.size w).alloc (Nat.le_refl _) _⟩
  show Ending.returned (Value.string (⟨#[112]⟩ ++ strB (numB q) ++ ByteArray.extract ⟨#[97, 98]⟩ 1 2)) = _
  rw [ab1, strB_one, strB_app, strB_app, HN.out]
  rfl
theorem nameOf_F (k h s p : Nat) (w : World) (hh : h = 2 * s + p) (hp : p < 2) (hs : s < 100) (hk : k ≤ 100) :
    Calls Tryz.prog 57 #[.int .i64 k, .agg #[.int .i64 s, .int .i64 p]] w fun e w' => e = .returned (.string (strB (nameB k h))) ∧ Below w.heap.size w w' := by
  rcases (show p = 0 ∨ p = 1 by omega) with rfl | rfl
  · by_cases hlt : s < k
    · exact nameOf_d0 k h s w hh hs hk hlt
    · exact nameOf_p0 k h s w hh hs hk hlt
  · by_cases hlt : s < k
    · exact nameOf_d1 k h s w hh hs hk hlt
    · exact nameOf_p1 k h s w hh hs hk hlt
def dig (d : Nat) : UInt8 := UInt8.ofNat (48 + d)
theorem numB_one {n : Nat} (h : n < 10) : numB n = [dig n] := if_pos h
theorem numB_two {n : Nat} (h : ¬ n < 10) : numB n = [dig (n / 10), dig (n % 10)] := if_neg h
theorem strB_list (l : List UInt8) : (strB l).toList = l := by simp [strB]
theorem strB_some {l : List UInt8} (h : l ≠ []) : (strB l).toList.isEmpty = false := by rw [strB_list]; cases l with | nil => exact absurd rfl h | cons => rfl
theorem numB_ne (n : Nat) : numB n ≠ [] := by rw [numB]; split <;> simp
def emptyN : Value → Nat | .string b => if b.size = 0 then 1 else 0 | _ => 0
theorem vf_digit {d : Nat} (h : d < 10) : Value.int .u8 (48 + (d : Int)) = vf (dig d) := by
  have : (UInt8.ofNat (48 + d)).toNat = 48 + d := by rw [UInt8.toNat_ofNat']; omega
  simp only [vf, dig, this]
  simp
theorem conv_digit {d : Nat} (h : d < 10) (w : World) : (convert 61 9 (.slice (some ⟨w.heap.size, 0, none⟩) 1 1)).run Tryz.prog (w.alloc (.cells #[.int .u8 (48 + (d : Int))] 5)) = .ok (.string (strB [dig d])) (w.alloc (.cells #[.int .u8 (48 + (d : Int))] 5)) := by
  rw [vf_digit h]
  exact conv8 (xs := [dig d]) rfl (row8_own (heap_alloc_last w (.cells (vfs [dig d]) 5)))
set_option maxHeartbeats 1000000 in
/-- the document's own number in decimal -/
theorem rnumber_F (n : Nat) (w : World) (h : n < 100) : Calls Tryz.prog 63 #[.int .i64 n] w fun e w' => e = .returned (.string (strB (numB n))) ∧ Below w.heap.size w w' := by
  obtain ⟨q, d, hd, hq, e1, e2, en⟩ : ∃ q d : Nat, d < 10 ∧ q < 10 ∧ (n : Int) % 10 = d ∧ (n : Int) / 10 = q ∧ n = 10 * q + d := ⟨n / 10, n % 10, by omega, by omega, by omega, by omega, by omega⟩
  have HE : Hid _ := en
  clear en
  go_enter Tryz.func63, Tryz.ntmps63
  go_wp2
  go_loopw [0, 3] (fun v s wr => Below w.heap.size w wr ∧ (v = .int .i64 n ∧ s = .string ⟨#[]⟩ ∨ 1 ≤ q ∧ v = .int .i64 q ∧ s = .string (strB [dig d]) ∨ v = .int .i64 0 ∧ s = .string (strB (numB n)))) (fun v s wr => (intOf v).toNat + emptyN s)
  case atStart => exact ⟨Below.refl _ _, .inl ⟨rfl, rfl⟩⟩
  case round =>
    obtain ⟨hb, ⟨rfl, rfl⟩ | ⟨h10, rfl, rfl⟩ | ⟨rfl, rfl⟩⟩ := hrel
    · have HB : Hid _ := hb
      clear hb
      have hcv := conv_digit hd wr
      go_wp2
      have hB2 := HB.out.alloc HB.out.size (.cells #[.int .u8 (48 + (d : Int))] 5)
      have hst : strB [dig d] ++ ⟨#[]⟩ = strB [dig d] := strB_app [dig d] []
      rw [hst]
      by_cases hq0 : q = 0
      · subst hq0
        have hn : n = d := by have := HE.out; omega
        refine ⟨⟨hB2, .inr (.inr ⟨rfl, ?_⟩)⟩, ?_⟩
        · rw [numB_one (by omega), hn]
        · simp [intOf, emptyN, strB_size, strB_nil]
      · refine ⟨⟨hB2, .inr (.inl ⟨by omega, rfl, rfl⟩)⟩, ?_⟩
        have := HE.out
        simp [intOf, emptyN, strB_size, strB_nil]; omega
    · have HB : Hid _ := hb
      clear hb
      have hcv := conv_digit hq wr
      have hse := strB_some (show [dig d] ≠ [] by simp)
      have e3 : (q : Int) % 10 = q := by omega
      have e4 : (q : Int) / 10 = 0 := by omega
      go_wp2
      have hB2 := HB.out.alloc HB.out.size (.cells #[.int .u8 (48 + (q : Int))] 5)
      have hst : strB [dig q] ++ strB [dig d] = strB [dig q, dig d] := strB_app [dig q] [dig d]
      rw [hst]
      have hn := HE.out
      refine ⟨⟨hB2, .inr (.inr ⟨rfl, ?_⟩)⟩, ?_⟩
      · rw [numB_two (by omega), show n / 10 = q by omega, show n % 10 = d by omega]
      · simp [intOf, emptyN, strB_size]; omega
    · have HB : Hid _ := hb
      clear hb
      have hse := strB_some (numB_ne n)
      go_wp2
      go_ret
      exact ⟨rfl, HB.out⟩
/-- the document's own name of a half -/
theorem rname_F (k h : Nat) (w : World) (hh : h < 200) (hk : k ≤ 100) : Calls Tryz.prog 40 #[.int .i64 k, .int .i64 h] w fun e w' => e = .returned (.string (strB (nameB k h))) ∧ Below w.heap.size w w' := by
  obtain ⟨s, p, hp, hs, e1, e2, en⟩ : ∃ s p : Nat, p < 2 ∧ s < 100 ∧ (h : Int) % 2 = p ∧ (h : Int) / 2 = s ∧ h = 2 * s + p := ⟨h / 2, h % 2, by omega, by omega, by omega, by omega, by omega⟩
  have HE : Hid _ := en
  clear en
  go_enter Tryz.func40, Tryz.ntmps40
  go_wp2_with fail
  refine (rnumber_F s _ hs).mono ?_
  rintro e w1 ⟨rfl, hb1⟩
  have HB1 : Hid _ := hb1
  clear hb1
  have hz := numB_size s
  by_cases hlt : k ≤ s
  · obtain ⟨q, rfl⟩ : ∃ q, s = k + q := ⟨s - k, by omega⟩
    have E : (k : Int) + q - k = q := by omega
    have hz2 := numB_size q
    go_wp2_with fail
    refine (rnumber_F q _ (by omega)).mono ?_
    rintro e w2 ⟨rfl, hb2⟩
    have HB2 : Hid (Below w.heap.size w w2) := HB1.out.trans (hb2.mono HB1.out.size)
    clear hb2
    have hn : nameB k h = 112 :: numB q ++ [if p = 0 then 97 else 98] := by
      have := HE.out
      rw [nameB, show h / 2 = k + q by omega, if_neg (by omega), show k + q - k = q by omega, show h % 2 = p by omega]
    have HN : Hid _ := hn
    clear hn
    rcases (show p = 0 ∨ p = 1 by omega) with rfl | rfl
    · go_wp2
      go_ret
      refine ⟨?_, HB2.out⟩
      show Ending.returned (Value.string (⟨#[112]⟩ ++ strB (numB q) ++ ⟨#[97]⟩)) = _
      rw [strB_one, strB_app, strB_one, strB_app, HN.out]
      rfl
    · go_wp2
      go_ret
      refine ⟨?_, HB2.out⟩
      show Ending.returned (Value.string (⟨#[112]⟩ ++ strB (numB q) ++ ⟨#[98]⟩)) = _
      rw [strB_one, strB_app, strB_one, strB_app, HN.out]
      rfl
  · have hn : nameB k h = 100 :: numB s ++ [if p = 0 then 97 else 98] := by
      have := HE.out
      rw [nameB, show h / 2 = s by omega, if_pos (by omega), show h % 2 = p by omega]
    have HN : Hid _ := hn
    clear hn
    rcases (show p = 0 ∨ p = 1 by omega) with rfl | rfl
    · go_wp2
      go_ret
      refine ⟨?_, HB1.out⟩
      show Ending.returned (Value.string (⟨#[100]⟩ ++ strB (numB s) ++ ⟨#[97]⟩)) = _
      rw [strB_one, strB_app, strB_one, strB_app, HN.out]
      rfl
    · go_wp2
      go_ret
      refine ⟨?_, HB1.out⟩
      show Ending.returned (Value.string (⟨#[100]⟩ ++ strB (numB s) ++ ⟨#[98]⟩)) = _
      rw [strB_one, strB_app, strB_one, strB_app, HN.out]
      rfl
end Go.Proofs.YtjmbpldkggbdlaaGreatDoor

/- Lost halves as plain lists: what is left, what is whole, what is gone; no program is spoken of. -/
namespace Go.Proofs.YtjmbpldkggbdlaaGreatDoor
open Go.RowKit Gf
set_option linter.unusedVariables false
set_option maxRecDepth 20000
/-- a list of lost halves, of n halves -/
def GoodH (n : Nat) (xs : List Int) : Prop := xs.Pairwise (· < ·) ∧ ∀ x ∈ xs, 0 ≤ x ∧ x < n
def natJ8 (ns : List Nat) : List Int := ns.map fun (x : Nat) => (x : Int)
theorem goodH_nil (n : Nat) : GoodH n [] := ⟨List.Pairwise.nil, fun x h => by cases h⟩
theorem goodH_snoc {n : Nat} {xs : List Int} {x : Int} : GoodH n (xs ++ [x]) ↔ GoodH n xs ∧ (0 ≤ x ∧ x < n) ∧ ∀ y ∈ xs, y < x := by
  constructor
  · rintro ⟨h1, h2⟩
    have := List.pairwise_append.1 h1
    exact ⟨⟨this.1, fun y hy => h2 y (List.mem_append_left _ hy)⟩, h2 x (by simp), fun y hy => this.2.2 y hy x (by simp)⟩
  · rintro ⟨⟨h1, h2⟩, h3, h4⟩
    refine ⟨List.pairwise_append.2 ⟨h1, by simp, fun y hy z hz => ?_⟩, fun y hy => ?_⟩
    · rw [List.mem_singleton.1 hz]; exact h4 y hy
    · rcases List.mem_append.1 hy with h | h
      · exact h2 y h
      · rw [List.mem_singleton.1 h]; exact h3
/-- behind the last of a rising list -/
theorem last_below {xs : List Int} (h : xs.Pairwise (· < ·)) {x : Int} : (∀ y ∈ xs, y < x) ↔ xs = [] ∨ xs.getD (xs.length - 1) 0 < x := by
  constructor
  · intro hx
    by_cases e : xs = []
    · exact .inl e
    · right
      have hl : xs.length - 1 < xs.length := by have := List.length_pos_iff.2 e; omega
      rw [List.getD, List.getElem?_eq_getElem hl]
      exact hx _ (List.getElem_mem hl)
  · rintro (rfl | hx) y hy
    · cases hy
    · obtain ⟨i, hi, e⟩ := List.getElem_of_mem hy
      have hl : xs.length - 1 < xs.length := by omega
      rw [List.getD, List.getElem?_eq_getElem hl] at hx
      by_cases e2 : i = xs.length - 1
      · subst e2; rw [← e]; exact hx
      · have := List.pairwise_iff_getElem.1 h i (xs.length - 1) hi hl (by omega)
        rw [← e]
        simp at hx
        omega
theorem goodH_take {n : Nat} {xs : List Int} (h : GoodH n xs) (i : Nat) : GoodH n (xs.take i) := ⟨h.1.sublist (List.take_sublist _ _), fun x hx => h.2 x (List.mem_of_mem_take hx)⟩
theorem take_snoc {xs : List Int} {i : Nat} (h : i < xs.length) : xs.take (i + 1) = xs.take i ++ [xs[i]] := by rw [List.take_succ_eq_append_getElem h]
/-- one more number -/
theorem goodH_step {n i : Nat} {xs : List Int} (h : i < xs.length) (hg : GoodH n (xs.take i)) : GoodH n (xs.take (i + 1)) ↔ (0 ≤ xs[i] ∧ xs[i] < n) ∧ (xs.take i = [] ∨ (xs.take i).getD ((xs.take i).length - 1) 0 < xs[i]) := by
  rw [take_snoc h, goodH_snoc, last_below hg.1]
  exact ⟨fun h => h.2, fun h => ⟨hg, h⟩⟩
theorem goodH_nats {n : Nat} {xs : List Int} (h : GoodH n xs) : ∃ ns : List Nat, xs = natJ8 ns ∧ ns.Pairwise (· < ·) ∧ ∀ x ∈ ns, x < n := by
  refine ⟨xs.map Int.toNat, ?_, ?_, ?_⟩
  · rw [natJ8, List.map_map]
    conv => lhs; rw [← List.map_id xs]
    apply List.map_congr_left
    intro x hx
    have := h.2 x hx
    show x = ((x.toNat : Nat) : Int)
    omega
  · rw [List.pairwise_map]
    refine h.1.imp_of_mem fun {a b} ha hb hab => ?_
    have := h.2 a ha; have := h.2 b hb
    omega
  · intro x hx
    obtain ⟨y, hy, rfl⟩ := List.mem_map.1 hx
    have := h.2 y hy
    omega
theorem goodH_of {n : Nat} {ns : List Nat} (h1 : ns.Pairwise (· < ·)) (h2 : ∀ x ∈ ns, x < n) : GoodH n (natJ8 ns) := by
  refine ⟨?_, fun x hx => ?_⟩
  · rw [natJ8, List.pairwise_map]
    exact h1.imp fun h => by omega
  · obtain ⟨y, hy, rfl⟩ := List.mem_map.1 hx
    have := h2 y hy
    omega
theorem natJ8_mem {ns : List Nat} {x : Nat} : (x : Int) ∈ natJ8 ns ↔ x ∈ ns := by
  constructor
  · intro h
    obtain ⟨y, hy, e⟩ := List.mem_map.1 h
    have : y = x := by omega
    exact this ▸ hy
  · exact fun h => List.mem_map.2 ⟨x, h, rfl⟩
theorem natJ8_len (ns : List Nat) : (natJ8 ns).length = ns.length := by simp [natJ8]
theorem natJ8_inj {a b : List Nat} (h : natJ8 a = natJ8 b) : a = b := by
  have := congrArg (List.map Int.toNat) h
  simp only [natJ8, List.map_map] at this
  have e : Int.toNat ∘ (fun x : Nat => (x : Int)) = id := by funext x; simp
  rwa [e, List.map_id, List.map_id] at this
theorem rising_low {p : List Nat} (hu : p.Pairwise (· < ·)) : ∀ k, (h : k < p.length) → k ≤ p[k] := by
  intro k
  induction k with
  | zero => intro _; exact Nat.zero_le _
  | succ k ih => intro h; have h1 := ih (by omega); have := List.pairwise_iff_getElem.1 hu k (k + 1) (by omega) h (by omega); omega
theorem pair_len {n : Nat} {ns : List Nat} (h1 : ns.Pairwise (· < ·)) (h2 : ∀ x ∈ ns, x < n) : ns.length ≤ n := by
  by_cases h0 : ns.length = 0
  · omega
  · have hl : ns.length - 1 < ns.length := by omega
    have a := rising_low h1 _ hl
    have b := h2 _ (List.getElem_mem hl)
    omega
theorem filter_add (p : Nat → Bool) : ∀ l : List Nat, (l.filter p).length + (l.filter fun x => !p x).length = l.length
  | [] => rfl
  | x :: l => by
    have := filter_add p l
    cases h : p x <;> simp [h] <;> omega

/-! what is left, what is whole -/
def leftL (n : Nat) (ns : List Nat) : List Nat := (List.range n).filter fun h => !decide (h ∈ ns)
theorem mem_leftL {n h : Nat} {ns : List Nat} : h ∈ leftL n ns ↔ h < n ∧ h ∉ ns := by simp [leftL]
theorem leftL_up (n : Nat) (ns : List Nat) : (leftL n ns).Pairwise (· < ·) := List.Pairwise.filter _ List.pairwise_lt_range
theorem leftL_len {n : Nat} {ns : List Nat} (h1 : ns.Pairwise (· < ·)) (h2 : ∀ x ∈ ns, x < n) : (leftL n ns).length + ns.length = n := by
  have e : (List.range n).filter (fun h => decide (h ∈ ns)) = ns := by
    refine sorted_eq (List.Pairwise.filter _ List.pairwise_lt_range) h1 fun x => ?_
    simp only [List.mem_filter, List.mem_range, decide_eq_true_eq]
    exact ⟨fun h => h.2, fun h => ⟨h2 x h, h⟩⟩
  have := filter_add (fun h => decide (h ∈ ns)) (List.range n)
  rw [e, List.length_range] at this
  rw [leftL]; omega
theorem leftL_le (n : Nat) (ns : List Nat) : (leftL n ns).length ≤ n := by
  have := List.length_filter_le (fun h => !decide (h ∈ ns)) (List.range n)
  rwa [List.length_range] at this
theorem leftL_back {n : Nat} {ns : List Nat} (h1 : ns.Pairwise (· < ·)) (h2 : ∀ x ∈ ns, x < n) : leftL n (leftL n ns) = ns := by
  refine sorted_eq (leftL_up _ _) h1 fun x => ?_
  rw [mem_leftL, mem_leftL]
  constructor
  · rintro ⟨h, hn⟩
    exact Classical.byContradiction fun hx => hn ⟨h, hx⟩
  · exact fun h => ⟨h2 x h, fun hh => hh.2 h⟩
def wholeL (m : Nat) (ns : List Nat) : List Nat := (List.range m).filter fun s => decide (2 * s ∈ ns) && decide (2 * s + 1 ∈ ns)
theorem mem_wholeL {m s : Nat} {ns : List Nat} : s ∈ wholeL m ns ↔ s < m ∧ 2 * s ∈ ns ∧ 2 * s + 1 ∈ ns := by simp [wholeL]
theorem wholeL_succ (m : Nat) (ns : List Nat) : wholeL (m + 1) ns = wholeL m ns ++ (if 2 * m ∈ ns ∧ 2 * m + 1 ∈ ns then [m] else []) := by
  rw [wholeL, List.range_succ, List.filter_append, ← wholeL]
  congr 1
  by_cases h : 2 * m ∈ ns <;> by_cases h2 : 2 * m + 1 ∈ ns <;> simp [h, h2]
theorem wholeL_le (m : Nat) (ns : List Nat) : (wholeL m ns).length ≤ m := by
  have := List.length_filter_le (fun s => decide (2 * s ∈ ns) && decide (2 * s + 1 ∈ ns)) (List.range m)
  rwa [List.length_range] at this
/-- the kind of damage -/
def kindN (k : Nat) (ns : List Nat) : Nat := if ns = [] then 0 else if ∃ j, j < k ∧ ns = [2 * j, 2 * j + 1] then 1 else 2
/-- the program's way to the kind -/
theorem kind_way {k m : Nat} {ns : List Nat} (hk : k ≤ m) (h1 : ns.Pairwise (· < ·)) :
    kindN k ns = if ns.length = 0 then 0 else if ns.length = 2 ∧ (wholeL m ns).length = 1 ∧ (wholeL m ns).getD 0 0 < k then 1 else 2 := by
  unfold kindN
  by_cases h0 : ns = []
  · simp [h0]
  rw [if_neg h0, if_neg (fun h => h0 (List.length_eq_zero_iff.1 h))]
  have key : (∃ j, j < k ∧ ns = [2 * j, 2 * j + 1]) ↔ (ns.length = 2 ∧ (wholeL m ns).length = 1 ∧ (wholeL m ns).getD 0 0 < k) := by
    constructor
    · rintro ⟨j, hj, rfl⟩
      have e : wholeL m [2 * j, 2 * j + 1] = [j] := by
        refine sorted_eq (p := wholeL m [2 * j, 2 * j + 1]) (List.Pairwise.filter _ List.pairwise_lt_range) (by simp) fun x => ?_
        rw [mem_wholeL]
        simp
        omega
      rw [e]
      exact ⟨rfl, rfl, hj⟩
    · rintro ⟨h2, h3, h4⟩
      obtain ⟨s, hs⟩ := List.length_eq_one_iff.1 h3
      have hm : s ∈ wholeL m ns := by rw [hs]; simp
      obtain ⟨_, ha, hb⟩ := mem_wholeL.1 hm
      rw [hs] at h4
      refine ⟨s, h4, ?_⟩
      match ns, h2 with
      | [x, y], _ =>
        have hxy : x < y := by simpa using h1
        simp at ha hb
        simp
        omega
  by_cases hh : ∃ j, j < k ∧ ns = [2 * j, 2 * j + 1]
  · rw [if_pos hh, if_pos (key.1 hh)]
  · rw [if_neg hh, if_neg (fun h => hh (key.2 h))]

/-! what is gone -/
/-- the rank of the rows of some halves -/
noncomputable def rankL (k : Nat) (car : Nat → Nat) (L : List Nat) : Nat := (pivL (fun i => halfF k car (L.getD i 0)) L.length (2 * k)).length
theorem rankL_le (k : Nat) (car : Nat → Nat) (L : List Nat) : rankL k car L ≤ L.length := rk_rows _ _ _
theorem rankL_cols (k : Nat) (car : Nat → Nat) (L : List Nat) : rankL k car L ≤ 2 * k := pivL_le _ _ _
theorem rank_mono {A B : Mt} {n m c : Nat} (h : RowsIn B m A n c) : (pivL B m c).length ≤ (pivL A n c).length := by
  obtain ⟨C, D, hf⟩ := factor_ex A n c
  have hk : ∀ x : Nat, ∃ e : Nat → F, x < m → ∀ j, j < c → B x j = sumF (fun k => gm (e k) (A k j)) n := fun x => by
    by_cases hx : x < m
    · obtain ⟨e, he⟩ := h x hx; exact ⟨e, fun _ => he⟩
    · exact ⟨fun _ => 0, fun h => absurd h hx⟩
  obtain ⟨e, he⟩ := Classical.axiomOfChoice hk
  refine rk_le (C := fun i l => sumF (fun a => gm (e i a) (C a l)) n) (B := D) fun i hi j hj => ?_
  rw [he i hi j hj, sumF_congr (fun a ha => by rw [hf a ha j hj, sumF_mul_left]), sumF_swap (fun a l => gm (e i a) (gm (C a l) (D l j))) (pivL A n c).length n]
  refine sumF_congr fun l _ => ?_
  rw [sumF_mul_right]
  exact sumF_congr fun a _ => (F.mul_assoc _ _ _).symm
theorem rankL_mono {k : Nat} {car : Nat → Nat} {L M : List Nat} (h : ∀ x ∈ L, x ∈ M) : rankL k car L ≤ rankL k car M := by
  refine rank_mono fun i hi => ?_
  obtain ⟨a, ha, e⟩ := mem_getD (h (L.getD i 0) (by simp [List.getD, hi]))
  refine ⟨fun l => if l = a then 1 else 0, fun j _ => ?_⟩
  show halfF k car (L.getD i 0) j = _
  rw [sumF_pick _ a _ ha (fun l _ hne => by simp [hne])]
  rw [e]; simp
/-- do the others not determine the stripe? -/
noncomputable def goneB (k n : Nat) (car : Nat → Nat) (ns : List Nat) : Bool := decide (rankL k car (leftL n ns) < 2 * k)
theorem gone_mono {k n : Nat} {car : Nat → Nat} {ns ms : List Nat} (h : ∀ x ∈ ns, x ∈ ms) (hg : goneB k n car ns = true) : goneB k n car ms = true := by
  simp only [goneB, decide_eq_true_eq] at *
  refine Nat.lt_of_le_of_lt (rankL_mono fun x hx => ?_) hg
  rw [mem_leftL] at *
  exact ⟨hx.1, fun hh => hx.2 (h x hh)⟩
theorem gone_many {k r : Nat} {car : Nat → Nat} {ns : List Nat} (h1 : ns.Pairwise (· < ·)) (h2 : ∀ x ∈ ns, x < 2 * (k + r)) (h : 2 * r < ns.length) : goneB k (2 * (k + r)) car ns = true := by
  have := leftL_len h1 h2
  have := rankL_le k car (leftL (2 * (k + r)) ns)
  simp only [goneB, decide_eq_true_eq]
  omega
/-- the shards of which something is lost -/
def touchedL (m : Nat) (ns : List Nat) : List Nat := (List.range m).filter fun s => decide (2 * s ∈ ns) || decide (2 * s + 1 ∈ ns)
theorem touchedL_succ (m : Nat) (ns : List Nat) : (touchedL (m + 1) ns).length = (touchedL m ns).length + (if 2 * m ∈ ns ∨ 2 * m + 1 ∈ ns then 1 else 0) := by
  rw [touchedL, List.range_succ, List.filter_append, ← touchedL, List.length_append]
  congr 1
  by_cases h : 2 * m ∈ ns <;> by_cases h2 : 2 * m + 1 ∈ ns <;> simp [h, h2]
theorem gone_few {k r : Nat} {car : Nat → Nat} {ns : List Nat} (hb : k + r ≤ 256) (h : (touchedL (k + r) ns).length ≤ r) : goneB k (2 * (k + r)) car ns = false := by
  have hl := filter_add (fun s => decide (2 * s ∈ ns) || decide (2 * s + 1 ∈ ns)) (List.range (k + r))
  rw [List.length_range] at hl
  have hfr : k ≤ ((List.range (k + r)).filter fun s => !(decide (2 * s ∈ ns) || decide (2 * s + 1 ∈ ns))).length := by
    rw [touchedL] at h; omega
  have hup : ((List.range (k + r)).filter fun s => !(decide (2 * s ∈ ns) || decide (2 * s + 1 ∈ ns))).Pairwise (· < ·) := List.Pairwise.filter _ List.pairwise_lt_range
  have hmem : ∀ s ∈ (List.range (k + r)).filter (fun s => !(decide (2 * s ∈ ns) || decide (2 * s + 1 ∈ ns))), s < k + r ∧ 2 * s ∉ ns ∧ 2 * s + 1 ∉ ns := fun s hs => by simpa using hs
  generalize (List.range (k + r)).filter (fun s => !(decide (2 * s ∈ ns) || decide (2 * s + 1 ∈ ns))) = Fr at *
  have hS : (Fr.take k).Nodup := (hup.sublist (List.take_sublist _ _)).imp Nat.ne_of_lt
  have hSl : (Fr.take k).length = k := by rw [List.length_take]; omega
  have hr := half_rank (car := car) hS hSl (fun x hx => (hmem x (List.mem_of_mem_take hx)).1) hb
  have hm := rankL_mono (k := k) (car := car) (L := bothH (Fr.take k)) (M := leftL (2 * (k + r)) ns) fun x hx => by
    simp only [bothH, List.mem_flatMap, List.mem_cons, List.not_mem_nil, or_false] at hx
    obtain ⟨s, hs, e⟩ := hx
    obtain ⟨h1, h2, h3⟩ := hmem s (List.mem_of_mem_take hs)
    rw [mem_leftL]
    rcases e with rfl | rfl
    · exact ⟨by omega, h2⟩
    · exact ⟨by omega, h3⟩
  unfold rankL at hm
  rw [bothH_len, hSl, hr] at hm
  simp only [goneB, rankL]
  exact decide_eq_false (by omega)
theorem gone_none {k r : Nat} {car : Nat → Nat} {s : Nat} (h1 : 1 ≤ r) (hb : k + r ≤ 256) : goneB k (2 * (k + r)) car [2 * s, 2 * s + 1] = false := by
  refine gone_few hb (Nat.le_trans ?_ h1)
  have hs : ∀ x ∈ touchedL (k + r) [2 * s, 2 * s + 1], x = s := fun x hx => by
    simp [touchedL] at hx
    omega
  have hn : (touchedL (k + r) [2 * s, 2 * s + 1]).Pairwise (· < ·) := List.Pairwise.filter _ List.pairwise_lt_range
  match e : touchedL (k + r) [2 * s, 2 * s + 1] with
  | [] => exact Nat.zero_le _
  | [x] => exact Nat.le_refl _
  | x :: y :: l =>
    rw [e] at hs hn
    have h1 := hs x (by simp)
    have h2 := hs y (by simp)
    simp at hn
    omega
end Go.Proofs.YtjmbpldkggbdlaaGreatDoor

/- What the named variables of package api hold, by the rows' condition: errors, each of a block of its own. -/
namespace Go.Proofs.YtjmbpldkggbdlaaGreatDoor
open Go.RowKit Go.ChangeShapes
set_option linter.unusedVariables false
set_option maxRecDepth 20000
theorem cellsES : Tryz.prog.cellsOf 203 = 1 := by kernel_rfl
theorem cellsStr : Tryz.prog.cellsOf 9 = 1 := by kernel_rfl
theorem starES : "*" ++ "errors.errorString" = "*errors.errorString" := by decide
theorem rowES (u : TypeId) (h : Tryz.prog.typeName? 3 u = some "*errors.errorString") : u = 188 :=
  typeName_ptr_named (nm := "errors.errorString") (by rw [starES]; kernel_rfl) (by kernel_rfl) (by decide) u (by rw [starES]; exact h)
/-- an error's datum -/
def errD (text : List UInt8) : DataW Unit := .iface "*errors.errorString" (.ptr (.agg [.lit (.string text)]))
def ErrsAt (W : World) (gs : List Nat) (es : List Addr) : Prop :=
  gs.length = es.length ∧ es.Nodup ∧ ∀ (k g : Nat) (a : Addr), gs[k]? = some g → es[k]? = some a → W.cell? ⟨g, 0, none⟩ = some (errAt a) ∧ ∃ c t, W.heap[a.block]? = some (.cells c t (0, 0))
theorem errs_go {W : World} : ∀ (laid : List (String × DataW Unit)) (gs : List Nat) (ps : List MemPlace), DataW.LaidVars Tryz.prog W laid ps → ps.Nodup →
    (∀ b off, MemPlace.cell b off ∈ ps → (∃ c t, W.heap[b]? = some (.cells c t (0, 0))) ∧ ∀ u v, W.cell? ⟨b, off, none⟩ = some (.iface u v) → Value.okWide Tryz.prog W .any 0 u v) →
    laid.map (fun x => Tryz.prog.globalNamed x.1) = gs.map some → (∀ g ∈ gs, (Tryz.prog.globals[g]?).map (·.type) = some 26) → (∀ x ∈ laid, ∃ text, x.2 = errD text) →
    ∃ es : List Addr, gs.length = es.length ∧ es.Nodup ∧ (∀ a ∈ es, MemPlace.cell a.block a.off ∈ ps) ∧ ∀ (k g : Nat) (a : Addr), gs[k]? = some g → es[k]? = some a → W.cell? ⟨g, 0, none⟩ = some (errAt a) ∧ ∃ c t, W.heap[a.block]? = some (.cells c t (0, 0))
  | [], [], _, _, _, _, _, _, _ => ⟨[], rfl, List.nodup_nil, fun a h => by simp at h, fun k g a h => by simp at h⟩
  | [], _ :: _, _, _, _, _, h, _, _ => by simp at h
  | _ :: _, [], _, _, _, _, h, _, _ => by simp at h
  | (n, d) :: r, g :: gs, ps, hv, hnd, hrows, hn, ht, hd => by
    obtain ⟨text, hdd⟩ := hd _ List.mem_cons_self
    simp only at hdd
    subst hdd
    obtain ⟨g0, t0, cs0, f0, p0, q0, hg0, ht0, hv0, hd0, hq, rfl⟩ := hv
    simp only [List.map_cons, List.cons.injEq] at hn
    obtain rfl := Option.some.inj (hg0.symm.trans hn.1)
    obtain rfl := Option.some.inj (ht0.symm.trans (ht _ List.mem_cons_self))
    obtain ⟨l0⟩ := cs0
    have ok0 : ∀ u v, l0 = [.iface u v] → Value.okWide Tryz.prog W .any 0 u v := fun u v e => by
      subst e
      exact (hrows g0 0 (by simp [MemPlace.row])).2 u v (by simpa using World.var?_cell hg0 hv0 0)
    obtain ⟨a0, s0, rfl, hc0, hs0, hz0, rfl⟩ := errorString_of_trod Tryz.underlying26 rowES Tryz.underlying188 Tryz.underlying203 rfl rfl Tryz.underlying9 cellsES cellsStr hd0 ok0
    have hndq : q0.Nodup := List.Nodup.sublist (List.sublist_append_right _ _) hnd
    obtain ⟨es, h1, h2, h3, h4⟩ := errs_go r gs q0 hq hndq (fun b off hm => hrows b off (List.mem_append_right _ hm)) hn.2 (fun g hg => ht g (List.mem_cons_of_mem _ hg)) (fun x hx => hd x (List.mem_cons_of_mem _ hx))
    have hm0 : MemPlace.cell a0.block a0.off ∈ MemPlace.row ⟨g0, 0, none⟩ (Array.mk [Value.iface 188 (.pointer (some a0))]).size ++ MemPlace.row a0 1 := by simp [MemPlace.row]
    refine ⟨a0 :: es, by simp [h1], List.nodup_cons.2 ⟨fun hin => ?_, h2⟩, fun a ha => ?_, fun k g a hk ha => ?_⟩
    · exact (List.nodup_append.1 hnd).2.2 _ hm0 _ (h3 _ hin) rfl
    · rcases List.mem_cons.1 ha with rfl | ha
      · exact List.mem_append_left _ hm0
      · exact List.mem_append_right _ (h3 _ ha)
    · cases k with
      | zero =>
        simp only [List.getElem?_cons_zero, Option.some.injEq] at hk ha
        subst hk ha
        exact ⟨by simpa [errAt] using World.var?_cell hg0 hv0 0, (hrows a0.block a0.off (List.mem_append_left _ hm0)).1⟩
      | succ k => exact h4 k g a (by simpa using hk) (by simpa using ha)
theorem errs_of_laid {W : World} {laid : List (String × DataW Unit)} {gs : List Nat} (h : laidMetH Tryz.prog laid W) (hp : (laid.all fun x => x.2.handleName?.isNone) = true)
    (hn : laid.map (fun x => Tryz.prog.globalNamed x.1) = gs.map some) (ht : ∀ g ∈ gs, (Tryz.prog.globals[g]?).map (·.type) = some 26) (hd : ∀ x ∈ laid, ∃ text, x.2 = errD text) : ∃ es, ErrsAt W gs es := by
  rw [MakeChecks.laidMetH_plain _ _ _ hp] at h
  obtain ⟨ps, hv, hnd, hrows⟩ := h
  obtain ⟨es, h1, h2, _, h4⟩ := errs_go laid gs ps hv hnd hrows hn ht hd
  exact ⟨es, h1, h2, h4⟩
theorem errs_at {W : World} {gs : List Nat} {es : List Addr} (h : ErrsAt W gs es) (k g : Nat) (hk : gs[k]? = some g) : ∃ a, es[k]? = some a ∧ W.cell? ⟨g, 0, none⟩ = some (errAt a) ∧ ∃ c t, W.heap[a.block]? = some (.cells c t (0, 0)) := by
  have hlt : k < es.length := by
    rw [← h.1]; exact (List.getElem?_eq_some_iff.1 hk).1
  exact ⟨es[k], List.getElem?_eq_getElem hlt, h.2.2 k g _ hk (List.getElem?_eq_getElem hlt)⟩
theorem errsAt_below {w w' : World} {gs : List Nat} {es : List Addr} (h : ErrsAt w gs es) (hb : Below w.heap.size w w') : ErrsAt w' gs es :=
  ⟨h.1, h.2.1, fun k g a hk ha => by
    obtain ⟨h1, c, t, h2⟩ := h.2.2 k g a hk ha
    exact ⟨(hb.cell (p := ⟨g, 0, none⟩) (by simpa using World.block_lt_of_cell? w _ h1)).trans h1, c, t, heap_later h2 hb⟩⟩
theorem infoPtr : ∃ i, Tryz.prog.info? 188 = some i ∧ i.comparable = true := by
  have h : (Tryz.prog.info? 188).map (·.comparable) = some true := by kernel_rfl
  cases hq : Tryz.prog.info? 188 with
  | none => simp [hq] at h
  | some i => simp only [hq, Option.map_some, Option.some.injEq] at h; exact ⟨i, rfl, h⟩
theorem infoES : ∃ j, Tryz.prog.info? 203 = some j ∧ j.size ≠ 0 := by
  have h : (Tryz.prog.info? 203).map (·.size) = some 1 := by kernel_rfl
  cases hq : Tryz.prog.info? 203 with
  | none => simp [hq] at h
  | some i => simp only [hq, Option.map_some, Option.some.injEq] at h; exact ⟨i, rfl, by omega⟩
/-- one error held against itself -/
theorem eq_same (w : World) (a : Addr) : (binOp .eql 26 (.iface 188 (.pointer (some a))) (.iface 188 (.pointer (some a)))).run Tryz.prog w = .ok (.bool true) w := by
  obtain ⟨i, h1, h2⟩ := infoPtr
  obtain ⟨j, h3, _⟩ := infoES
  exact run_eql_iface_ptr_same w a Tryz.underlying26 Tryz.underlying188 h1 h2 h3
theorem eq_other {w : World} {a b : Addr} {ca cb : Array Value} {ta tb : TypeId} (hne : a ≠ b) (ha : w.heap[a.block]? = some (.cells ca ta (0, 0))) (hb : w.heap[b.block]? = some (.cells cb tb (0, 0))) :
    (binOp .eql 26 (.iface 188 (.pointer (some a))) (.iface 188 (.pointer (some b)))).run Tryz.prog w = .ok (.bool false) w := by
  obtain ⟨i, h1, h2⟩ := infoPtr
  obtain ⟨j, h3, h4⟩ := infoES
  exact run_eql_iface_ptr_other w Tryz.underlying26 Tryz.underlying188 h1 h2 h3 h4 hne ha hb
end Go.Proofs.YtjmbpldkggbdlaaGreatDoor

/- What the statements' own looks at lists of numbers answer: Ints, KeptInts, SameInts; nothing that was there turns. -/
namespace Go.Proofs.YtjmbpldkggbdlaaGreatDoor
open Go.RowKit Gf
set_option linter.unusedVariables false
set_option maxRecDepth 20000
theorem rowI_at {w : World} {b off : Nat} {ns : List Int} (h : ∀ j n, ns[j]? = some n → w.cell? ⟨b, off + j, none⟩ = some (.int .i64 n)) (j : Nat) (hj : j < ns.length) : w.cell? ⟨b, off + j, none⟩ = some (.int .i64 (ns.getD j 0)) := by
  refine h j _ ?_
  rw [List.getD_eq_getElem?_getD, List.getElem?_eq_getElem hj]; rfl
theorem rowI_cell {w : World} {a : Option Addr} {ns : List Int} (h : RowI w a ns) {j : Nat} (hj : j < ns.length) : ∃ b off, a = some ⟨b, off, none⟩ ∧ b < w.heap.size ∧ ∀ j, j < ns.length → w.cell? ⟨b, off + j, none⟩ = some (.int .i64 (ns.getD j 0)) := by
  rcases h with e | ⟨b, off, rfl, h⟩
  · rw [e] at hj; simp at hj
  · have := World.block_lt_of_cell? w _ (rowI_at h j hj)
    exact ⟨b, off, rfl, by simpa using this, fun j hj => rowI_at h j hj⟩
def eqI (ns ms : List Int) : Bool := decide (ns = ms)
theorem eqI_true (ns : List Int) : eqI ns ns = true := by simp [eqI]
theorem eqI_ext {ns ms : List Int} (hl : ns.length = ms.length) (h : ∀ j, j < ns.length → ns.getD j 0 = ms.getD j 0) : ns = ms := by
  apply List.ext_getElem hl
  intro j h1 h2
  have := h j h1
  simpa [List.getD_eq_getElem?_getD, h1, h2] using this
theorem eqI_len {ns ms : List Int} (h : ns.length ≠ ms.length) : eqI ns ms = false := by
  simp only [eqI, decide_eq_false_iff_not]
  intro e; exact h (by rw [e])
theorem eqI_no {ns ms : List Int} {k : Nat} (h : ns.getD k 0 ≠ ms.getD k 0) : eqI ns ms = false := by
  simp only [eqI, decide_eq_false_iff_not]
  intro e; exact h (by rw [e])
set_option maxHeartbeats 1000000 in
theorem sameInts_F (a b : Option Addr) (la ca lb cb : Nat) (ns ms : List Int) (w : World) (hla : la = ns.length) (hlb : lb = ms.length) (ha : la ≤ 140737488355328) (hb : lb ≤ 140737488355328) (hx : RowI w a ns) (hy : RowI w b ms) :
    Calls Tryz.prog 21 #[.slice a la ca, .slice b lb cb] w fun e w' => e = .returned (.bool (eqI ns ms)) ∧ Below w.heap.size w w' := by
  by_cases hl : la = lb
  · subst hl
    have HA : Hid _ := hla
    have HB : Hid _ := hlb
    have HX : Hid _ := hx
    have HY : Hid _ := hy
    clear hla hlb hx hy
    go_enter Tryz.func21, Tryz.ntmps21
    go_wp2
    go_loopw [13] (fun i wr => ∃ k : Nat, k ≤ la ∧ i = .int .i64 k ∧ Below w.heap.size w wr ∧ ∀ j, j < k → ns.getD j 0 = ms.getD j 0) (fun i _ => la - (intOf i).toNat)
    case atStart => exact ⟨0, by omega, rfl, Below.refl _ _, fun j h => absurd h (by omega)⟩
    case round =>
      obtain ⟨k, hk, rfl, hbw, hall⟩ := hrel
      by_cases hlt : k < la
      · obtain ⟨b1, o1, rfl, hb1, h1⟩ := rowI_cell HX.out (show k < ns.length by rw [← HA.out]; exact hlt)
        obtain ⟨b2, o2, rfl, hb2, h2⟩ := rowI_cell HY.out (show k < ms.length by rw [← HB.out]; exact hlt)
        have c1 : wr.cell? ⟨b1, o1 + k, none⟩ = some (.int .i64 (ns.getD k 0)) := cell_later hbw (h1 k (by rw [← HA.out]; exact hlt))
        have c2 : wr.cell? ⟨b2, o2 + k, none⟩ = some (.int .i64 (ms.getD k 0)) := cell_later hbw (h2 k (by rw [← HB.out]; exact hlt))
        have HW : Hid _ := hbw
        have HALL : Hid _ := hall
        clear h1 h2 hbw hall
        generalize hx : ns.getD k 0 = x at c1
        generalize hy : ms.getD k 0 = y at c2
        have EX : Hid _ := hx
        have EY : Hid _ := hy
        clear hx hy
        by_cases hxy : x = y
        · subst hxy
          go_wp2
          go_region
          go_wp2
          refine ⟨⟨k + 1, by omega, by go_num, HW.out.drew, fun j hj => ?_⟩, by simp [intOf]; omega⟩
          by_cases e : j = k
          · subst e; rw [EX.out, EY.out]
          · exact HALL.out j (by omega)
        · have hne : Hid _ := hxy
          go_wp2
          go_region
          go_wp2
          go_ret
          exact ⟨by rw [eqI_no (k := k) (by rw [EX.out, EY.out]; exact hne.out)]; rfl, HW.out.drew⟩
      · have e : ns = ms := eqI_ext (by rw [← HA.out, ← HB.out]) (fun j hj => hall j (by rw [← HA.out] at hj; omega))
        have HE : Hid _ := e
        have HW : Hid _ := hbw
        clear e hbw hall
        go_wp2
        go_ret
        exact ⟨by rw [HE.out, eqI_true]; rfl, HW.out⟩
  · have hne : ns.length ≠ ms.length := by rw [← hla, ← hlb]; exact hl
    have HN : Hid _ := hne
    clear hne hla hlb hx hy
    go_enter Tryz.func21, Tryz.ntmps21
    go_wp2
    go_ret
    exact ⟨by rw [eqI_len HN.out]; rfl, Below.refl _ _⟩
/-- the marks behind a copied list of numbers -/
def marksI : List Int := [-91, -92, -93, -94]
def vis (ns : List Int) : Array Value := (ns.map (Value.int .i64)).toArray
theorem vis_size (ns : List Int) : (vis ns).size = ns.length := by simp [vis]
theorem vis_get {ns : List Int} {j : Nat} {n : Int} (h : ns[j]? = some n) : (vis ns)[j]? = some (.int .i64 n) := by simp [vis, h]
theorem rowI_front {w : World} {g : Nat} {ns ms : List Int} {t : TypeId} {fr : Nat × Nat} (h : w.heap[g]? = some (.cells (vis (ns ++ ms)) t fr)) : RowI w (some ⟨g, 0, none⟩) ns :=
  .inr ⟨g, 0, rfl, fun j n hj => by
    rw [Nat.zero_add]
    exact cellAt h j _ (vis_get (by rw [List.getElem?_append_left (List.getElem?_eq_some_iff.1 hj).1]; exact hj))⟩
theorem rowI_vis {w : World} {g : Nat} {ns : List Int} {t : TypeId} {fr : Nat × Nat} (h : w.heap[g]? = some (.cells (vis ns) t fr)) : RowI w (some ⟨g, 0, none⟩) ns :=
  .inr ⟨g, 0, rfl, fun j n hj => by rw [Nat.zero_add]; exact cellAt h j _ (vis_get hj)⟩
theorem rowI_alloc {w : World} {a : Option Addr} {ns : List Int} (h : RowI w a ns) (o : Obj) : RowI (w.alloc o) a ns := rowI_below h ((Below.refl _ _).alloc (Nat.le_refl _) _)
theorem run_appendI_room {w : World} {g n cap : Nat} {ns old ms : List Int} {a : Option Addr} {m c : Nat} (ty : TypeId) (h : w.heap[g]? = some (.cells (vis (ns ++ old)) 3 (0, 0))) (hn : n = ns.length) (hc : n + m ≤ cap) (hm : m = ms.length) (hroom : ms.length ≤ old.length) (hy : RowI w a ms) (hnil : a = none → c = 0) :
    (Builtin.append_ #[22, 22] ty #[.slice (some ⟨g, 0, none⟩) n cap, .slice a m c]).run Tryz.prog w = .ok (.slice (some ⟨g, 0, none⟩) (n + m) cap) (w.setRow g (vis (ns ++ ms ++ old.drop ms.length))) := by
  subst hn hm
  obtain ⟨i, hi, h1, h2, h3⟩ := infoI
  cases a with
  | none =>
    have hys : ms = [] := by
      rcases hy with e | ⟨b, off, e, _⟩
      · exact e
      · cases e
    subst hys
    have hc0 := hnil rfl
    subst hc0
    rw [List.append_nil, List.length_nil, List.drop_zero, setRow_self w g _ _ _ h]
    have hle : ns.length ≤ cap := by simpa using hc
    simp [Builtin.append_, run_underlying Tryz.underlying22, sizeOf, typeInfo, hi, Builtin.lenOf, Builtin.firstCells, loadCells, hle, storeCells]
  | some ad =>
    have := run_append_room (P := Tryz.prog) w 22 ty 3 i Tryz.underlying22 hi g ns.length cap _ h ad ms.length c (ms.map (Value.int .i64)) (by simp [h1]) (fun j v hv => by
      simp only [List.getElem?_map, Option.map_eq_some_iff] at hv
      obtain ⟨x, hx1, rfl⟩ := hv
      have hj : j < ms.length := (List.getElem?_eq_some_iff.1 hx1).1
      rcases hy with e' | ⟨b, off, e', hy⟩
      · rw [e'] at hj; simp at hj
      · cases e'
        have hadd : (⟨b, off, none⟩ : Addr).add j = ⟨b, off + j, none⟩ := by unfold Addr.add; split <;> simp_all
        rw [hadd, hy j _ hx1]) (fun v hv => by
      simp only [List.mem_map] at hv
      obtain ⟨x, _, rfl⟩ := hv
      rfl) hc (by simp [h1, vis_size]; omega)
    rw [this]
    congr 2
    rw [h1]
    simp only [vis, Nat.mul_one, List.length_map, List.map_append, List.toList_toArray]
    congr 1
    rw [List.take_left' (by simp), List.append_assoc, List.append_assoc, ← List.drop_drop, List.drop_left' (by simp), List.map_drop]
def zerosI (n : Nat) : List Int := List.replicate n 0
theorem madeI (n : Nat) : madeCells (Value.int .i64 0).cells n = vis (zerosI n) := by
  apply Array.ext_getElem?
  intro i
  by_cases h : i < n <;> simp [madeCells, vis, zerosI, Value.cells, h, Nat.mod_one]
theorem run_makeI_room (n : Nat) (hn : n ≤ 17592186043904) (w : World) :
    (Instr.makeSlice 22 (.int .i64 0) (.int .i64 ((n : Int) + 4))).run Tryz.prog w = .ok (.slice (some ⟨w.heap.size, 0, none⟩) 0 (n + 4)) (w.alloc (.cells (vis (zerosI (n + 4))) 3)) := by
  obtain ⟨i, hi, h1, h2, h3⟩ := infoI
  have := run_make (P := Tryz.prog) w 22 3 i _ Tryz.underlying22 hi h3 .i64 .i64 0 ((n : Int) + 4) (by omega) (by omega) (by rw [h2]; omega) (by omega)
  rw [this, h1]
  have e : ((n : Int) + 4).toNat = n + 4 := by omega
  simp only [e, Nat.mul_one, madeI, Int.toNat_zero]
set_option maxHeartbeats 1000000 in
theorem ints_F (a : Option Addr) (la ca : Nat) (ns : List Int) (w : World) (hla : la = ns.length) (ha : la ≤ 17592186043904) (hx : RowI w a ns) (hnil : a = none → ca = 0) :
    Calls Tryz.prog 10 #[.slice a la ca] w fun e w' => ∃ g, e = .returned (.slice (some ⟨g, 0, none⟩) la (la + 4)) ∧ w.heap.size ≤ g ∧ Below w.heap.size w w' ∧
      w'.heap[g]? = some (.cells (vis (ns ++ marksI)) 3 (0, 0)) := by
  have hmk := run_makeI_room la ha w
  have h1 := run_appendI_room (w := w.alloc (.cells (vis (zerosI (la + 4))) 3)) (g := w.heap.size) (n := 0) (cap := la + 4) (ns := []) (old := zerosI (la + 4)) (ms := ns) (a := a) (m := la) (c := ca) 22 (heap_alloc_last w _) rfl (by omega) hla (by rw [zerosI, List.length_replicate]; omega) (rowI_alloc hx _) hnil
  rw [World.setRow_alloc_new, List.nil_append, Nat.zero_add] at h1
  have hd : (zerosI (la + 4)).drop ns.length = zerosI 4 := by
    rw [← hla]; simp [zerosI, List.drop_replicate]
  rw [hd] at h1
  have h2 := run_appendI_room (w := (w.alloc (.cells (vis (ns ++ zerosI 4)) 3)).alloc (.cells (vis marksI) 3)) (g := w.heap.size) (n := la) (cap := la + 4) (ns := ns) (old := zerosI 4) (ms := marksI) (a := some ⟨w.heap.size + 1, 0, none⟩) (m := 4) (c := 4) 22 (heap_alloc2_old w _ _) hla (by omega) rfl (by decide) (rowI_vis (heap_alloc2_new w _ _)) (fun e => by cases e)
  have hd2 : (zerosI 4).drop marksI.length = [] := by decide
  rw [hd2, List.append_nil] at h2
  have HM : Hid (vis marksI = #[.int .i64 (-91), .int .i64 (-92), .int .i64 (-93), .int .i64 (-94)]) := rfl
  have H1 : Hid _ := h1
  have H2 : Hid _ := h2
  have HH : Hid _ := setRow_heap _ _ _ (vis (ns ++ marksI)) _ _ (heap_alloc2_old w (.cells (vis (ns ++ zerosI 4)) 3) (.cells (vis marksI) 3))
  clear h1 h2 hla hx hd hd2 hnil
  go_enter Tryz.func10, Tryz.ntmps10
  go_wp2_with (first | (at_builtin; refine wpList_append_run rfl _ _ 22 rfl _ _ _ _ rfl rfl H1.out ?_) | (at_builtin; rw [← HM.out]; refine wpList_append_run rfl _ _ 22 rfl _ _ _ _ rfl rfl H2.out ?_))
  go_ret
  exact ⟨w.heap.size, rfl, Nat.le_refl _, below_row ((((Below.refl _ _).alloc (Nat.le_refl _) _).alloc (by simp) _)) (Nat.le_refl _) _, HH.out⟩
theorem rowI_keep {w : World} {a : Option Addr} {ns : List Int} (h : RowI w a ns) : ∀ w', Below w.heap.size w w' → RowI w' a ns := fun w' hb => rowI_below h hb
set_option maxHeartbeats 1000000 in
theorem keptInts_F (g n cb : Nat) (b : Option Addr) (ns : List Int) (w : World) (hn : n = ns.length) (hb : n ≤ 17592186043904) (hcb : n ≤ cb)
    (hg : w.heap[g]? = some (.cells (vis (ns ++ marksI)) 3 (0, 0))) (hx : RowI w b ns) :
    Calls Tryz.prog 17 #[.slice (some ⟨g, 0, none⟩) n (n + 4), .slice b n cb] w fun e w' => e = .returned (.bool true) ∧ Below w.heap.size w w' := by
  have HC : Hid (∀ k, k < 4 → ∀ w', Below w.heap.size w w' → w'.cell? ⟨g, n + k, none⟩ = some (.int .i64 (-91 - (k : Int)))) := fun k hk w' hw => by
    refine cellAt (heap_later hg hw) (n + k) _ (vis_get ?_)
    rw [List.getElem?_append_right (by omega), show n + k - ns.length = k from by omega]
    match k, hk with
    | 0, _ => rfl
    | 1, _ => rfl
    | 2, _ => rfl
    | 3, _ => rfl
  have HX : Hid _ := rowI_front hg
  have HY : Hid _ := hx
  have HN : Hid _ := hn
  clear hn hg hx
  have p0 : (0 : Int) ≤ (n : Int) := by omega
  have p1 : n ≤ n + 4 := by omega
  have tg : decide ((n : Int) + 4 < (n : Int) + 4) = false := by simp
  have tw : IntKind.i64.wrap ((n : Int) + 4) = (n : Int) + 4 := by rw [IntKind.wrap_i64]; omega
  go_enter Tryz.func17, Tryz.ntmps17
  go_wp2_with fail
  refine Calls.mono (sameInts_F _ _ _ _ _ _ ns ns _ HN.out HN.out (by omega) (by omega) HX.out HY.out) ?_
  rintro e w1 ⟨rfl, hb1⟩
  rw [eqI_true]
  have HB1 : Hid _ := hb1
  clear hb1
  go_wp2
  go_loop [6] (fun i => ∃ k : Nat, k ≤ 4 ∧ i = .int .i64 k) (fun i => 4 - (intOf i).toNat)
  case atStart => exact ⟨0, by omega, rfl⟩
  case round =>
    obtain ⟨k, hk, rfl⟩ := hrel
    by_cases hlt : k < 4
    · have c1 := HC.out k hlt _ HB1.out
      go_wp2
      exact ⟨⟨k + 1, by omega, by go_num⟩, by simp [intOf]; omega⟩
    · go_wp2
      go_ret
      exact ⟨rfl, HB1.out⟩
end Go.Proofs.YtjmbpldkggbdlaaGreatDoor

/- What rises and Check of package damage answer, of all numbers; nothing that was there turns. -/
namespace Go.Proofs.YtjmbpldkggbdlaaGreatDoor
open Go.RowKit Gf
set_option linter.unusedVariables false
set_option maxRecDepth 20000
theorem rises_F (l cap : Nat) (a : Option Addr) (ns : List Int) (x : Int) (w : World) (hl : l = ns.length) (hl9 : l ≤ 4611686018427387904) (hX : RowI w a ns) :
    Calls Tryz.prog 30 #[.slice a l cap, .int .i64 x] w fun e w' => e = .returned (.bool (decide (ns = [] ∨ ns.getD (ns.length - 1) 0 < x))) ∧ w = w' := by
  by_cases h0 : ns = []
  · subst h0
    obtain rfl : l = 0 := hl
    go_enter Tryz.func30, Tryz.ntmps30
    go_wp2
    go_ret
    exact ⟨rfl, rfl⟩
  · have hp := List.length_pos_iff.2 h0
    obtain ⟨m, hm⟩ : ∃ m, ns.length = m + 1 := ⟨ns.length - 1, by omega⟩
    rw [hm] at hl
    subst hl
    obtain ⟨b, off, rfl, hb, hc⟩ := rowI_cell hX (show m < ns.length by omega)
    have c1 := hc m (by omega)
    have e2 : decide (ns = [] ∨ ns.getD (ns.length - 1) 0 < x) = decide (ns.getD m 0 < x) := by
      rw [hm]; simp [h0]
    rw [e2]
    generalize ns.getD m 0 = y at c1 ⊢
    clear hc hX hm h0 hp e2
    go_enter Tryz.func30, Tryz.ntmps30
    go_wp2
    go_ret
    exact ⟨rfl, rfl⟩
/-- the error of a number -/
def evH (E : Nat → Addr) (n : Nat) : Value := if n = 0 then .nilIface else errAt (E (n - 1))
/-- the error of a list of lost halves -/
noncomputable def chkE (k r : Int) (xs : List Int) : Nat := open Classical in if LegalP k r then (if GoodH (2 * (k + r)).toNat xs then 0 else 4) else 1
theorem chkE_ok {k r : Nat} {xs : List Int} (h1 : 1 ≤ k) (h2 : 2 ≤ r) (h3 : k + r ≤ 16) (h : GoodH (2 * (k + r)) xs) : chkE k r xs = 0 := by
  unfold chkE
  rw [if_pos (show LegalP (k : Int) r by unfold LegalP; omega), if_pos (show GoodH (2 * ((k : Int) + r)).toNat xs by rw [show (2 * ((k : Int) + r)).toNat = 2 * (k + r) by omega]; exact h)]
theorem chkE_no {k r : Nat} {xs : List Int} (h1 : 1 ≤ k) (h2 : 2 ≤ r) (h3 : k + r ≤ 16) (h : ¬ GoodH (2 * (k + r)) xs) : chkE k r xs = 4 := by
  unfold chkE
  rw [if_pos (show LegalP (k : Int) r by unfold LegalP; omega), if_neg (show ¬ GoodH (2 * ((k : Int) + r)).toNat xs by rw [show (2 * ((k : Int) + r)).toNat = 2 * (k + r) by omega]; exact h)]
theorem chkE_bad {k r : Int} {xs : List Int} (h : ¬ LegalP k r) : chkE k r xs = 1 := by
  unfold chkE; rw [if_neg h]
/-- what Check names -/
def ErrsH (w : World) (E : Nat → Addr) : Prop := w.cell? ⟨0, 0, none⟩ = some (errAt (E 0)) ∧ w.cell? ⟨1, 0, none⟩ = some (errAt (E 3))
theorem errsH_below {w w' : World} {E : Nat → Addr} (h : ErrsH w E) (hb : Below w.heap.size w w') : ErrsH w' E := ⟨cell_later hb h.1, cell_later hb h.2⟩
theorem rowI_take {w : World} {a : Option Addr} {ns : List Int} (h : RowI w a ns) (j : Nat) : RowI w a (ns.take j) := by
  rcases h with h | ⟨b, off, e, h⟩
  · exact .inl (by rw [h, List.take_nil])
  · refine .inr ⟨b, off, e, fun q n hq => h q n ?_⟩
    rw [List.getElem?_take] at hq
    split at hq
    · exact hq
    · cases hq
set_option maxHeartbeats 2000000 in
theorem dcheck_legal (k r l cap : Nat) (a : Option Addr) (xs : List Int) (w : World) (E : Nat → Addr) (hE : ErrsH w E) (h1 : 1 ≤ k) (h2 : 2 ≤ r) (h3 : k + r ≤ 16) (hl : l = xs.length) (hl9 : l ≤ 4611686018427387904) (hcap : l ≤ cap) (hX : RowI w a xs) :
    Calls Tryz.prog 11 #[.int .i64 k, .int .i64 r, .slice a l cap] w fun e w' => e = .returned (evH E (chkE k r xs)) ∧ Below w.heap.size w w' := by
  have HE : Hid _ := hE
  have HL : Hid (l = xs.length) := hl
  have HX : Hid (RowI w a xs) := hX
  have HOK : Hid (GoodH (2 * (k + r)) xs → chkE k r xs = 0) := fun h => chkE_ok h1 h2 h3 h
  have HNO : Hid (¬ GoodH (2 * (k + r)) xs → chkE k r xs = 4) := fun h => chkE_no h1 h2 h3 h
  clear hE hl hX
  go_enter Tryz.func11, Tryz.ntmps11
  go_wp2_with fail
  refine (bcheck_ok _ _ _ h1 h2 h3).mono ?_
  rintro e w' ⟨rfl, rfl⟩
  go_wp2
  go_loopw [21] (fun i wr => ∃ j : Nat, j ≤ l ∧ i = .int .i64 j ∧ Below w.heap.size w wr ∧ GoodH (2 * (k + r)) (xs.take j)) (fun i _ => l - (intOf i).toNat)
  case atStart => exact ⟨0, by omega, rfl, Below.refl _ _, by rw [List.take_zero]; exact goodH_nil _⟩
  case round =>
    obtain ⟨j, hj, rfl, hb, hg⟩ := hrel
    have HB : Hid _ := hb
    have HG : Hid (GoodH (2 * (k + r)) (xs.take j)) := hg
    clear hb hg
    by_cases hlt : j < l
    · have hjx : j < xs.length := by rw [← HL.out]; exact hlt
      have HS := goodH_step hjx HG.out
      obtain ⟨b, off, hab, hbl, hc⟩ := rowI_cell (rowI_below HX.out HB.out) hjx
      have c1 := hc j hjx
      rw [show xs.getD j 0 = xs[j] by simp [List.getD, hjx]] at c1
      have HR : Hid (∀ w', Below w.heap.size w w' → Calls Tryz.prog 30 #[.slice a j cap, .int .i64 xs[j]] w' fun e w2 => e = .returned (.bool (decide (xs.take j = [] ∨ (xs.take j).getD ((xs.take j).length - 1) 0 < xs[j]))) ∧ w' = w2) := fun w' hb =>
        rises_F j cap a (xs.take j) xs[j] w' (by rw [List.length_take]; omega) (by omega) (rowI_take (rowI_below HX.out hb) j)
      have HNG : Hid (¬ GoodH (2 * (k + r)) (xs.take (j + 1)) → ¬ GoodH (2 * (k + r)) xs) := fun h h2 => h (goodH_take h2 _)
      have HQ : Hid (decide (xs.take j = [] ∨ (xs.take j).getD ((xs.take j).length - 1) 0 < xs[j]) = false → ¬ GoodH (2 * (k + r)) (xs.take (j + 1))) := fun h h2 => of_decide_eq_false h (HS.1 h2).2
      have HQ2 : Hid (decide (xs.take j = [] ∨ (xs.take j).getD ((xs.take j).length - 1) 0 < xs[j]) = true → (0 ≤ xs[j] ∧ xs[j] < ((2 * (k + r) : Nat) : Int)) → GoodH (2 * (k + r)) (xs.take (j + 1))) := fun h h2 => HS.2 ⟨h2, of_decide_eq_true h⟩
      have HQ3 : Hid (¬ (0 ≤ xs[j] ∧ xs[j] < ((2 * (k + r) : Nat) : Int)) → ¬ GoodH (2 * (k + r)) (xs.take (j + 1))) := fun h h2 => h (HS.1 h2).1
      generalize decide (xs.take j = [] ∨ (xs.take j).getD ((xs.take j).length - 1) 0 < xs[j]) = q at *
      generalize hx : xs[j] = x at *
      clear hx hc HS hjx
      subst hab
      by_cases hin : 0 ≤ x ∧ x < ((2 * (k + r) : Nat) : Int)
      · obtain ⟨s, p, hp, hs, en⟩ : ∃ s p : Nat, p < 2 ∧ s < k + r ∧ x = ((2 * s + p : Nat) : Int) := ⟨x.toNat / 2, x.toNat % 2, by omega, by omega, by omega⟩
        have HIN : Hid _ := HQ2.out
        have HT : Hid (q = true → GoodH (2 * (k + r)) (xs.take (j + 1))) := fun h => HQ2.out h hin
        clear HIN HQ2 HQ3 hin
        subst en
        go_wp2_with fail
        refine Calls.mono (split_ok k r _ s p _ h1 h2 h3 rfl hp hs) ?_
        rintro e w2 ⟨rfl, hb2⟩
        have HB2 : Hid _ := HB.out.trans (hb2.mono HB.out.size)
        clear hb2
        go_wp2_with fail
        refine Calls.mono (HR.out _ HB2.out) ?_
        rintro e w3 ⟨rfl, rfl⟩
        cases hq : q
        · have HBAD : Hid _ := HNO.out (HNG.out (HQ.out hq))
          have c3 := (errsH_below HE.out HB2.out).2
          clear hq HQ HT
          unfold errAt at c3
          go_wp2
          go_ret
          exact ⟨by rw [HBAD.out]; rfl, HB2.out⟩
        · have HGO : Hid _ := HT.out hq
          clear hq HQ HT
          go_wp2
          exact ⟨⟨j + 1, by omega, by go_num, HB2.out, HGO.out⟩, by simp [intOf]; omega⟩
      · have HBAD : Hid _ := HNO.out (HNG.out (HQ3.out hin))
        have HSP : Hid _ := split_no k r x
        have HIN : Hid _ := hin
        clear hin HQ HQ2 HQ3 HNG
        go_wp2_with fail
        refine Calls.mono (HSP.out _ (E 3) (errsH_below HE.out HB.out).2 h1 h2 h3 (fun h => HIN.out (by omega))) ?_
        unfold errAt
        rintro e w2 ⟨rfl, hb2⟩
        have HB2 : Hid _ := HB.out.trans (hb2.mono HB.out.size)
        clear hb2
        go_wp2
        go_ret
        exact ⟨by rw [HBAD.out]; rfl, HB2.out⟩
    · obtain rfl : j = l := by omega
      have HF : Hid (GoodH (2 * (k + r)) xs) := by have := HG.out; rwa [HL.out, List.take_length] at this
      go_wp2
      go_ret
      exact ⟨by rw [HOK.out HF.out]; rfl, HB.out⟩
theorem dcheck_F (k r : Int) (l cap : Nat) (a : Option Addr) (xs : List Int) (w : World) (E : Nat → Addr) (hE : ErrsH w E) (hk0 : -9223372036854775808 ≤ k) (hk1 : k ≤ 9223372036854775807) (hr0 : -9223372036854775808 ≤ r) (hr1 : r ≤ 9223372036854775807)
    (hl : l = xs.length) (hl9 : l ≤ 4611686018427387904) (hcap : l ≤ cap) (hX : RowI w a xs) :
    Calls Tryz.prog 11 #[.int .i64 k, .int .i64 r, .slice a l cap] w fun e w' => e = .returned (evH E (chkE k r xs)) ∧ Below w.heap.size w w' := by
  by_cases hL : LegalP k r
  · obtain ⟨a1, b1, rfl, rfl, h1, h2, h3⟩ := legal_nat hL
    exact dcheck_legal a1 b1 l cap a xs w E hE h1 h2 h3 hl hl9 hcap hX
  · rw [chkE_bad hL]
    have HS : Hid _ := hE.1
    clear hE hl hX hcap hl9
    go_enter Tryz.func11, Tryz.ntmps11
    go_wp2_with fail
    refine Calls.mono (bcheck_bad k r _ (E 0) HS.out hk0 hk1 hr0 hr1 hL) ?_
    rintro e w' ⟨rfl, rfl⟩
    unfold errAt
    go_wp2
    go_ret
    exact ⟨rfl, Below.refl _ _⟩
end Go.Proofs.YtjmbpldkggbdlaaGreatDoor

/- The library's contracts that stage 8 leans on, laid at this program in plain words. -/
namespace Go.Proofs.YtjmbpldkggbdlaaGreatDoor
open Go.Shelf
set_option linter.unusedVariables false
set_option maxRecDepth 20000
def Tryz.keysA_ren : Go.Shelf.Ren := ⟨fun | 7 => 32 | 10 => 46 | n => n, fun | 23 => 57 | 26 => 3 | 3 => 58 | 28 => 55 | 0 => 0 | 27 => 54 | 33 => 81 | 4 => 4 | n => n, fun | n => n⟩
theorem Tryz.keysA : Go.Proofs.SlLaysZI.n7 Tryz.prog Tryz.keysA_ren := {
  mixed := by kernel_rfl
  f7 := ⟨Tryz.f32.name, by decide, Tryz.func32.trans (congrArg some (by kernel_rfl))⟩
  f10 := ⟨Tryz.f46.name, by decide, Tryz.func46.trans (congrArg some (by kernel_rfl))⟩
  t0 := Tryz.underlying0
  a0 := Tryz.isAgg0
  z0 := Tryz.sizeOf0
  v0 := Tryz.zeroValue0
  t4 := Tryz.underlying4
  a4 := Tryz.isAgg4
  z4 := Tryz.sizeOf4
  v4 := Tryz.zeroValue4
  t23 := Tryz.underlying57
  a23 := Tryz.isAgg57
  z23 := Tryz.sizeOf57
  v23 := Tryz.zeroValue57
  t26 := Tryz.underlying3
  a26 := Tryz.isAgg3
  z26 := Tryz.sizeOf3
  v26 := Tryz.zeroValue3
  t27 := Tryz.underlying54
  a27 := Tryz.isAgg54
  z27 := Tryz.sizeOf54
  v27 := Tryz.zeroValue54
  t28 := Tryz.underlying55
  a28 := Tryz.isAgg55
  z28 := Tryz.sizeOf55
  v28 := Tryz.zeroValue55
  t33 := Tryz.underlying81
  a33 := Tryz.isAgg81
  z33 := Tryz.sizeOf81
  v33 := Tryz.zeroValue81 }
def Tryz.sortedA_ren : Go.Shelf.Ren := ⟨fun | 6 => 31 | 8 => 44 | 9 => 45 | 11 => 66 | 13 => 68 | 12 => 67 | 23 => 95 | 24 => 96 | 14 => 86 | 15 => 87 | 16 => 88 | 17 => 89 | 18 => 90 | 19 => 91 | 20 => 92 | 21 => 93 | 22 => 94 | 25 => 111 | 26 => 112 | 27 => 113 | 28 => 114 | 29 => 115 | 30 => 116 | 31 => 128 | n => n, fun | 26 => 3 | 28 => 55 | 24 => 22 | 0 => 0 | 3 => 3 | 37 => 107 | 48 => 134 | 50 => 136 | 4 => 4 | 40 => 127 | 39 => 126 | 45 => 131 | 5 => 5 | 9 => 9 | 51 => 148 | 55 => 152 | 57 => 167 | 58 => 168 | 33 => 81 | n => n, fun | n => n⟩
theorem Tryz.sortedA : Go.Proofs.SlLaysZI.n6 Tryz.prog Tryz.sortedA_ren := {
  mixed := by kernel_rfl
  f6 := ⟨Tryz.f31.name, by decide, Tryz.func31.trans (congrArg some (by kernel_rfl))⟩
  f8 := ⟨Tryz.f44.name, by decide, Tryz.func44.trans (congrArg some (by kernel_rfl))⟩
  f11 := ⟨Tryz.f66.name, by decide, Tryz.func66.trans (congrArg some (by kernel_rfl))⟩
  t0 := Tryz.underlying0
  a0 := Tryz.isAgg0
  z0 := Tryz.sizeOf0
  v0 := Tryz.zeroValue0
  t24 := Tryz.underlying22
  a24 := Tryz.isAgg22
  z24 := Tryz.sizeOf22
  v24 := Tryz.zeroValue22
  t26 := Tryz.underlying3
  a26 := Tryz.isAgg3
  z26 := Tryz.sizeOf3
  v26 := Tryz.zeroValue3
  t28 := Tryz.underlying55
  a28 := Tryz.isAgg55
  z28 := Tryz.sizeOf55
  v28 := Tryz.zeroValue55
  i26 := by kernel_rfl }
def Tryz.sortA_ren : Go.Shelf.Ren := ⟨fun | 5 => 45 | 8 => 68 | 7 => 67 | 19 => 95 | 20 => 96 | 10 => 86 | 11 => 87 | 12 => 88 | 13 => 89 | 14 => 90 | 15 => 91 | 16 => 92 | 17 => 93 | 18 => 94 | 30 => 111 | 31 => 112 | 32 => 113 | 33 => 114 | 34 => 115 | 35 => 116 | 40 => 128 | n => n, fun | 23 => 22 | 25 => 3 | 3 => 3 | 32 => 107 | 22 => 22 | 0 => 0 | 44 => 134 | 46 => 136 | 4 => 4 | 36 => 127 | 35 => 126 | 41 => 131 | 5 => 5 | 9 => 9 | 53 => 148 | 57 => 152 | 63 => 167 | 64 => 168 | n => n, fun | n => n⟩
theorem Tryz.sortA : Go.Proofs.SlLaysM.n5 Tryz.prog Tryz.sortA_ren := {
  mixed := by kernel_rfl
  f5 := ⟨Tryz.f45.name, by decide, Tryz.func45.trans (congrArg some (by kernel_rfl))⟩
  f7 := ⟨Tryz.f67.name, by decide, Tryz.func67.trans (congrArg some (by kernel_rfl))⟩
  f8 := Tryz.func68.trans (congrArg some (by kernel_rfl))
  f10 := ⟨Tryz.f86.name, by decide, Tryz.func86.trans (congrArg some (by kernel_rfl))⟩
  f11 := ⟨Tryz.f87.name, by decide, Tryz.func87.trans (congrArg some (by kernel_rfl))⟩
  f12 := ⟨Tryz.f88.name, by decide, Tryz.func88.trans (congrArg some (by kernel_rfl))⟩
  f13 := ⟨Tryz.f89.name, by decide, Tryz.func89.trans (congrArg some (by kernel_rfl))⟩
  f14 := ⟨Tryz.f90.name, by decide, Tryz.func90.trans (congrArg some (by kernel_rfl))⟩
  f15 := ⟨Tryz.f91.name, by decide, Tryz.func91.trans (congrArg some (by kernel_rfl))⟩
  f16 := ⟨Tryz.f92.name, by decide, Tryz.func92.trans (congrArg some (by kernel_rfl))⟩
  f17 := ⟨Tryz.f93.name, by decide, Tryz.func93.trans (congrArg some (by kernel_rfl))⟩
  f18 := ⟨Tryz.f94.name, by decide, Tryz.func94.trans (congrArg some (by kernel_rfl))⟩
  f19 := Tryz.func95.trans (congrArg some (by kernel_rfl))
  f20 := Tryz.func96.trans (congrArg some (by kernel_rfl))
  f30 := ⟨Tryz.f111.name, by decide, Tryz.func111.trans (congrArg some (by kernel_rfl))⟩
  f31 := Tryz.func112.trans (congrArg some (by kernel_rfl))
  f32 := Tryz.func113.trans (congrArg some (by kernel_rfl))
  f33 := ⟨Tryz.f114.name, by decide, Tryz.func114.trans (congrArg some (by kernel_rfl))⟩
  f34 := ⟨Tryz.f115.name, by decide, Tryz.func115.trans (congrArg some (by kernel_rfl))⟩
  f35 := ⟨Tryz.f116.name, by decide, Tryz.func116.trans (congrArg some (by kernel_rfl))⟩
  f40 := ⟨Tryz.f128.name, by decide, Tryz.func128.trans (congrArg some (by kernel_rfl))⟩
  t0 := Tryz.underlying0
  a0 := Tryz.isAgg0
  z0 := Tryz.sizeOf0
  v0 := Tryz.zeroValue0
  t3 := Tryz.underlying3
  a3 := Tryz.isAgg3
  z3 := Tryz.sizeOf3
  v3 := Tryz.zeroValue3
  t4 := Tryz.underlying4
  a4 := Tryz.isAgg4
  z4 := Tryz.sizeOf4
  v4 := Tryz.zeroValue4
  t5 := Tryz.underlying5
  a5 := Tryz.isAgg5
  z5 := Tryz.sizeOf5
  v5 := Tryz.zeroValue5
  t9 := Tryz.underlying9
  a9 := Tryz.isAgg9
  z9 := Tryz.sizeOf9
  v9 := Tryz.zeroValue9
  t22 := Tryz.underlying22
  a22 := Tryz.isAgg22
  z22 := Tryz.sizeOf22
  v22 := Tryz.zeroValue22
  t23 := Tryz.underlying22
  a23 := Tryz.isAgg22
  z23 := Tryz.sizeOf22
  v23 := Tryz.zeroValue22
  t25 := Tryz.underlying3
  a25 := Tryz.isAgg3
  z25 := Tryz.sizeOf3
  v25 := Tryz.zeroValue3
  t32 := Tryz.underlying107
  a32 := Tryz.isAgg107
  z32 := Tryz.sizeOf107
  v32 := Tryz.zeroValue107
  t35 := Tryz.underlying126
  a35 := Tryz.isAgg126
  z35 := Tryz.sizeOf126
  v35 := Tryz.zeroValue126
  t36 := Tryz.underlying127
  a36 := Tryz.isAgg127
  z36 := Tryz.sizeOf127
  v36 := Tryz.zeroValue127
  t41 := Tryz.underlying131
  a41 := Tryz.isAgg131
  z41 := Tryz.sizeOf131
  v41 := Tryz.zeroValue131
  t44 := Tryz.underlying134
  a44 := Tryz.isAgg134
  z44 := Tryz.sizeOf134
  v44 := Tryz.zeroValue134
  t46 := Tryz.underlying136
  a46 := Tryz.isAgg136
  z46 := Tryz.sizeOf136
  v46 := Tryz.zeroValue136
  t53 := Tryz.underlying148
  a53 := Tryz.isAgg148
  z53 := Tryz.sizeOf148
  v53 := Tryz.zeroValue148
  t57 := Tryz.underlying152
  a57 := Tryz.isAgg152
  z57 := Tryz.sizeOf152
  v57 := Tryz.zeroValue152
  t63 := Tryz.underlying167
  a63 := Tryz.isAgg167
  z63 := Tryz.sizeOf167
  v63 := Tryz.zeroValue167
  t64 := Tryz.underlying168
  a64 := Tryz.isAgg168
  z64 := Tryz.sizeOf168
  v64 := Tryz.zeroValue168 }
def Tryz.joinA_ren : Go.Shelf.Ren := ⟨fun | 156 => 38 | 165 => 58 | 166 => 59 | 169 => 60 | 240 => 78 | 241 => 79 | 276 => 102 | 277 => 103 | n => n, fun | 31 => 68 | 9 => 9 | 3 => 3 | 4 => 4 | 0 => 0 | 20 => 20 | 72 => 96 | 76 => 30 | 70 => 94 | 37 => 61 | 75 => 26 | 127 => 114 | 164 => 142 | 5 => 5 | 80 => 99 | n => n, fun | n => n⟩
theorem Tryz.joinA : Go.Proofs.Lays.n156 Tryz.prog Tryz.joinA_ren := {
  mixed := by kernel_rfl
  f156 := Tryz.func38.trans (congrArg some (by kernel_rfl))
  f165 := Tryz.func58.trans (congrArg some (by kernel_rfl))
  f166 := Tryz.func59.trans (congrArg some (by kernel_rfl))
  f169 := Tryz.func60.trans (congrArg some (by kernel_rfl))
  f240 := Tryz.func78.trans (congrArg some (by kernel_rfl))
  f241 := Tryz.func79.trans (congrArg some (by kernel_rfl))
  f276 := Tryz.func102.trans (congrArg some (by kernel_rfl))
  f277 := Tryz.func103.trans (congrArg some (by kernel_rfl))
  t0 := Tryz.underlying0
  a0 := Tryz.isAgg0
  z0 := Tryz.sizeOf0
  v0 := Tryz.zeroValue0
  t3 := Tryz.underlying3
  a3 := Tryz.isAgg3
  z3 := Tryz.sizeOf3
  v3 := Tryz.zeroValue3
  t4 := Tryz.underlying4
  a4 := Tryz.isAgg4
  z4 := Tryz.sizeOf4
  v4 := Tryz.zeroValue4
  t9 := Tryz.underlying9
  a9 := Tryz.isAgg9
  z9 := Tryz.sizeOf9
  v9 := Tryz.zeroValue9
  t20 := Tryz.underlying20
  a20 := Tryz.isAgg20
  z20 := Tryz.sizeOf20
  v20 := Tryz.zeroValue20
  t31 := Tryz.underlying68
  a31 := Tryz.isAgg68
  z31 := Tryz.sizeOf68
  v31 := Tryz.zeroValue68
  t37 := Tryz.underlying61
  a37 := Tryz.isAgg61
  z37 := Tryz.sizeOf61
  v37 := Tryz.zeroValue61
  t70 := Tryz.underlying94
  a70 := Tryz.isAgg94
  z70 := Tryz.sizeOf94
  v70 := Tryz.zeroValue94
  t72 := Tryz.underlying96
  a72 := Tryz.isAgg96
  z72 := Tryz.sizeOf96
  v72 := Tryz.zeroValue96
  t75 := Tryz.underlying26
  a75 := Tryz.isAgg26
  z75 := Tryz.sizeOf26
  v75 := Tryz.zeroValue26
  t76 := Tryz.underlying30
  a76 := Tryz.isAgg30
  z76 := Tryz.sizeOf30
  v76 := Tryz.zeroValue30
  t127 := Tryz.underlying114
  a127 := Tryz.isAgg114
  z127 := Tryz.sizeOf114
  v127 := Tryz.zeroValue114
  t164 := Tryz.underlying142
  a164 := Tryz.isAgg142
  z164 := Tryz.sizeOf142
  v164 := Tryz.zeroValue142 }
def Tryz.indexA_ren : Go.Shelf.Ren := ⟨fun | 143 => 85 | 219 => 110 | 217 => 124 | 225 => 125 | 224 => 126 | 267 => 127 | 266 => 137 | 314 => 138 | n => n, fun | 9 => 9 | 3 => 3 | 4 => 4 | 5 => 5 | 46 => 107 | 146 => 176 | 51 => 134 | n => n, fun | 1 => 4 | n => n⟩
theorem Tryz.indexA : Go.Proofs.Lays.n143 Tryz.prog Tryz.indexA_ren := {
  mixed := by kernel_rfl
  f143 := Tryz.func85.trans (congrArg some (by kernel_rfl))
  f217 := Tryz.func124.trans (congrArg some (by kernel_rfl))
  f219 := Tryz.func110.trans (congrArg some (by kernel_rfl))
  f224 := Tryz.func126.trans (congrArg some (by kernel_rfl))
  f225 := Tryz.func125.trans (congrArg some (by kernel_rfl))
  f266 := Tryz.func137.trans (congrArg some (by kernel_rfl))
  f267 := Tryz.func127.trans (congrArg some (by kernel_rfl))
  f314 := Tryz.func138.trans (congrArg some (by kernel_rfl))
  t3 := Tryz.underlying3
  a3 := Tryz.isAgg3
  z3 := Tryz.sizeOf3
  v3 := Tryz.zeroValue3
  t4 := Tryz.underlying4
  a4 := Tryz.isAgg4
  z4 := Tryz.sizeOf4
  v4 := Tryz.zeroValue4
  t5 := Tryz.underlying5
  a5 := Tryz.isAgg5
  z5 := Tryz.sizeOf5
  v5 := Tryz.zeroValue5
  t9 := Tryz.underlying9
  a9 := Tryz.isAgg9
  z9 := Tryz.sizeOf9
  v9 := Tryz.zeroValue9
  t46 := Tryz.underlying107
  a46 := Tryz.isAgg107
  z46 := Tryz.sizeOf107
  v46 := Tryz.zeroValue107
  t51 := Tryz.underlying134
  a51 := Tryz.isAgg134
  z51 := Tryz.sizeOf134
  v51 := Tryz.zeroValue134
  t146 := Tryz.underlying176
  a146 := Tryz.isAgg176
  z146 := Tryz.sizeOf176
  v146 := Tryz.zeroValue176
  g1 := by kernel_rfl }
theorem Tryz.joinX : Go.Proofs.Builder.Extra Tryz.prog Tryz.joinA_ren := {
  sizeBuilder := by kernel_rfl
  liesBuilder := by kernel_rfl
  t5 := Tryz.underlying5
  a5 := Tryz.isAgg5
  z5 := Tryz.sizeOf5
  v5 := Tryz.zeroValue5
  infoByte := by kernel_rfl
  cellsByte := by kernel_rfl
  sizeByte := by kernel_rfl
  neB5 := by decide }
end Go.Proofs.YtjmbpldkggbdlaaGreatDoor

/- The library's calls of stage 8: the keys of a map of numbers, sorted; texts joined; where a byte first stands in a text. -/
namespace Go.Proofs.YtjmbpldkggbdlaaGreatDoor
open Go.RowKit Go.Maps Go.Sort Go.Shelf Gf
set_option linter.unusedVariables false
set_option maxRecDepth 20000
/-- the two contracts of slices.Sort at this program -/
theorem sortsA (m : Nat) : AnyZI.SortsIn Tryz.prog Tryz.sortedA_ren Fence.wide m :=
  ⟨fun blk off cap ss W hH hblk hsz => callsIn_wide.2 (AnyM.slices_Sort_int Tryz.sortA blk off cap ss W hH hblk hsz),
   fun p cap W => callsIn_wide.2 (AnyM.slices_Sort_int_none Tryz.sortA p cap W)⟩
theorem keys_F (mb : Value) (b : Option Nat) (hm : mb = .map b) (w : World) : Calls Tryz.prog 32 #[mb] w fun e w' =>
    e = .returned (.func (.func 46) #[] #[.pointer (some ⟨w.heap.size, 0, none⟩)]) ∧ w' = w.alloc (.cells #[mb] 57) := by
  subst hm
  exact (callsIn_wide (n := 5)).1 (AnyZI.keys_in Tryz.keysA Fence.wide 5 trivial rfl b w)
/-- the keys of a map that lies in a block of one cell: a new slice of them, rising -/
theorem sorted_F {H : Type} (b nn g : Nat) (D0 : DataW H) (R : Value → Option (DataW H × List MemPlace)) (w : World) (hown : w.ownsMap Tryz.prog 3 R b nn D0) (hg : w.heap[g]? = some (.cells #[.map (some b)] 57 (0, 0)))
    (hmax : Maps.size D0 ≤ maxLen) (hbytes : Maps.size D0 * 8 ≤ 140737488355328) :
    Calls Tryz.prog 31 #[.func (.func 46) #[] #[.pointer (some ⟨g, 0, none⟩)]] w fun e w' => ∃ (v : Value) (ss : List Int), e = .returned v ∧ ss.Perm (intKeys D0) ∧
      w'.ownsRow w.heap.size 3 1 v ss.length ((ss.mergeSort (fun x y => decide (x ≤ y))).map (Value.int .i64)) ∧ (v = .slice none 0 0 ↔ ss = []) ∧ Below w.heap.size w w' := by
  have hgl : g < w.heap.size := ltHeap hg
  have c1 := cellAt hg 0 _ rfl
  have hseq : SeqGives Fence.wide 2 Tryz.prog 46 #[.pointer (some ⟨g, 0, none⟩)] encZ (fun ss => ss.Perm (intKeys D0)) (Maps.size D0) w :=
    AnyZI.keys_gives (ρ := Tryz.keysA_ren) { Tryz.keysA with } Fence.wide _ trivial rfl (by omega) g b nn D0 _ hgl c1 hown
  refine (callsIn_wide (n := 5)).1 ?_
  exact AnyZI.sorted_in Tryz.sortedA Fence.wide 5 trivial trivial trivial trivial rfl (by omega) (sortsA _) (enters_of Tryz.func45 (by kernel_rfl) rfl) 46 #[.pointer (some ⟨g, 0, none⟩)] trivial (enters_of Tryz.func46 (by kernel_rfl) rfl) _ _ hmax hbytes _ hseq
theorem join_F (bk o c : Nat) (xs : List ByteArray) (sep : ByteArray) (w : World)
    (hcells : ∀ (j : Nat) x, xs[j]? = some x → w.cell? ⟨bk, o + j, none⟩ = some (.string x)) (hbk : bk < w.heap.size) (hN : xs.length ≤ 140737488355328) (hcap : xs.length ≤ c) (hlen : (Lib.join (xs.map (·.data.toList)) sep.data.toList).length ≤ 140737488355328) :
    Calls Tryz.prog 38 #[.slice (some ⟨bk, o, none⟩) xs.length c, .string sep] w fun e w' => e = .returned (.string (strB (Lib.join (xs.map (·.data.toList)) sep.data.toList))) ∧ Below w.heap.size w w' :=
  Any.strings_Join Tryz.joinA Tryz.joinX bk o c xs sep w hcells hbk hN hcap hlen
theorem index_S (l : List UInt8) (c : UInt8) (w : World) : Calls Tryz.prog 85 #[.string (strB l), .string (strB [c])] w fun e w' => e = .returned (.int .i64 (Lib.indexByte l c)) ∧ w' = w :=
  Any.strings_Index_one Tryz.indexA (strB l) c w
end Go.Proofs.YtjmbpldkggbdlaaGreatDoor

/- What leftOf of package damage answers: a map of its own whose keys are what is left; nothing that was there turns. -/
namespace Go.Proofs.YtjmbpldkggbdlaaGreatDoor
open Go.RowKit Go.Maps Gf
set_option linter.unusedVariables false
set_option maxRecDepth 20000
theorem lawI : Keyed Tryz.prog 3 := int_keyed Tryz.underlying3
/-- the numbers that are keys of a map -/
def SetF (D : DataW Unit) (p : Int → Prop) : Prop := ∀ x : Int, has D (.int .i64 x) = true ↔ p x
theorem setF_put {D : DataW Unit} {p q : Int → Prop} {y : Int} {d : DataW Unit} (h : SetF D p) (hD : IsMap D) (hk : keyOf Tryz.prog 3 (.int .i64 y) = some (.int .i64 y)) (hq : ∀ x, q x ↔ p x ∨ x = y) : SetF (D.put (.int .i64 y) d) q := fun x => by
  rw [hq]
  by_cases e : x = y
  · subst e
    exact ⟨fun _ => .inr rfl, fun _ => has_put_same hD (lawI.key hk) d⟩
  · rw [has_put_other (fun h => e (by injection h)) d, h x]
    exact ⟨.inl, fun hh => hh.resolve_right e⟩
theorem setF_del {D : DataW Unit} {p q : Int → Prop} {y : Int} (h : SetF D p) (hq : ∀ x, q x ↔ p x ∧ x ≠ y) : SetF (D.del (.int .i64 y)) q := fun x => by
  rw [hq]
  by_cases e : x = y
  · subst e
    rw [has_del_same]
    exact ⟨fun h => (by cases h), fun h => absurd rfl h.2⟩
  · rw [has_del_other (fun h => e (by injection h)), h x]
    exact ⟨fun h => ⟨h, e⟩, fun h => h.1⟩
theorem setF_empty : SetF (.map []) (fun x => 0 ≤ x ∧ x < ((0 : Nat) : Int)) := fun x => ⟨fun h => by simp [has_eq] at h, fun h => by omega⟩
theorem key_i64 {x : Int} (h : -9223372036854775808 ≤ x ∧ x ≤ 9223372036854775807) : keyOf Tryz.prog 3 (.int .i64 x) = some (.int .i64 x) := keyOf_int_mk Tryz.underlying3 (WalkArith.wf_i64 (by omega))
theorem setF_perm {w : World} {b n : Nat} {D : DataW Unit} {L ss : List Int} (hown : w.ownsMap Tryz.prog 3 (unitElem (H := Unit)) b n D) (h : SetF D (· ∈ L)) (hn : L.Nodup) (hs : ss.Perm (intKeys D)) : ss.Perm L := by
  obtain ⟨es, hD, hpw, _⟩ := hown.entries lawI
  obtain ⟨es', hD', hko⟩ := hown.keysOf
  obtain rfl : es = es' := by rw [hD] at hD'; simpa using hD'
  subst hD
  exact hs.trans (perm_intKeys hpw (fun p hp => by obtain ⟨v, hv⟩ := hko p hp; obtain ⟨x, _, hx, _⟩ := Maps.keyOf_i64 Tryz.underlying3 hv; exact ⟨x, hx⟩) hn (fun x => (h x).symm)).symm
set_option maxHeartbeats 2000000 in
theorem leftOf_F (k r l cap : Nat) (a : Option Addr) (ns : List Nat) (w : World) (h3 : k + r ≤ 16) (hl : l = ns.length) (hcap : l ≤ cap) (hX : RowI w a (natJ8 ns)) (hr : ∀ x ∈ ns, x < 2 * (k + r)) (hl9 : l ≤ 32) :
    Calls Tryz.prog 33 #[.int .i64 k, .int .i64 r, .slice a l cap] w fun e w' => ∃ D : DataW Unit, e = .returned (.map (some w.heap.size)) ∧ w'.ownsMap Tryz.prog 3 (unitElem (H := Unit)) w.heap.size 32 D ∧
      SetF D (fun x => x ∈ natJ8 (leftL (2 * (k + r)) ns)) ∧ Below w.heap.size w w' := by
  have HL : Hid (l = ns.length) := hl
  have HX : Hid (RowI w a (natJ8 ns)) := hX
  have HR : Hid (∀ x ∈ ns, x < 2 * (k + r)) := hr
  clear hl hX hr
  have hmm := @run_makeMap Tryz.prog
  go_enter Tryz.func33, Tryz.ntmps33
  go_wp2
  go_loopw [16] (fun i wr => ∃ j : Nat, j ≤ 2 * (k + r) ∧ i = .int .i64 j ∧ Below w.heap.size w wr ∧ ∃ D : DataW Unit, wr.ownsMap Tryz.prog 3 (unitElem (H := Unit)) w.heap.size j D ∧ SetF D (fun x => 0 ≤ x ∧ x < (j : Int))) (fun i _ => 2 * (k + r) - (intOf i).toNat)
  case atStart => exact ⟨0, by omega, rfl, (Below.refl _ _).alloc (Nat.le_refl _) _, _, World.ownsMap_made _ _ _ _, setF_empty⟩
  case round =>
    obtain ⟨j, hj, rfl, hb, D, hown, hset⟩ := hrel
    have HB : Hid _ := hb
    have HSET : Hid _ := hset
    clear hb hset
    by_cases hlt : j < 2 * (k + r)
    · have hkey := key_i64 (x := (j : Int)) (by omega)
      go_wp2_with (at_mapUpdate; refine wpList_mapUpdate_own _ rfl _ _ _ 57 rfl 3 58 lawI Tryz.underlying57 (unitElem (H := Unit)) w.heap.size j D rfl hown (by unfold maxLen; omega) _ _ _ rfl rfl hkey _ [] unitElem_mk ?_; intro w1 hown1 hgrow1)
      exact ⟨⟨j + 1, by omega, by go_num, HB.out.grown hgrow1 HB.out.size (fun j hj => by cases hj; exact Nat.le_refl _), _, hown1, setF_put HSET.out hown.isMap hkey (fun x => by omega)⟩, by simp [intOf]; omega⟩
    · obtain rfl : j = 2 * (k + r) := by omega
      have HS0 : Hid (SetF D (fun x => x ∈ natJ8 (leftL (2 * (k + r)) (ns.take 0)))) := fun x => by
        rw [HSET.out x, natJ8]
        simp only [List.mem_map, mem_leftL, List.take_zero]
        constructor
        · intro h; exact ⟨x.toNat, ⟨by omega, by simp⟩, by omega⟩
        · rintro ⟨y, ⟨h, _⟩, rfl⟩; omega
      clear HSET
      have hown0 := hown.mono (show 2 * (k + r) ≤ 32 by omega)
      clear hown
      go_wp2
      go_loopw [25] (fun i wq => ∃ j : Nat, j ≤ l ∧ i = .int .i64 j ∧ Below w.heap.size w wq ∧ ∃ D : DataW Unit, wq.ownsMap Tryz.prog 3 (unitElem (H := Unit)) w.heap.size 32 D ∧ SetF D (fun x => x ∈ natJ8 (leftL (2 * (k + r)) (ns.take j)))) (fun i _ => l - (intOf i).toNat)
      case atStart => exact ⟨0, by omega, rfl, HB.out, _, hown0, HS0.out⟩
      case round =>
        obtain ⟨i, hi, rfl, hb, D2, hown, hset⟩ := hrel
        have HB2 : Hid _ := hb
        have HSET : Hid _ := hset
        clear hb hset hown0
        by_cases hlt : i < l
        · have hin : i < ns.length := by rw [← HL.out]; exact hlt
          obtain ⟨b, off, hab, hbl, hc⟩ := rowI_cell (rowI_below HX.out HB2.out) (show i < (natJ8 ns).length by rw [natJ8_len]; exact hin)
          have c1 := hc i (by rw [natJ8_len]; exact hin)
          rw [show (natJ8 ns).getD i 0 = ((ns[i] : Nat) : Int) by simp [natJ8, List.getD, hin]] at c1
          have hx9 := HR.out _ (List.getElem_mem hin)
          have HT : Hid (ns.take (i + 1) = ns.take i ++ [ns[i]]) := List.take_succ_eq_append_getElem hin
          generalize ns[i] = x at *
          clear hc
          subst hab
          have hkey := key_i64 (x := (x : Int)) (by omega)
          go_wp2_with (at_delete; refine wpList_delete_own _ rfl _ _ 57 3 rfl 58 lawI Tryz.underlying57 _ w.heap.size 32 D2 rfl hown _ _ rfl hkey ?_; intro w1 hown1 hturn1)
          refine ⟨⟨i + 1, by omega, by go_num, HB2.out.grown hturn1.grown HB2.out.size (fun j hj => by cases hj; exact Nat.le_refl _), _, hown1, setF_del HSET.out (fun y => ?_)⟩, by simp [intOf]; omega⟩
          rw [HT.out]
          simp only [natJ8, List.mem_map, mem_leftL, List.mem_append, List.mem_singleton, not_or]
          constructor
          · rintro ⟨z, ⟨h1, h2, h3⟩, rfl⟩; exact ⟨⟨z, ⟨h1, h2⟩, rfl⟩, by omega⟩
          · rintro ⟨⟨z, ⟨h1, h2⟩, rfl⟩, h3⟩; exact ⟨z, ⟨h1, h2, by omega⟩, rfl⟩
        · obtain rfl : i = l := by omega
          have hf := HSET.out
          rw [show ns.take i = ns by rw [HL.out, List.take_length]] at hf
          have HF : Hid _ := hf
          clear hf HSET
          go_wp2
          go_ret
          exact ⟨rfl, D2, hown, HF.out, HB2.out⟩
end Go.Proofs.YtjmbpldkggbdlaaGreatDoor

/- What Left, Whole, Kind and Gone of package damage answer, of all arguments; nothing that was there turns. -/
namespace Go.Proofs.YtjmbpldkggbdlaaGreatDoor
open Go.RowKit Go.Maps Gf
set_option linter.unusedVariables false
set_option maxRecDepth 20000
theorem natJ8_sort {L : List Nat} {ss : List Int} (h : L.Pairwise (· < ·)) (hp : ss.Perm (natJ8 L)) : ss.mergeSort (fun x y => decide (x ≤ y)) = natJ8 L := by
  have e := mergeSort_of_perm_i hp
  have hs : (natJ8 L).Pairwise (fun x y => leI x y = true) := by
    rw [natJ8, List.pairwise_map]
    exact h.imp fun h => decide_eq_true (by omega)
  rw [List.mergeSort_of_pairwise hs] at e
  exact e
theorem natJ8_nodup {L : List Nat} (h : L.Pairwise (· < ·)) : (natJ8 L).Nodup := by
  show (natJ8 L).Pairwise (· ≠ ·)
  rw [natJ8, List.pairwise_map]
  exact h.imp fun h => by omega
/-- a list that a call answers: the call's own, or none -/
def ListOf (w' : World) (B : Nat) (v : Value) (L : List Nat) : Prop := ∃ a cap, v = .slice a L.length cap ∧ L.length ≤ cap ∧ cap ≤ maxLen ∧ (a = none → cap = 0) ∧ RowI w' a (natJ8 L) ∧ (∀ p, a = some p → B ≤ p.block)
theorem listOf_own {w' : World} {B0 B n : Nat} {v : Value} {L : List Nat} (h0 : B0 ≤ B) (hn : n = L.length) (ho : w'.ownsRow B 3 1 v n ((natJ8 L).map (Value.int .i64))) : ListOf w' B0 v L := by
  subst hn
  rcases ho.2 with ⟨rfl, hz⟩ | ⟨g, cap, cur, rfl, hg, hb, h1, h2, h3, h4⟩
  · have e : L = [] := List.eq_nil_of_length_eq_zero hz
    subst e
    exact ⟨none, 0, rfl, Nat.le_refl _, Nat.zero_le _, fun _ => rfl, .inl rfl, fun p h => (by cases h)⟩
  · exact ⟨_, cap, rfl, h1, h2, fun h => (by cases h), rowI_own ho, fun p h => (by cases h; exact Nat.le_trans h0 hg)⟩
theorem listOf_below {w w' : World} {B : Nat} {v : Value} {L : List Nat} (h : ListOf w B v L) (hb : Below w.heap.size w w') : ListOf w' B v L := by
  obtain ⟨a, cap, e, h1, h2, h3, h4, h5⟩ := h
  exact ⟨a, cap, e, h1, h2, h3, rowI_below h4 hb, h5⟩
set_option maxHeartbeats 2000000 in
theorem left_legal (k r l cap : Nat) (a : Option Addr) (ns : List Nat) (w : World) (E : Nat → Addr) (hE : ErrsH w E) (h1 : 1 ≤ k) (h2 : 2 ≤ r) (h3 : k + r ≤ 16) (hl : l = ns.length) (hcap : l ≤ cap) (hX : RowI w a (natJ8 ns)) (hu : ns.Pairwise (· < ·)) (hr : ∀ x ∈ ns, x < 2 * (k + r)) :
    Calls Tryz.prog 12 #[.int .i64 k, .int .i64 r, .slice a l cap] w fun e w' => ∃ v, e = .returned (.tuple #[v, .nilIface]) ∧ ListOf w' w.heap.size v (leftL (2 * (k + r)) ns) ∧ Below w.heap.size w w' := by
  have hlen : l ≤ 32 := by have := pair_len hu hr; omega
  have HC : Hid _ := dcheck_legal k r l cap a (natJ8 ns) w E hE h1 h2 h3 (by rw [natJ8_len]; exact hl) (by omega) hcap hX
  have HZ : Hid _ := chkE_ok h1 h2 h3 (goodH_of hu hr)
  have HL : Hid (l = ns.length) := hl
  have HX : Hid (RowI w a (natJ8 ns)) := hX
  have HR : Hid (∀ x ∈ ns, x < 2 * (k + r)) := hr
  clear hl hX hr hu hE
  go_enter Tryz.func12, Tryz.ntmps12
  go_wp2_with fail
  refine Calls.mono HC.out ?_
  rw [HZ.out]
  rintro e w1 ⟨rfl, hb1⟩
  have HB1 : Hid _ := hb1
  clear hb1
  rw [show evH E 0 = Value.nilIface from rfl]
  go_wp2_with fail
  refine Calls.mono (leftOf_F k r l cap a ns w1 h3 HL.out hcap (rowI_below HX.out HB1.out) HR.out hlen) ?_
  rintro e w2 ⟨D, rfl, hown, hset, hb2⟩
  have HB2 : Hid _ := HB1.out.trans (hb2.mono HB1.out.size)
  have HSZ : Hid _ := hown.size_le
  have HSP : Hid (∀ ss : List Int, ss.Perm (intKeys D) → ss.Perm (natJ8 (leftL (2 * (k + r)) ns))) := fun ss h => setF_perm hown hset (natJ8_nodup (leftL_up _ _)) h
  have HOWN : Hid (w2.ownsMap Tryz.prog 3 (unitElem (H := Unit)) w1.heap.size 32 D) := hown
  have HB3 : Hid _ := HB2.out.alloc HB2.out.size (.cells #[.map (some w1.heap.size)] 57)
  clear hb2 hown hset
  go_wp2_with fail
  refine Calls.mono (keys_F _ _ rfl _) ?_
  rintro e w3 ⟨rfl, hw3⟩
  subst hw3
  go_wp2_with fail
  refine Calls.mono (sorted_F w1.heap.size 32 w2.heap.size D (unitElem (H := Unit)) _ (HOWN.out.alloc _) (holds_at (holds_new (holds_nil w2) #[.map (some w1.heap.size)] 57) 0 rfl) (by have := HSZ.out; unfold maxLen; omega) (by have := HSZ.out; omega)) ?_
  rintro e w4 ⟨v, ss, rfl, hperm, hrow, hnil, hb4⟩
  have e9 := natJ8_sort (leftL_up _ _) (HSP.out ss hperm)
  have hlen9 : ss.length = (leftL (2 * (k + r)) ns).length := by rw [(HSP.out ss hperm).length_eq, natJ8_len]
  rw [e9, hlen9] at hrow
  have HV : Hid (ListOf w4 w.heap.size v (leftL (2 * (k + r)) ns)) := listOf_own HB3.out.size rfl hrow
  have HB4 : Hid _ := HB3.out.trans (hb4.mono HB3.out.size)
  clear hb4 hrow hnil hperm e9 hlen9
  go_wp2
  go_ret2
  exact ⟨v, rfl, HV.out, HB4.out⟩
end Go.Proofs.YtjmbpldkggbdlaaGreatDoor

/- What Of of package mat answers where its rows are not in form; nothing that was there turns. -/
namespace Go.Proofs.YtjmbpldkggbdlaaGreatDoor
open Go.RowKit Gf
set_option linter.unusedVariables false
set_option maxRecDepth 20000
set_option maxHeartbeats 400000 in
theorem of_no (c : Int) (l cap : Nat) (a : Option Addr) (w : World) (s : Addr) (hs : w.cell? ⟨2, 0, none⟩ = some (errAt s)) (h : ¬ (0 ≤ c ∧ c ≤ 64 ∧ l ≤ 64)) :
    Calls Tryz.prog 52 #[.int .i64 c, .slice a l cap] w fun e w' => e = .returned (.tuple #[.agg #[.int .i64 0, .int .i64 0, .slice none 0 0], errAt s]) ∧ Below w.heap.size w w' := by
  have hs1 := cell?_alloc_old (.cells #[.int .i64 0, .int .i64 0, .slice none 0 0] 63) hs
  have H : Hid _ := h
  have HS : Hid _ := hs1
  clear hs h hs1
  unfold errAt at *
  go_enter Tryz.func52, Tryz.ntmps52
  go_wp2_with fail
  refine Calls.mono (zero_bad l c _ _ HS.out (fun h => H.out ⟨h.2.2.1, h.2.2.2, by have := h.2.1; omega⟩)) ?_
  rintro e w1 ⟨rfl, hb1⟩
  have k1 := heap_later (heap_alloc_last w (.cells #[.int .i64 0, .int .i64 0, .slice none 0 0] 63)) hb1
  have c4 := cellAt k1 0 _ rfl
  have c5 := cellAt k1 1 _ rfl
  have c6 := cellAt k1 2 _ rfl
  have d4 : w1.frozen? ⟨w.heap.size, 0, none⟩ = false := frozen_of_row _ _ _ _ _ k1
  have d5 : w1.frozen? ⟨w.heap.size, 1, none⟩ = false := frozen_of_row _ _ _ _ _ k1
  have d6 : w1.frozen? ⟨w.heap.size, 2, none⟩ = false := frozen_of_row _ _ _ _ _ k1
  have z1 := ltHeap k1
  have HB1 : Hid (Below w.heap.size w w1) := ((Below.refl w.heap.size w).alloc (Nat.le_refl _) _).trans (hb1.mono (by simp))
  clear hb1 k1
  go_wp2
  refine bodyPost_ret (v := .tuple #[.agg #[.int .i64 0, .int .i64 0, .slice none 0 0], .iface 188 (.pointer (some s))]) (by simp [results, Tryz.results52, go_sem, c4, c5, c6, z1]) rfl ⟨rfl, ?_⟩
  exact (((HB1.out.setCell (by simp) _).setCell (by simp) _).setCell (by simp) _).alloc (by simp; omega) _
set_option maxHeartbeats 400000 in
theorem one_bad (n : Int) (w : World) (s : Addr) (hs : w.cell? ⟨2, 0, none⟩ = some (errAt s)) (h : ¬ (0 ≤ n ∧ n ≤ 64)) :
    Calls Tryz.prog 70 #[.int .i64 n] w fun e w' => e = .returned (.tuple #[.agg #[.int .i64 0, .int .i64 0, .slice none 0 0], errAt s]) ∧ Below w.heap.size w w' := by
  have hs1 := cell?_alloc_old (.cells #[.int .i64 0, .int .i64 0, .slice none 0 0] 63) hs
  have H : Hid _ := h
  have HS : Hid _ := hs1
  clear hs h hs1
  unfold errAt at *
  go_enter Tryz.func70, Tryz.ntmps70
  go_wp2_with fail
  refine Calls.mono (zero_bad n n _ _ HS.out (fun h => H.out ⟨h.1, h.2.1⟩)) ?_
  rintro e w1 ⟨rfl, hb1⟩
  have k1 := heap_later (heap_alloc_last w (.cells #[.int .i64 0, .int .i64 0, .slice none 0 0] 63)) hb1
  have c4 := cellAt k1 0 _ rfl
  have c5 := cellAt k1 1 _ rfl
  have c6 := cellAt k1 2 _ rfl
  have d4 : w1.frozen? ⟨w.heap.size, 0, none⟩ = false := frozen_of_row _ _ _ _ _ k1
  have d5 : w1.frozen? ⟨w.heap.size, 1, none⟩ = false := frozen_of_row _ _ _ _ _ k1
  have d6 : w1.frozen? ⟨w.heap.size, 2, none⟩ = false := frozen_of_row _ _ _ _ _ k1
  have z1 := ltHeap k1
  have HB1 : Hid (Below w.heap.size w w1) := ((Below.refl w.heap.size w).alloc (Nat.le_refl _) _).trans (hb1.mono (by simp))
  clear hb1 k1
  go_wp2
  refine bodyPost_ret (v := .tuple #[.agg #[.int .i64 0, .int .i64 0, .slice none 0 0], .iface 188 (.pointer (some s))]) (by simp [results, Tryz.results70, go_sem, c4, c5, c6, z1]) rfl ⟨rfl, ?_⟩
  exact (((HB1.out.setCell (by simp) _).setCell (by simp) _).setCell (by simp) _).alloc (by simp; omega) _
/-- where the first row that is too long, or too short, stands -/
theorem odd_split {c : Nat} : ∀ {L : List (List F)}, ¬ (∀ xs ∈ L, xs.length = c) → ∃ (k : Nat) (xs : List F), L[k]? = some xs ∧ xs.length ≠ c ∧ ∀ (j : Nat) (ys : List F), j < k → L[j]? = some ys → ys.length = c
  | [], h => absurd (fun _ h => by cases h) h
  | zs :: L, h => by
    by_cases hz : zs.length = c
    · obtain ⟨k, xs, h1, h2, h3⟩ := odd_split (L := L) (c := c) (fun h' => h (fun xs hx => by
        rcases List.mem_cons.1 hx with rfl | hx
        · exact hz
        · exact h' xs hx))
      refine ⟨k + 1, xs, h1, h2, fun j ys hj hy => ?_⟩
      cases j with
      | zero => obtain rfl := Option.some.inj hy; exact hz
      | succ j => exact h3 j ys (by omega) hy
    · exact ⟨0, zs, rfl, hz, fun j ys hj => absurd hj (Nat.not_lt_zero _)⟩
set_option maxHeartbeats 1000000 in
theorem of_odd (c l cap : Nat) (a : Option Addr) (L : List (List F)) (w : World) (hc : c ≤ 64) (hl : l = L.length) (hl6 : l ≤ 64) (hX : Rows8 w a L) (s : Addr) (hs : w.cell? ⟨2, 0, none⟩ = some (errAt s)) (h : ¬ (∀ xs ∈ L, xs.length = c)) :
    Calls Tryz.prog 52 #[.int .i64 c, .slice a l cap] w fun e w' => e = .returned (.tuple #[.agg #[.int .i64 0, .int .i64 0, .slice none 0 0], errAt s]) ∧ Below w.heap.size w w' := by
  have hlt0 := World.block_lt_of_cell? w _ hs
  simp at hlt0
  obtain ⟨k0, bad, hbad, hodd, hgood⟩ := odd_split h
  have hk0 : k0 < l := by rw [hl]; exact (List.getElem?_eq_some_iff.1 hbad).1
  have HL : Hid _ := hl
  have HR : Hid (Rows8 w a L) := hX
  have HS : Hid _ := hs
  have HBad : Hid _ := hbad
  have HOdd : Hid _ := hodd
  have HGood : Hid _ := hgood
  clear hl hX hs h hbad hodd hgood
  unfold errAt at *
  go_enter Tryz.func52, Tryz.ntmps52
  go_wp2_with fail
  refine Calls.mono (zero_F l c _ hl6 hc) ?_
  rintro e w2 ⟨g, n, rfl, hn, hg, hh, hb2⟩
  have z2 := hb2.size
  simp only [World.size_alloc] at z2 hg
  have z4 : w.heap.size < w2.heap.size := by omega
  have zg : g < w2.heap.size := ltHeap hh
  have HN : Hid _ := hn
  have HG : Hid _ := hh
  have HB' : Hid (Below w.heap.size w w2) := ((Below.refl w.heap.size w).alloc (Nat.le_refl _) _).trans (hb2.mono (by simp))
  have B1' : Hid _ := heap_later (heap_alloc_last w (.cells #[.int .i64 0, .int .i64 0, .slice none 0 0] 63)) hb2
  clear hn hh hb2
  go_wp2
  have B2 : Hid _ := heap_alloc_last w2 (.cells #[.int .i64 l, .int .i64 c, .slice (some ⟨g, 0, none⟩) n n] 63)
  have B1 : Hid ((w2.alloc (.cells #[.int .i64 l, .int .i64 c, .slice (some ⟨g, 0, none⟩) n n] 63)).heap[w.heap.size]? = some (.cells #[.int .i64 0, .int .i64 0, .slice none 0 0] 63 (0, 0))) :=
    (Below.heap_alloc _ _ _ z4).trans B1'.out
  have B3 : Hid ((w2.alloc (.cells #[.int .i64 l, .int .i64 c, .slice (some ⟨g, 0, none⟩) n n] 63)).heap[g]? = some (.cells (vfs (zeros (l * c))) 5 (0, 0))) := (Below.heap_alloc _ _ _ zg).trans HG.out
  have B4 : Hid (Below w.heap.size w (w2.alloc (.cells #[.int .i64 l, .int .i64 c, .slice (some ⟨g, 0, none⟩) n n] 63))) := HB'.out.alloc (by omega) _
  clear HG HB' B1'
  generalize hM : w2.heap.size = M at *
  generalize (w2.alloc (.cells #[.int .i64 l, .int .i64 c, .slice (some ⟨g, 0, none⟩) n n] 63)) = W3 at *
  clear hM
  go_loopw [23] (fun i wr => ∃ k : Nat, ∃ zs : List F, k ≤ k0 ∧ i = .int .i64 k ∧ W3.grownBy wr (some g) ∧ zs.length = l * c ∧ wr.heap[g]? = some (.cells (vfs zs) 5 (0, 0))) (fun i _ => l - (intOf i).toNat)
  case atStart => exact ⟨0, _, by omega, rfl, World.grownBy.refl _ _, zeros_len _, B3.out⟩
  case round =>
    obtain ⟨k, zs, hk, rfl, hgb, hzl, hs⟩ := hrel
    have hlt : k < l := by omega
    have hkL : k < L.length := by rw [← HL.out]; exact hlt
    have hget : L[k]? = some L[k] := List.getElem?_eq_getElem hkL
    generalize L[k] = xs at hget
    have HGet : Hid _ := hget
    rcases HR.out with e0 | ⟨b, off, rfl, hrows⟩
    · rw [e0] at hkL; simp at hkL
    obtain ⟨a', cap', hc1, hr1⟩ := hrows k xs hget
    have hbw := below_grown B4.out hgb (by omega)
    have c0 := cell_later hbw hc1
    have HGB : Hid _ := hgb
    have HZ : Hid _ := hzl
    have HG : Hid _ := hs
    have HBW : Hid _ := hbw
    have HR1 : Hid (Row8 w a' xs) := hr1
    have k0' := grown_block hgb B2.out (by omega)
    by_cases hbe : k < k0
    · have hxl := HGood.out k xs hbe hget
      rw [hxl] at c0
      have c1 := cellAt k0' 0 _ rfl
      have c2 := cellAt k0' 1 _ rfl
      have c3 := cellAt k0' 2 _ rfl
      have HXL : Hid _ := hxl
      clear k0' hgb hs hc1 hr1 hrows hget hxl hbw hzl
      go_wp2_with fail
      refine Calls.mono (rowOf_some l c k g 0 n n _ hl6 hc hlt HN.out (Nat.le_refl _)) ?_
      rintro e w5 ⟨rfl, hb5⟩
      rw [rof_row hlt HN.out]
      have hr5 := row8_below HR1.out (HBW.out.trans (hb5.mono HBW.out.size))
      have hs5 := heap_later HG.out hb5
      have hle : k * c + xs.length ≤ zs.length := by
        have h1 := Nat.mul_le_mul_right c (show k + 1 ≤ l from hlt)
        rw [Nat.succ_mul] at h1
        rw [HZ.out, HXL.out]; exact h1
      have hcp := fun ty => run_copyAt g (k * c) c (n - k * c) a' c cap' zs xs w5 ty HXL.out.symm HXL.out.symm hle hs5 hr5
      have hz5 : (zs.take (k * c) ++ xs ++ zs.drop (k * c + xs.length)).length = l * c := by
        rw [List.length_append, List.length_append, List.length_take, List.length_drop, ← HZ.out]; omega
      have hs6 := setRow_heap _ _ _ (vfs (zs.take (k * c) ++ xs ++ zs.drop (k * c + xs.length))) _ _ hs5
      have hg6 := grownBy_setRow (grown_below HGB.out hb5) (vfs (zs.take (k * c) ++ xs ++ zs.drop (k * c + xs.length)))
      generalize zs.take (k * c) ++ xs ++ zs.drop (k * c + xs.length) = us at hcp hz5 hs6 hg6
      have HZ5 : Hid _ := hz5
      have HS5 : Hid _ := hs6
      have HGB5 : Hid _ := hg6
      clear hs5 hb5 c0 c1 c2 c3 hr5 hle hz5 hs6 hg6
      go_wp2
      exact ⟨⟨k + 1, _, by omega, by go_num, HGB5.out, HZ5.out, HS5.out⟩, by simp [intOf]; omega⟩
    · obtain rfl : k = k0 := by omega
      obtain rfl : bad = xs := Option.some.inj (HBad.out.symm.trans hget)
      have hne : ((bad.length : Int) != (c : Int)) = true := by rw [bne_iff_ne]; have := HOdd.out; exact fun e => this (by omega)
      have k1 := grown_block hgb B1.out (by omega)
      have c4 := cellAt k1 0 _ rfl
      have c5 := cellAt k1 1 _ rfl
      have c6 := cellAt k1 2 _ rfl
      have d4 : wr.frozen? ⟨w.heap.size, 0, none⟩ = false := frozen_of_row _ _ _ _ _ k1
      have d5 : wr.frozen? ⟨w.heap.size, 1, none⟩ = false := frozen_of_row _ _ _ _ _ k1
      have d6 : wr.frozen? ⟨w.heap.size, 2, none⟩ = false := frozen_of_row _ _ _ _ _ k1
      have c9 := cell_later hbw HS.out
      clear k0' k1 hgb hs hc1 hr1 hrows hget hbw hzl
      go_wp2
      go_region
      go_wp2
      refine bodyPost_ret (v := .tuple #[.agg #[.int .i64 0, .int .i64 0, .slice none 0 0], .iface 188 (.pointer (some s))]) (by simp [results, Tryz.results52, go_sem, c4, c5, c6]) rfl ⟨rfl, ?_⟩
      exact (((HBW.out.drew).setCell (by simp) _).setCell (by simp) _).setCell (by simp) _
end Go.Proofs.YtjmbpldkggbdlaaGreatDoor

/- What Parity of package base answers, of all legal numbers; nothing that was there turns. -/
namespace Go.Proofs.YtjmbpldkggbdlaaGreatDoor
open Go.RowKit Gf
set_option linter.unusedVariables false
set_option maxRecDepth 20000
theorem elN_val {k : Nat} (h : k < 256) : ((elN k).toNat : Int) = (k : Int) := el_val h
theorem cyN_inv (w : World) {s j : Nat} (hs : s < 256) (hj : j < 256) (hne : s ≠ j) :
    Calls Tryz.prog 117 #[.int .u8 ((ga (elN s) (elN j)).toNat : Int)] w fun e w' => e = .returned (.tuple #[.int .u8 ((cyN s j).toNat : Int), .bool true]) ∧ w = w' := by
  have h0 : ga (elN s) (elN j) ≠ 0 := ga_ne fun e => hne (elN_inj hs hj e)
  have := inv_F (ga (elN s) (elN j)) w
  rw [if_neg h0, decide_eq_true h0] at this
  exact this
theorem xor_el {s j : Nat} (hs : s < 256) (hj : j < 256) : bits .xor .u8 (s : Int) (j : Int) = ((ga (elN s) (elN j)).toNat : Int) := by
  rw [← elN_val hs, ← elN_val hj, xor_val]
set_option maxHeartbeats 1000000 in
theorem factors_F (k s : Nat) (w : World) (hk : k ≤ s) (hs : s < 32) :
    Calls Tryz.prog 97 #[.int .i64 k, .int .i64 s] w fun e w' => ∃ g, e = .returned (.slice (some ⟨g, 0, none⟩) k k) ∧ w.heap.size ≤ g ∧
      w'.heap[g]? = some (.cells (vfs (rowF k (cyN s))) 5 (0, 0)) ∧ Below w.heap.size w w' := by
  have hmk := run_make8 k (by omega)
  go_enter Tryz.func97, Tryz.ntmps97
  go_wp2
  have B1 : Hid _ := heap_alloc_last w (.cells (vfs (zeros k)) 5)
  have B3 : Hid _ := (Below.refl w.heap.size w).alloc (Nat.le_refl _) (.cells (vfs (zeros k)) 5)
  clear hmk
  generalize (w.alloc (.cells (vfs (zeros k)) 5)) = W3 at *
  go_loopw [11] (fun i wr => ∃ j : Nat, j ≤ k ∧ i = .int .i64 j ∧ W3.grownBy wr (some w.heap.size) ∧ wr.heap[w.heap.size]? = some (.cells (vfs (colP k (cyN s) j)) 5 (0, 0))) (fun i _ => k - (intOf i).toNat)
  case atStart => exact ⟨0, by omega, rfl, World.grownBy.refl _ _, by rw [← colP_zero]; exact B1.out⟩
  case round =>
    obtain ⟨j, hj, rfl, hgb, hh⟩ := hrel
    by_cases hlt : j < k
    · have hj2 : (j : Int) < 256 := by omega
      have hs2 : (s : Int) < 256 := by omega
      have hx := xor_el (s := s) (j := j) (by omega) (by omega)
      have c4 := cellAt hh j _ (vfs_get _ _ (by rw [colP_len]; exact hlt))
      have c5 : wr.frozen? ⟨w.heap.size, j, none⟩ = false := frozen_of_row _ _ _ _ _ hh
      have HG : Hid _ := hh
      have HGB : Hid _ := hgb
      clear hh hgb
      go_wp2_with fail
      refine Calls.mono (cyN_inv _ (by omega) (by omega) (by omega)) ?_
      rintro e w' ⟨rfl, rfl⟩
      go_wp2
      refine ⟨⟨j + 1, by omega, by go_num, grownBy_setCell HGB.out _, ?_⟩, by simp [intOf]; omega⟩
      rw [heap_setCell_same _ _ _ _ _ _ HG.out, vfs_set, colP_step]
    · have e : j = k := by omega
      subst e
      rw [colP_done] at hh
      have HG : Hid _ := hh
      have HGB : Hid _ := hgb
      clear hh hgb
      go_wp2
      go_ret
      exact ⟨w.heap.size, rfl, by omega, HG.out, below_grown B3.out HGB.out (by omega)⟩
/-- the matrix of the parities -/
def parM (k r : Nat) : List F := grid k (fun i j => cyN (k + i) j) r
theorem parM_len (k r : Nat) : (parM k r).length = r * k := grid_len _ _ _
set_option maxHeartbeats 2000000 in
theorem parity_F (k r : Nat) (w : World) (h1 : 1 ≤ k) (h2 : 2 ≤ r) (h3 : k + r ≤ 16) :
    Calls Tryz.prog 69 #[.int .i64 k, .int .i64 r] w fun e w' => ∃ g m, e = .returned (.tuple #[.agg #[.int .i64 r, .int .i64 k, .slice (some ⟨g, 0, none⟩) m m], .nilIface]) ∧ m = r * k ∧ w.heap.size ≤ g ∧
      w'.heap[g]? = some (.cells (vfs (parM k r)) 5 (0, 0)) ∧ Below w.heap.size w w' := by
  have hmk := run_makeS r (by omega)
  go_enter Tryz.func69, Tryz.ntmps69
  go_wp2_with fail
  refine (bcheck_ok _ _ _ h1 h2 h3).mono ?_
  rintro e w' ⟨rfl, rfl⟩
  go_wp2
  have B0 : Hid _ := heap_alloc2_old w (.cells #[.int .i64 0, .int .i64 0, .slice none 0 0] 63) (.cells (slV 0 [] r) 61)
  have B1 : Hid _ := heap_alloc2_new w (.cells #[.int .i64 0, .int .i64 0, .slice none 0 0] 63) (.cells (slV 0 [] r) 61)
  have B3 : Hid _ := ((Below.refl w.heap.size w).alloc (Nat.le_refl _) (.cells #[.int .i64 0, .int .i64 0, .slice none 0 0] 63)).alloc (by simp) (.cells (slV 0 [] r) 61)
  clear hmk
  generalize hW : ((w.alloc (.cells #[.int .i64 0, .int .i64 0, .slice none 0 0] 63)).alloc (.cells (slV 0 [] r) 61)) = W3 at *
  clear hW
  go_loopw [20] (fun i wr => ∃ j : Nat, ∃ gs : List Nat, j ≤ r ∧ i = .int .i64 j ∧ gs.length = j ∧ W3.grownBy wr (some (w.heap.size + 1)) ∧ wr.heap[w.heap.size + 1]? = some (.cells (slV k gs r) 61 (0, 0)) ∧
    ∀ i g, gs[i]? = some g → g ≠ w.heap.size + 1 ∧ wr.heap[g]? = some (.cells (vfs (rowF k (cyN (k + i)))) 5 (0, 0))) (fun i _ => r - (intOf i).toNat)
  case atStart => exact ⟨0, [], by omega, rfl, rfl, World.grownBy.refl _ _, B1.out, fun j g h => by simp at h⟩
  case round =>
    obtain ⟨j, gs, hj, rfl, hgs, hgb, hs, hrows⟩ := hrel
    have HS : Hid _ := hs
    have HG : Hid _ := hgs
    have HR : Hid _ := hrows
    have HGB : Hid _ := hgb
    clear hs hgs hrows hgb
    by_cases hlt : j < r
    · go_wp2_with fail
      have e0 : (k : Int) + j = ((k + j : Nat) : Int) := by omega
      rw [e0]
      clear e0
      refine Calls.mono (factors_F k (k + j) _ (by omega) (by omega)) ?_
      rintro e w5 ⟨g5, rfl, hg5, hh5, hb5⟩
      have hs5 := heap_later HS.out hb5
      have hg5M : g5 ≠ w.heap.size + 1 := by
        have h1 := ltHeap HS.out
        omega
      have c7 : w5.cell? ⟨w.heap.size + 1, j, none⟩ = some (.slice none 0 0) := cellAt hs5 j _ (by have e := slV_next (c := k) (gs := gs) (r := r) (by rw [HG.out]; exact hlt); rwa [HG.out] at e)
      have c8 : w5.frozen? ⟨w.heap.size + 1, j, none⟩ = false := frozen_of_row _ _ _ _ _ hs5
      have HT : Hid ((w5.setCell ⟨w.heap.size + 1, j, none⟩ (.slice (some ⟨g5, 0, none⟩) k k)).heap[w.heap.size + 1]? = some (.cells (slV k (gs ++ [g5]) r) 61 (0, 0))) := by
        show _ = _
        have hgs := HG.out
        rw [heap_setCell_same _ _ _ _ _ _ hs5, ← hgs, slV_set g5 (by omega)]
      have HROW : Hid (∀ i g, (gs ++ [g5])[i]? = some g → g ≠ w.heap.size + 1 ∧ (w5.setCell ⟨w.heap.size + 1, j, none⟩ (.slice (some ⟨g5, 0, none⟩) k k)).heap[g]? = some (.cells (vfs (rowF k (cyN (k + i)))) 5 (0, 0))) := by
        intro i g hi
        have hgs := HG.out
        by_cases hjk : i < gs.length
        · rw [List.getElem?_append_left hjk] at hi
          obtain ⟨h1, h2⟩ := HR.out i g hi
          exact ⟨h1, (heap_setCell_other _ _ _ _ h1).trans (heap_later h2 hb5)⟩
        · have hj2 := (List.getElem?_eq_some_iff.1 hi).1
          simp only [List.length_append, List.length_singleton] at hj2
          obtain rfl : i = j := by omega
          rw [List.getElem?_append_right (by omega), show i - gs.length = 0 from by omega] at hi
          obtain rfl : g5 = g := by simpa using hi
          exact ⟨hg5M, (heap_setCell_other _ _ _ _ hg5M).trans hh5⟩
      have HGB5 : Hid (W3.grownBy (w5.setCell ⟨w.heap.size + 1, j, none⟩ (.slice (some ⟨g5, 0, none⟩) k k)) (some (w.heap.size + 1))) := grownBy_setCell (grown_below HGB.out hb5) _
      clear hs5 hb5 hh5
      go_wp2
      exact ⟨⟨j + 1, gs ++ [g5], by omega, by go_num, by simp [HG.out], HGB5.out, HT.out, HROW.out⟩, by simp [intOf]; omega⟩
    · obtain rfl : j = r := by omega
      go_wp2_with fail
      refine Calls.mono (of_F k j j _ ((List.range j).map fun i => rowF k (cyN (k + i))) _ (by omega) (by simp) (by omega) (fun x hx => ?_) (.inr ⟨w.heap.size + 1, 0, rfl, fun i x hx => ?_⟩)) ?_
      · obtain ⟨i, _, rfl⟩ := List.mem_map.1 hx
        exact rowF_len _ _
      · simp only [List.getElem?_map, Option.map_eq_some_iff] at hx
        obtain ⟨l, hi, rfl⟩ := hx
        obtain ⟨hjk, hi2⟩ := List.getElem?_eq_some_iff.1 hi
        simp only [List.length_range] at hjk
        simp only [List.getElem_range] at hi2
        subst hi2
        have hjg : i < gs.length := by rw [HG.out]; exact hjk
        have hgj : gs[i]? = some gs[i] := List.getElem?_eq_getElem hjg
        refine ⟨some ⟨gs[i], 0, none⟩, k, ?_, row8_own (HR.out i _ hgj).2⟩
        rw [Nat.zero_add, rowF_len]
        exact cellAt HS.out i _ (slV_at hjg)
      rintro e w5 ⟨g, m, rfl, hm, hg, hh, hb5⟩
      have k2 := heap_later (grown_block HGB.out B0.out (by omega)) hb5
      have c4 := cellAt k2 0 _ rfl
      have c5 := cellAt k2 1 _ rfl
      have c6 := cellAt k2 2 _ rfl
      have d4 : w5.frozen? ⟨w.heap.size, 0, none⟩ = false := frozen_of_row _ _ _ _ _ k2
      have d5 : w5.frozen? ⟨w.heap.size, 1, none⟩ = false := frozen_of_row _ _ _ _ _ k2
      have d6 : w5.frozen? ⟨w.heap.size, 2, none⟩ = false := frozen_of_row _ _ _ _ _ k2
      have HM : Hid _ := hm
      have HH : Hid _ := hh
      have HBW : Hid (Below w.heap.size w w5) := (below_grown B3.out HGB.out (by omega)).trans (hb5.mono (below_grown B3.out HGB.out (by omega)).size)
      have hgw : w.heap.size + 1 < g := by
        have := ltHeap HS.out
        omega
      clear hm hh hb5 k2
      go_wp2
      refine bodyPost_ret (v := .tuple #[.agg #[.int .i64 j, .int .i64 k, .slice (some ⟨g, 0, none⟩) m m], .nilIface]) (by simp [results, Tryz.results69, go_sem, c4, c5, c6]) rfl ⟨g, m, rfl, HM.out, by omega, ?_, ?_⟩
      · rw [heap_setCell_other _ _ _ _ (by show g ≠ w.heap.size; omega), heap_setCell_other _ _ _ _ (by show g ≠ w.heap.size; omega), heap_setCell_other _ _ _ _ (by show g ≠ w.heap.size; omega), parM, grid_flat]
        exact HH.out
      · exact ((HBW.out.setCell (by simp) _).setCell (by simp) _).setCell (by simp) _
end Go.Proofs.YtjmbpldkggbdlaaGreatDoor

/- What Take of package mat answers, of all matrices in form and lists of numbers; nothing that was there turns. -/
namespace Go.Proofs.YtjmbpldkggbdlaaGreatDoor
open Go.RowKit Gf
set_option linter.unusedVariables false
set_option maxRecDepth 20000
/-- the first lists of a list of lists -/
def slW (vs : List Value) (r : Nat) : Array Value := (vs ++ List.replicate (r - vs.length) (Value.slice none 0 0)).toArray
theorem slW_nil (r : Nat) : slV 0 [] r = slW [] r := by
  apply Array.ext_getElem?
  intro i
  by_cases h : i < r <;> simp [slV, slW, h]
theorem slW_at {vs : List Value} {r i : Nat} {v : Value} (h : vs[i]? = some v) : (slW vs r)[i]? = some v := by
  have hi := (List.getElem?_eq_some_iff.1 h).1
  simp only [slW, List.getElem?_toArray]
  rw [List.getElem?_append_left hi, h]
theorem slW_next {vs : List Value} {r : Nat} (h : vs.length < r) : (slW vs r)[vs.length]? = some (.slice none 0 0) := by
  simp only [slW, List.getElem?_toArray]
  rw [List.getElem?_append_right (Nat.le_refl _), Nat.sub_self, List.getElem?_replicate, if_pos (by omega)]
theorem slW_set {vs : List Value} {r : Nat} (v : Value) (h : vs.length < r) : (slW vs r).setIfInBounds vs.length v = slW (vs ++ [v]) r := by
  apply Array.ext_getElem?
  intro i
  rw [Array.getElem?_setIfInBounds]
  simp only [slW, List.getElem?_toArray, List.size_toArray, List.length_append, List.length_replicate]
  by_cases hi : vs.length = i
  · subst hi
    rw [if_pos rfl, if_pos (by omega), List.getElem?_append_left (by simp), List.getElem?_append_right (Nat.le_refl _), Nat.sub_self]; rfl
  · rw [if_neg hi]
    by_cases h2 : i < vs.length
    · rw [List.getElem?_append_left h2, List.getElem?_append_left (by simp; omega), List.getElem?_append_left h2]
    · rw [List.getElem?_append_right (by omega), List.getElem?_append_right (by simp; omega)]
      simp only [List.length_append, List.length_cons, List.length_nil, List.getElem?_replicate]
      by_cases h3 : i < r
      · rw [if_pos (by omega), if_pos (by omega)]
      · rw [if_neg (by omega), if_neg (by omega)]
/-- these values are lists of bytes, of c bytes each -/
def Lists8 (w : World) (c : Nat) (vs : List Value) (L : List (List F)) : Prop :=
  vs.length = L.length ∧ ∀ (j : Nat) (v : Value) (xs : List F), vs[j]? = some v → L[j]? = some xs → ∃ (a : Option Addr) (cap : Nat), v = .slice a c cap ∧ xs.length = c ∧ Row8 w a xs
theorem lists8_nil (w : World) (c : Nat) : Lists8 w c [] [] := ⟨rfl, fun j v xs h => by simp at h⟩
theorem lists8_snoc {w : World} {c cap : Nat} {vs : List Value} {L : List (List F)} {a : Option Addr} {xs : List F} (h : Lists8 w c vs L) (hx : xs.length = c) (hr : Row8 w a xs) : Lists8 w c (vs ++ [.slice a c cap]) (L ++ [xs]) := by
  refine ⟨by simp [h.1], fun j v ys hv hy => ?_⟩
  by_cases hj : j < vs.length
  · rw [List.getElem?_append_left hj] at hv
    rw [List.getElem?_append_left (by rw [← h.1]; exact hj)] at hy
    exact h.2 j v ys hv hy
  · have e := (List.getElem?_eq_some_iff.1 hv).1
    simp at e
    obtain rfl : j = vs.length := by omega
    rw [List.getElem?_append_right (Nat.le_refl _), Nat.sub_self] at hv
    rw [h.1, List.getElem?_append_right (Nat.le_refl _), Nat.sub_self] at hy
    obtain rfl := Option.some.inj hv
    obtain rfl := Option.some.inj hy
    exact ⟨a, cap, rfl, hx, hr⟩
theorem lists8_rows {w w' : World} {c M : Nat} {vs : List Value} {L : List (List F)} (h : Lists8 w c vs L) (hb : Below w.heap.size w w') (hc : ∀ j v, vs[j]? = some v → w'.cell? ⟨M, j, none⟩ = some v) : Rows8 w' (some ⟨M, 0, none⟩) L := by
  refine .inr ⟨M, 0, rfl, fun j xs hj => ?_⟩
  have hlt : j < vs.length := by rw [h.1]; exact (List.getElem?_eq_some_iff.1 hj).1
  have hv := List.getElem?_eq_getElem hlt
  obtain ⟨a, cap, e, hx, hr⟩ := h.2 j _ xs hv hj
  refine ⟨a, cap, ?_, row8_below hr hb⟩
  rw [Nat.zero_add, hc j _ hv, e, hx]
theorem lists8_len {w : World} {c : Nat} {vs : List Value} {L : List (List F)} (h : Lists8 w c vs L) : ∀ xs ∈ L, xs.length = c := fun xs hx => by
  obtain ⟨j, hj, e⟩ := List.getElem_of_mem hx
  have hlt : j < vs.length := by rw [h.1]; exact hj
  obtain ⟨a, cap, _, hl, _⟩ := h.2 j _ xs (List.getElem?_eq_getElem hlt) (by rw [List.getElem?_eq_getElem hj, e])
  exact hl
/-- the rows with these numbers -/
def takeM (c : Nat) (xs : List F) (ns : List Int) : List (List F) := ns.map fun n => rowAt c xs n.toNat
set_option maxHeartbeats 1000000 in
theorem take_F (r c l cap ln cn : Nat) (a an : Option Addr) (xs : List F) (ns : List Int) (w : World) (hr : r ≤ 64) (hc : c ≤ 64) (hl : l = r * c) (hx : xs.length = r * c) (hcap : l ≤ cap) (hX : Row8 w a xs) (hnil : a = none → cap = 0)
    (hln : ln = ns.length) (hn : ln ≤ 64) (hN : RowI w an ns) (s : Addr) (hs : w.cell? ⟨3, 0, none⟩ = some (errAt s)) :
    Calls Tryz.prog 35 #[.agg #[.int .i64 r, .int .i64 c, .slice a l cap], .slice an ln cn] w fun e w' =>
      (∀ n ∈ ns, 0 ≤ n ∧ n < r) ∧ (∃ g m, e = .returned (.tuple #[.agg #[.int .i64 ln, .int .i64 c, .slice (some ⟨g, 0, none⟩) m m], .nilIface]) ∧ m = ln * c ∧ w.heap.size ≤ g ∧
        w'.heap[g]? = some (.cells (vfs (takeM c xs ns).flatten) 5 (0, 0)) ∧ Below w.heap.size w w') ∨
      ¬ (∀ n ∈ ns, 0 ≤ n ∧ n < r) ∧ e = .returned (.tuple #[.agg #[.int .i64 0, .int .i64 0, .slice none 0 0], errAt s]) ∧ Below w.heap.size w w' := by
  have hlt0 := World.block_lt_of_cell? w _ hs
  simp at hlt0
  have HL : Hid _ := hl
  have HX : Hid _ := hx
  have HR : Hid (Row8 w a xs) := hX
  have HN : Hid _ := hnil
  have HLN : Hid _ := hln
  have HI : Hid _ := hN
  have HS : Hid _ := hs
  clear hl hx hX hnil hln hN hs
  have hmk := run_makeS ln hn
  rw [slW_nil] at hmk
  unfold errAt at *
  go_enter Tryz.func35, Tryz.ntmps35
  go_wp2_with fail
  refine Calls.mono (check_ok r c a l cap _ hr hc HL.out) ?_
  rintro e w1 ⟨rfl, hb1⟩
  have z1 := hb1.size
  simp only [World.size_alloc] at z1
  have z2 : w.heap.size < w1.heap.size := by omega
  have z3 : w.heap.size + 1 < w1.heap.size := by omega
  have B0' : Hid _ := heap_later (heap_alloc2_old w (.cells #[.int .i64 r, .int .i64 c, .slice a l cap] 63) (.cells #[.int .i64 0, .int .i64 0, .slice none 0 0] 63)) hb1
  have B1' : Hid _ := heap_later (heap_alloc2_new w (.cells #[.int .i64 r, .int .i64 c, .slice a l cap] 63) (.cells #[.int .i64 0, .int .i64 0, .slice none 0 0] 63)) hb1
  have HB1 : Hid (Below w.heap.size w w1) := (((Below.refl w.heap.size w).alloc (Nat.le_refl _) _).alloc (by simp) _).trans (hb1.mono (by simp; omega))
  clear hb1
  go_wp2
  have B0 : Hid _ := (Below.heap_alloc w1 (.cells (slW [] ln) 61) _ z2).trans B0'.out
  have B1 : Hid _ := (Below.heap_alloc w1 (.cells (slW [] ln) 61) _ z3).trans B1'.out
  have B3 : Hid _ := heap_alloc_last w1 (.cells (slW [] ln) 61)
  have B4 : Hid (Below w.heap.size w (w1.alloc (.cells (slW [] ln) 61))) := HB1.out.alloc (by omega) _
  clear HB1 B0' B1' hmk
  generalize hM : w1.heap.size = M at *
  generalize (w1.alloc (.cells (slW [] ln) 61)) = W3 at *
  clear hM
  go_loopw [24] (fun i wr => ∃ k : Nat, ∃ vs : List Value, k ≤ ln ∧ i = .int .i64 k ∧ vs.length = k ∧ W3.grownBy wr (some M) ∧ wr.heap[M]? = some (.cells (slW vs ln) 61 (0, 0)) ∧ Lists8 w c vs (takeM c xs (ns.take k)) ∧ ∀ n ∈ ns.take k, 0 ≤ n ∧ n < r) (fun i _ => ln - (intOf i).toNat)
  case atStart => exact ⟨0, [], by omega, rfl, rfl, World.grownBy.refl _ _, B3.out, by simpa [takeM] using lists8_nil w c, by simp⟩
  case round =>
    obtain ⟨k, vs, hk, rfl, hvs, hgb, hs, hls, hall⟩ := hrel
    have hbw := below_grown B4.out hgb (by omega)
    have k0 := grown_block hgb B0.out (by omega)
    have k1 := grown_block hgb B1.out (by omega)
    have HGB : Hid _ := hgb
    have HG : Hid _ := hs
    have HV : Hid _ := hvs
    have HLS : Hid _ := hls
    have HA : Hid _ := hall
    have HBW : Hid _ := hbw
    by_cases hlt : k < ln
    · have hkn : k < ns.length := by rw [← HLN.out]; exact hlt
      have hget : ns[k]? = some ns[k] := List.getElem?_eq_getElem hkn
      generalize ns[k] = x at hget
      have c0 := cellAt k0 0 _ rfl
      have c1 := cellAt k0 1 _ rfl
      have c2 := cellAt k0 2 _ rfl
      have HGet : Hid _ := hget
      rcases HI.out with e0 | ⟨b, off, rfl, hrows⟩
      · rw [e0] at hkn; simp at hkn
      have c3 := cell_later hbw (hrows k x hget)
      have HK1 : Hid _ := k1
      clear k0 k1 hgb hs hls hall hbw hget hrows hvs
      by_cases hin : 0 ≤ x ∧ x < r
      · obtain ⟨i, rfl⟩ := Int.eq_ofNat_of_zero_le hin.1
        have hi : i < r := by omega
        clear hin
        go_wp2_with (go_at_call 54; refine (there_yes _ _ _ (by omega) (by omega)).mono ?_; rintro e w' ⟨rfl, rfl⟩)
        refine Calls.mono (rowOf_G r c i l cap a xs w _ hr hc hi HL.out HX.out hcap HR.out HN.out) ?_
        rintro e w4 ⟨a', cap', rfl, hr4, hc4, hn4, hs4, hb4⟩
        have hs5 := heap_later HG.out hb4
        have c7 : w4.cell? ⟨M, k, none⟩ = some (.slice none 0 0) := cellAt hs5 k _ (by have e := slW_next (vs := vs) (r := ln) (by rw [HV.out]; exact hlt); rwa [HV.out] at e)
        have c8 : w4.frozen? ⟨M, k, none⟩ = false := frozen_of_row _ _ _ _ _ hs5
        have HGB4 : Hid _ := grown_below HGB.out hb4
        have HG4 : Hid _ := hs5
        have HR4 : Hid _ := hr4
        clear hs5 hb4 hr4 hc4 hn4 hs4 c0 c1 c2 c3
        go_wp2
        refine ⟨⟨k + 1, vs ++ [.slice a' c cap'], by omega, by go_num, by simp [HV.out], grownBy_setCell HGB4.out _, ?_, ?_, ?_⟩, by simp [intOf]; omega⟩
        · have e := slW_set (.slice a' c cap') (vs := vs) (r := ln) (by rw [HV.out]; exact hlt)
          rw [HV.out] at e
          rw [heap_setCell_same _ _ _ _ _ _ HG4.out, e]
        · rw [List.take_succ_eq_append_getElem (by omega)]
          have e2 : ns[k]'(by omega) = (i : Int) := by have := HGet.out; rw [List.getElem?_eq_getElem (by omega)] at this; exact Option.some.inj this
          rw [e2, takeM, List.map_append]
          exact lists8_snoc HLS.out (rowAt_len HX.out hi) HR4.out
        · rw [List.take_succ_eq_append_getElem (by omega)]
          have e2 : ns[k]'(by omega) = (i : Int) := by have := HGet.out; rw [List.getElem?_eq_getElem (by omega)] at this; exact Option.some.inj this
          intro n hn
          rw [e2, List.mem_append, List.mem_singleton] at hn
          rcases hn with hn | rfl
          · exact HA.out n hn
          · omega
      · have HIN : Hid _ := hin
        have c9 := (HBW.out.cell (p := ⟨3, 0, none⟩) hlt0).trans HS.out
        have c4 := cellAt HK1.out 0 _ rfl
        have c5 := cellAt HK1.out 1 _ rfl
        have c6 := cellAt HK1.out 2 _ rfl
        have d4 : wr.frozen? ⟨w.heap.size + 1, 0, none⟩ = false := frozen_of_row _ _ _ _ _ HK1.out
        have d5 : wr.frozen? ⟨w.heap.size + 1, 1, none⟩ = false := frozen_of_row _ _ _ _ _ HK1.out
        have d6 : wr.frozen? ⟨w.heap.size + 1, 2, none⟩ = false := frozen_of_row _ _ _ _ _ HK1.out
        clear hin
        go_wp2_with (go_at_call 54; refine (there_no _ _ _ HIN.out).mono ?_; rintro e w' ⟨rfl, rfl⟩)
        go_region
        go_wp2
        refine bodyPost_ret (v := .tuple #[.agg #[.int .i64 0, .int .i64 0, .slice none 0 0], .iface 188 (.pointer (some s))]) (by simp [results, Tryz.results35, go_sem, c4, c5, c6]) rfl (.inr ⟨fun h => HIN.out (h x (List.mem_of_getElem? HGet.out)), rfl, ?_⟩)
        exact (((HBW.out.drew).setCell (by simp) _).setCell (by simp) _).setCell (by simp) _
    · have e : k = ln := by omega
      subst e
      have hd : ns.take k = ns := List.take_of_length_le (by rw [HLN.out]; exact Nat.le_refl _)
      have c0 := cellAt k0 0 _ rfl
      have c1 := cellAt k0 1 _ rfl
      have c2 := cellAt k0 2 _ rfl
      rw [hd] at hall hls
      have hr8 := lists8_rows hls hbw (M := M) (fun j v hj => cellAt hs j v (slW_at hj))
      have HALL : Hid _ := hall
      have HLL : Hid _ := lists8_len hls
      have HR8 : Hid _ := hr8
      have HL2 : Hid (k = (takeM c xs ns).length) := by show _ = _; rw [takeM, List.length_map]; exact HLN.out
      have HK1 : Hid _ := k1
      clear k0 k1 hgb hs hls hall hbw hvs hd hr8
      go_wp2_with fail
      refine Calls.mono (of_F c k k _ (takeM c xs ns) _ hc HL2.out hn HLL.out HR8.out) ?_
      rintro e w5 ⟨g, m, rfl, hm, hg, hh, hb5⟩
      have k5 := heap_later HK1.out hb5
      have c4 := cellAt k5 0 _ rfl
      have c5 := cellAt k5 1 _ rfl
      have c6 := cellAt k5 2 _ rfl
      have d4 : w5.frozen? ⟨w.heap.size + 1, 0, none⟩ = false := frozen_of_row _ _ _ _ _ k5
      have d5 : w5.frozen? ⟨w.heap.size + 1, 1, none⟩ = false := frozen_of_row _ _ _ _ _ k5
      have d6 : w5.frozen? ⟨w.heap.size + 1, 2, none⟩ = false := frozen_of_row _ _ _ _ _ k5
      have zg := HBW.out.size
      have z5 := ltHeap HK1.out
      have HB5 : Hid (Below w.heap.size w w5) := HBW.out.trans (hb5.mono zg)
      have HH : Hid _ := hh
      have HM : Hid _ := hm
      clear k5 hb5 hh hm c0 c1 c2
      go_wp2
      refine bodyPost_ret (v := .tuple #[.agg #[.int .i64 k, .int .i64 c, .slice (some ⟨g, 0, none⟩) m m], .nilIface]) (by simp [results, Tryz.results35, go_sem, c4, c5, c6]) rfl (.inl ⟨HALL.out, g, m, rfl, HM.out, by omega, ?_, ?_⟩)
      · rw [heap_setCell_other _ _ _ _ (by show g ≠ w.heap.size + 1; omega), heap_setCell_other _ _ _ _ (by show g ≠ w.heap.size + 1; omega), heap_setCell_other _ _ _ _ (by show g ≠ w.heap.size + 1; omega)]
        exact HH.out
      · exact ((HB5.out.setCell (by simp) _).setCell (by simp) _).setCell (by simp) _
end Go.Proofs.YtjmbpldkggbdlaaGreatDoor

/- What Stack of package mat answers, of all lists of matrices; nothing that was there turns. -/
namespace Go.Proofs.YtjmbpldkggbdlaaGreatDoor
open Go.RowKit Gf
set_option linter.unusedVariables false
set_option maxRecDepth 20000
/-- a matrix as it comes: its numbers, its list, the elements -/
structure Mx where
  r : Int
  c : Int
  a : Option Addr
  l : Nat
  cap : Nat
  xs : List F
/-- a matrix in form, of these columns -/
def Mx.Good (m : Mx) (c : Nat) : Prop := ∃ r : Nat, m.r = r ∧ m.c = c ∧ r ≤ 64 ∧ c ≤ 64 ∧ m.l = r * c
/-- what is known of it -/
def Mx.Lies (m : Mx) (w : World) : Prop := m.l = m.xs.length ∧ m.l ≤ m.cap ∧ Row8 w m.a m.xs ∧ (m.a = none → m.cap = 0)
/-- a list of matrices in memory -/
def MxsAt (w : World) (b : Nat) (ms : List Mx) : Prop := ∀ j m, ms[j]? = some m → w.cell? ⟨b, j * 3, none⟩ = some (.int .i64 m.r) ∧ w.cell? ⟨b, j * 3 + 1, none⟩ = some (.int .i64 m.c) ∧ w.cell? ⟨b, j * 3 + 2, none⟩ = some (.slice m.a m.l m.cap)
def rowsOf (ms : List Mx) : Nat := (ms.map fun m => m.r.toNat).sum
def rowsM (c : Nat) (ms : List Mx) : List (List F) := (ms.map fun m => (List.range m.r.toNat).map (rowAt c m.xs)).flatten
theorem rowsM_snoc (c : Nat) (ms : List Mx) (m : Mx) : rowsM c (ms ++ [m]) = rowsM c ms ++ (List.range m.r.toNat).map (rowAt c m.xs) := by simp [rowsM]
theorem rowsOf_snoc (ms : List Mx) (m : Mx) : rowsOf (ms ++ [m]) = rowsOf ms + m.r.toNat := by simp [rowsOf]
theorem rowsM_len (c : Nat) (ms : List Mx) : (rowsM c ms).length = rowsOf ms := by
  simp only [rowsM, rowsOf, List.length_flatten, List.map_map]
  congr 1
  apply List.map_congr_left
  intro m _
  simp
/-- the whole is as the call wants it -/
def StackOk (c : Int) (ms : List Mx) : Prop := 0 ≤ c ∧ c ≤ 64 ∧ (∀ m ∈ ms, m.Good c.toNat) ∧ rowsOf ms ≤ 64
theorem rowsOf_take_le (ms : List Mx) (k : Nat) : rowsOf (ms.take k) ≤ rowsOf ms := by
  have h := List.take_append_drop k ms
  have : rowsOf (ms.take k ++ ms.drop k) = rowsOf (ms.take k) + rowsOf (ms.drop k) := by simp only [rowsOf, List.map_append, List.sum_append]
  rw [h] at this; omega
set_option maxHeartbeats 2000000 in
theorem stack_F (c : Int) (b n cn : Nat) (ms : List Mx) (w : World) (hb : b < w.heap.size) (hn : n = ms.length) (hn6 : n ≤ 100) (hA : MxsAt w b ms) (hM : ∀ m ∈ ms, m.Lies w) (s : Addr) (hs : w.cell? ⟨2, 0, none⟩ = some (errAt s)) :
    Calls Tryz.prog 71 #[.int .i64 c, .slice (some ⟨b, 0, none⟩) n cn] w fun e w' =>
      (StackOk c ms ∧ ∃ g m, e = .returned (.tuple #[.agg #[.int .i64 (rowsOf ms), .int .i64 c, .slice (some ⟨g, 0, none⟩) m m], .nilIface]) ∧ m = rowsOf ms * c.toNat ∧ w.heap.size ≤ g ∧
        w'.heap[g]? = some (.cells (vfs (rowsM c.toNat ms).flatten) 5 (0, 0)) ∧ Below w.heap.size w w') ∨
      ¬ StackOk c ms ∧ e = .returned (.tuple #[.agg #[.int .i64 0, .int .i64 0, .slice none 0 0], errAt s]) ∧ Below w.heap.size w w' := by
  have hlt0 := World.block_lt_of_cell? w _ hs
  simp at hlt0
  have HN : Hid _ := hn
  have HA : Hid _ := hA
  have HM : Hid _ := hM
  have HS : Hid _ := hs
  clear hn hA hM hs
  unfold errAt at *
  have B1 : Hid _ := heap_alloc_last w (.cells #[.int .i64 0, .int .i64 0, .slice none 0 0] 63)
  have B4 : Hid (Below w.heap.size w (w.alloc (.cells #[.int .i64 0, .int .i64 0, .slice none 0 0] 63))) := (Below.refl _ _).alloc (Nat.le_refl _) _
  go_enter Tryz.func71, Tryz.ntmps71
  go_wp2
  have z0 : w.heap.size < (w.alloc (.cells #[.int .i64 0, .int .i64 0, .slice none 0 0] 63)).heap.size := by simp
  generalize (w.alloc (.cells #[.int .i64 0, .int .i64 0, .slice none 0 0] 63)) = W at *
  go_loopw [6, 12] (fun v i wr => ∃ k : Nat, ∃ vs : List Value, k ≤ n ∧ i = .int .i64 k ∧ Below (w.heap.size + 1) W wr ∧ wr.ownsRow (w.heap.size + 1) 61 1 v (rowsOf (ms.take k)) vs ∧ Lists8 w c.toNat vs (rowsM c.toNat (ms.take k)) ∧ rowsOf (ms.take k) ≤ 64 ∧ ∀ m ∈ ms.take k, m.Good c.toNat ∧ 0 ≤ c) (fun _ i _ => n - (intOf i).toNat)
  case atStart => exact ⟨0, [], by omega, rfl, Below.refl _ _, by simpa [rowsOf] using World.ownsRow_nil _ _ _ _, by simpa [rowsM] using lists8_nil w _, by simp [rowsOf], by simp⟩
  case round =>
    obtain ⟨k, vs, hk, rfl, hbw, hown, hls, hro, hall⟩ := hrel
    by_cases hlt : k < n
    · have hkm : k < ms.length := by rw [← HN.out]; exact hlt
      have hget : ms[k]? = some ms[k] := List.getElem?_eq_getElem hkm
      generalize ms[k] = x at hget
      have hc012 := HA.out k x hget
      have hBw : Below w.heap.size w wr := B4.out.trans (hbw.mono (by omega))
      have c0 := cell_later hBw hc012.1
      have c1 := cell_later hBw hc012.2.1
      have c2 := cell_later hBw hc012.2.2
      have c9 := cell_later hBw HS.out
      have HGet : Hid _ := hget
      have HOwn : Hid _ := hown
      have HLS : Hid _ := hls
      have HBW : Hid _ := hbw
      have HAll : Hid _ := hall
      have HLies : Hid _ := HM.out x (List.mem_of_getElem? hget)
      have z1 : w.heap.size + 1 ≤ wr.heap.size := by have := hbw.size; omega
      have k1 : Hid _ := (hbw.block w.heap.size (by omega)).trans B1.out
      clear hget hown hls hbw hall hBw hc012
      obtain ⟨xr, xc, xa, xl, xcap, xxs⟩ := x
      have HB0 : Hid (Below w.heap.size w wr) := B4.out.trans (HBW.out.mono (by omega))
      have hlen : ∃ gv capv, u6 = .slice gv (rowsOf (ms.take k)) capv := by
        rcases HOwn.out.2 with ⟨rfl, e⟩ | ⟨g, cap, cur, rfl, _⟩
        · exact ⟨none, 0, by rw [e]⟩
        · exact ⟨_, _, rfl⟩
      obtain ⟨gv, capv, rfl⟩ := hlen
      by_cases hf : 0 ≤ xr ∧ xr ≤ 64 ∧ 0 ≤ xc ∧ xc ≤ 64 ∧ (xl : Int) = xr * xc
      · obtain ⟨r, rfl⟩ := Int.eq_ofNat_of_zero_le hf.1
        obtain ⟨d, rfl⟩ := Int.eq_ofNat_of_zero_le hf.2.2.1
        have hr : r ≤ 64 := by omega
        have hd : d ≤ 64 := by omega
        have hl : xl = r * d := by have := hf.2.2.2.2; rw [← Int.natCast_mul] at this; omega
        have HL : Hid _ := hl
        clear hf hl
        go_wp2_with fail
        refine Calls.mono (check_ok r d xa xl xcap _ hr hd HL.out) ?_
        rintro e w1 ⟨rfl, hb1⟩
        have hB1 : Below wr.heap.size wr w1 := ((Below.refl _ _).alloc (Nat.le_refl _) _).trans (hb1.mono (by simp))
        have kx := heap_later (heap_alloc_last wr (.cells #[.int .i64 r, .int .i64 d, .slice xa xl xcap] 63)) hb1
        have e1 := cellAt kx 0 _ rfl
        have e2 := cellAt kx 1 _ rfl
        have e3 := cellAt kx 2 _ rfl
        have k1' := heap_later k1.out hB1
        have c4 := cellAt k1' 0 _ rfl
        have c5 := cellAt k1' 1 _ rfl
        have c6 := cellAt k1' 2 _ rfl
        have d4 : w1.frozen? ⟨w.heap.size, 0, none⟩ = false := frozen_of_row _ _ _ _ _ k1'
        have d5 : w1.frozen? ⟨w.heap.size, 1, none⟩ = false := frozen_of_row _ _ _ _ _ k1'
        have d6 : w1.frozen? ⟨w.heap.size, 2, none⟩ = false := frozen_of_row _ _ _ _ _ k1'
        have c9 := cell_later hB1 c9
        have HB1 : Hid (Below w.heap.size w w1) := HB0.out.trans (hB1.mono HB0.out.size)
        have HR1 : Hid _ := own_below HOwn.out hB1
        have HKX : Hid _ := kx
        have HK1 : Hid _ := k1'
        have HBW1 : Hid (Below (w.heap.size + 1) W w1) := HBW.out.trans (hB1.mono z1)
        clear hb1 kx k1' c0 c1 c2
        by_cases hdc : (d : Int) = c
        · subst hdc
          by_cases hsum : rowsOf (ms.take k) + r ≤ 64
          · clear c4 c5 c6 d4 d5 d6 c9
            go_wp2
            have z2 := hB1.size
            clear hB1
            generalize hM : wr.heap.size = M at *
            go_loopw [6, 37] (fun v i wq => ∃ q : Nat, ∃ us : List Value, q ≤ r ∧ i = .int .i64 q ∧ Below (w.heap.size + 1) W wq ∧ wq.heap[M]? = some (.cells #[.int .i64 r, .int .i64 d, .slice xa xl xcap] 63 (0, 0)) ∧ wq.ownsRow (w.heap.size + 1) 61 1 v (rowsOf (ms.take k) + q) us ∧
              Lists8 w d us (rowsM d (ms.take k) ++ (List.range q).map (rowAt d xxs))) (fun _ i _ => r - (intOf i).toNat)
            case atStart => exact ⟨0, vs, by omega, rfl, HBW1.out, HKX.out, HR1.out, by rw [List.range_zero, List.map_nil, List.append_nil]; exact HLS.out⟩
            case round =>
              obtain ⟨q, us, hq, rfl, hbq, hxq, hoq, hlq⟩ := hrel
              have HBQ : Hid _ := hbq
              have HXQ : Hid _ := hxq
              have HOQ : Hid _ := hoq
              have HLQ : Hid _ := hlq
              by_cases hltq : q < r
              · have f1 := cellAt hxq 0 _ rfl
                have f2 := cellAt hxq 1 _ rfl
                have f3 := cellAt hxq 2 _ rfl
                clear hbq hxq hoq hlq
                go_wp2_with fail
                refine Calls.mono (rowOf_G r d q xl xcap xa xxs w _ hr hd hltq HL.out (by rw [← HLies.out.1]; exact HL.out) HLies.out.2.1 HLies.out.2.2.1 HLies.out.2.2.2) ?_
                rintro e w4 ⟨a', cap', rfl, hr4, hc4, hn4, hs4, hb4⟩
                have ho4 := (own_below HOQ.out hb4).alloc (.cells #[.slice a' d cap'] 61)
                have hx4 := (Below.heap_alloc w4 (.cells #[.slice a' d cap'] 61) _ (ltHeap (heap_later HXQ.out hb4))).trans (heap_later HXQ.out hb4)
                have hB4 : Below (w.heap.size + 1) W (w4.alloc (.cells #[.slice a' d cap'] 61)) := (HBQ.out.trans (hb4.mono (by have := HBQ.out.size; omega))).alloc (by have := HBQ.out.size; have := hb4.size; omega) _
                obtain ⟨g2, cap2, w2, hrun, ho2, hgr, hor, hlt2⟩ := appendS (b := w4.heap.size) (c := 1) (x := .slice a' d cap') 83 ho4 (cellAt (heap_alloc_last w4 (.cells #[.slice a' d cap'] 61)) 0 _ rfl) rfl (by omega) (by have := hB4.size; omega)
                have HRun : Hid _ := hrun
                have HO2 : Hid _ := ho2
                have HX2 : Hid _ := own_other ho4 hgr hx4 (by decide)
                have HB2 : Hid _ := below_own hB4 ho4 hgr (by have := hB4.size; omega)
                have HR4 : Hid _ := hr4
                clear hrun ho2 hgr hor hlt2 hB4 hx4 ho4 hb4 hr4 f1 f2 f3
                go_wp2_with (at_builtin; refine wpList_append_run rfl _ _ 83 rfl _ _ _ _ rfl rfl HRun.out ?_)
                refine ⟨⟨q + 1, _, by omega, by go_num, HB2.out, HX2.out, HO2.out, ?_⟩, by simp [intOf]; omega⟩
                rw [List.range_succ, List.map_append, ← List.append_assoc]
                exact lists8_snoc HLQ.out (rowAt_len (by rw [← HLies.out.1]; exact HL.out) hltq) HR4.out
              · obtain rfl : q = r := by omega
                clear hbq hxq hoq hlq
                go_wp2
                have hk1 : k < ms.length := by rw [← HN.out]; exact hlt
                have e9 : ms[k] = ⟨(q : Int), (d : Int), xa, xl, xcap, xxs⟩ := by have := HGet.out; rw [List.getElem?_eq_getElem hk1] at this; exact Option.some.inj this
                have hro' : rowsOf (ms.take (k + 1)) = rowsOf (ms.take k) + q := by rw [List.take_succ_eq_append_getElem hk1, e9, rowsOf_snoc]; rfl
                have hrm' : rowsM d (ms.take (k + 1)) = rowsM d (ms.take k) ++ (List.range q).map (rowAt d xxs) := by rw [List.take_succ_eq_append_getElem hk1, e9, rowsM_snoc]; rfl
                refine ⟨⟨k + 1, us, by omega, by go_num, HBQ.out, by rw [hro']; exact HOQ.out, ?_, by rw [hro']; exact hsum, ?_⟩, by simp [intOf]; omega⟩
                · show Lists8 w d us (rowsM d (ms.take (k + 1)))
                  rw [hrm']; exact HLQ.out
                · intro m hm
                  rw [List.take_succ_eq_append_getElem hk1, e9, List.mem_append, List.mem_singleton] at hm
                  rcases hm with hm | rfl
                  · exact HAll.out m hm
                  · exact ⟨⟨q, rfl, rfl, hr, hd, HL.out⟩, by omega⟩
          · have HS9 : Hid _ := hsum
            go_wp2
            go_region
            go_wp2
            refine bodyPost_ret (v := .tuple #[.agg #[.int .i64 0, .int .i64 0, .slice none 0 0], .iface 188 (.pointer (some s))]) (by simp [results, Tryz.results71, go_sem, c4, c5, c6]) rfl (.inr ⟨fun h => ?_, rfl, ?_⟩)
            · have hk1 : k < ms.length := by rw [← HN.out]; exact hlt
              have e9 : ms[k] = ⟨(r : Int), (d : Int), xa, xl, xcap, xxs⟩ := by have := HGet.out; rw [List.getElem?_eq_getElem hk1] at this; exact Option.some.inj this
              have hro' : rowsOf (ms.take (k + 1)) = rowsOf (ms.take k) + r := by rw [List.take_succ_eq_append_getElem hk1, e9, rowsOf_snoc]; rfl
              have h2 := rowsOf_take_le ms (k + 1)
              have h3 := h.2.2.2
              exact HS9.out (by omega)
            · exact (((HB1.out.drew).setCell (by simp) _).setCell (by simp) _).setCell (by simp) _
        · have HS9 : Hid _ := hdc
          go_wp2
          go_region
          go_wp2
          refine bodyPost_ret (v := .tuple #[.agg #[.int .i64 0, .int .i64 0, .slice none 0 0], .iface 188 (.pointer (some s))]) (by simp [results, Tryz.results71, go_sem, c4, c5, c6]) rfl (.inr ⟨fun h => ?_, rfl, ?_⟩)
          · obtain ⟨r2, _, h2, _⟩ := h.2.2.1 _ (List.mem_of_getElem? HGet.out)
            have h3 := h.1
            have h4 : (d : Int) = (c.toNat : Int) := h2
            exact HS9.out (by omega)
          · exact (((HB1.out.drew).setCell (by simp) _).setCell (by simp) _).setCell (by simp) _
      · have HF : Hid _ := hf
        have c9' := cell?_alloc_old (.cells #[.int .i64 xr, .int .i64 xc, .slice xa xl xcap] 63) c9
        have HC9 : Hid _ := c9'
        clear hf c9'
        go_wp2_with fail
        refine Calls.mono (check_bad xr xc xa xl xcap _ _ HC9.out HF.out) ?_
        rintro e w1 ⟨rfl, hb1⟩
        have hB1 : Below wr.heap.size wr w1 := ((Below.refl _ _).alloc (Nat.le_refl _) _).trans (hb1.mono (by simp))
        have k1' := heap_later k1.out hB1
        have c4 := cellAt k1' 0 _ rfl
        have c5 := cellAt k1' 1 _ rfl
        have c6 := cellAt k1' 2 _ rfl
        have d4 : w1.frozen? ⟨w.heap.size, 0, none⟩ = false := frozen_of_row _ _ _ _ _ k1'
        have d5 : w1.frozen? ⟨w.heap.size, 1, none⟩ = false := frozen_of_row _ _ _ _ _ k1'
        have d6 : w1.frozen? ⟨w.heap.size, 2, none⟩ = false := frozen_of_row _ _ _ _ _ k1'
        have c9 := cell_later hB1 c9
        have HB1 : Hid (Below w.heap.size w w1) := HB0.out.trans (hB1.mono HB0.out.size)
        clear hb1 k1' c0 c1 c2 hB1
        go_wp2
        go_region
        go_wp2
        refine bodyPost_ret (v := .tuple #[.agg #[.int .i64 0, .int .i64 0, .slice none 0 0], .iface 188 (.pointer (some s))]) (by simp [results, Tryz.results71, go_sem, c4, c5, c6]) rfl (.inr ⟨fun h => ?_, rfl, ?_⟩)
        · obtain ⟨r2, h1, h2, h3, h4, h5⟩ := h.2.2.1 _ (List.mem_of_getElem? HGet.out)
          have h1 : xr = (r2 : Int) := h1
          have h2 : xc = (c.toNat : Int) := h2
          have h5 : xl = r2 * c.toNat := h5
          refine HF.out ⟨by omega, by omega, by omega, by omega, ?_⟩
          rw [h1, h2, h5, Int.natCast_mul]
        · exact (((HB1.out.drew).setCell (by simp) _).setCell (by simp) _).setCell (by simp) _
    · obtain rfl : k = n := by omega
      have hd : ms.take k = ms := List.take_of_length_le (by rw [HN.out]; exact Nat.le_refl _)
      rw [hd] at hown hls hro hall
      have HB0 : Hid (Below w.heap.size w wr) := B4.out.trans (hbw.mono (by omega))
      have z1 : w.heap.size + 1 ≤ wr.heap.size := by have := hbw.size; omega
      have k1 : Hid _ := (hbw.block w.heap.size (by omega)).trans B1.out
      have hlen : ∃ gv capv, u6 = .slice gv (rowsOf ms) capv ∧ Rows8 wr gv (rowsM c.toNat ms) := by
        rcases hown.2 with ⟨rfl, e⟩ | ⟨g, cap, cur, rfl, h2⟩
        · exact ⟨none, 0, by rw [e], .inl (List.eq_nil_of_length_eq_zero (by rw [rowsM_len, e]))⟩
        · exact ⟨_, _, rfl, lists8_rows hls HB0.out (fun j v hj => by
            have hjl := (List.getElem?_eq_some_iff.1 hj).1
            have := hown.1
            rw [hown.cellAt j (by omega), hj])⟩
      obtain ⟨gv, capv, rfl, hr8⟩ := hlen
      have HR8 : Hid _ := hr8
      have HLL : Hid _ := lists8_len hls
      have HAll : Hid _ := hall
      clear hr8 hls hall hown hbw hd
      by_cases hc : 0 ≤ c ∧ c ≤ 64
      · obtain ⟨d, rfl⟩ := Int.eq_ofNat_of_zero_le hc.1
        have hd : d ≤ 64 := by omega
        clear hc
        go_wp2_with fail
        refine Calls.mono (of_F d (rowsOf ms) capv gv (rowsM d ms) _ hd (rowsM_len _ _).symm hro HLL.out HR8.out) ?_
        rintro e w5 ⟨g, m, rfl, hm, hg, hh, hb5⟩
        have k5 := heap_later k1.out hb5
        have c4 := cellAt k5 0 _ rfl
        have c5 := cellAt k5 1 _ rfl
        have c6 := cellAt k5 2 _ rfl
        have d4 : w5.frozen? ⟨w.heap.size, 0, none⟩ = false := frozen_of_row _ _ _ _ _ k5
        have d5 : w5.frozen? ⟨w.heap.size, 1, none⟩ = false := frozen_of_row _ _ _ _ _ k5
        have d6 : w5.frozen? ⟨w.heap.size, 2, none⟩ = false := frozen_of_row _ _ _ _ _ k5
        have HB5 : Hid (Below w.heap.size w w5) := HB0.out.trans (hb5.mono HB0.out.size)
        have HH : Hid _ := hh
        have HM' : Hid _ := hm
        clear k5 hb5 hh hm
        go_wp2
        refine bodyPost_ret (v := .tuple #[.agg #[.int .i64 (rowsOf ms), .int .i64 d, .slice (some ⟨g, 0, none⟩) m m], .nilIface]) (by simp [results, Tryz.results71, go_sem, c4, c5, c6]) rfl (.inl ⟨⟨by omega, by omega, fun m hm => (HAll.out m hm).1, hro⟩, g, m, rfl, HM'.out, by omega, ?_, ?_⟩)
        · rw [heap_setCell_other _ _ _ _ (by show g ≠ w.heap.size; omega), heap_setCell_other _ _ _ _ (by show g ≠ w.heap.size; omega), heap_setCell_other _ _ _ _ (by show g ≠ w.heap.size; omega)]
          exact HH.out
        · exact ((HB5.out.setCell (by simp) _).setCell (by simp) _).setCell (by simp) _
      · have HC : Hid _ := hc
        have c9 := cell_later HB0.out HS.out
        have HC9 : Hid _ := c9
        clear hc c9
        go_wp2_with fail
        refine Calls.mono (of_no c (rowsOf ms) capv gv _ _ HC9.out (fun h => HC.out ⟨h.1, h.2.1⟩)) ?_
        rintro e w5 ⟨rfl, hb5⟩
        unfold errAt
        have k5 := heap_later k1.out hb5
        have c4 := cellAt k5 0 _ rfl
        have c5 := cellAt k5 1 _ rfl
        have c6 := cellAt k5 2 _ rfl
        have d4 : w5.frozen? ⟨w.heap.size, 0, none⟩ = false := frozen_of_row _ _ _ _ _ k5
        have d5 : w5.frozen? ⟨w.heap.size, 1, none⟩ = false := frozen_of_row _ _ _ _ _ k5
        have d6 : w5.frozen? ⟨w.heap.size, 2, none⟩ = false := frozen_of_row _ _ _ _ _ k5
        have HB5 : Hid (Below w.heap.size w w5) := HB0.out.trans (hb5.mono HB0.out.size)
        clear k5 hb5
        go_wp2
        refine bodyPost_ret (v := .tuple #[.agg #[.int .i64 0, .int .i64 0, .slice none 0 0], .iface 188 (.pointer (some s))]) (by simp [results, Tryz.results71, go_sem, c4, c5, c6]) rfl (.inr ⟨fun h => HC.out ⟨h.1, h.2.1⟩, rfl, ?_⟩)
        exact ((HB5.out.setCell (by simp) _).setCell (by simp) _).setCell (by simp) _
end Go.Proofs.YtjmbpldkggbdlaaGreatDoor

/- The chapter's worked answers of package mat hold: the function 'alive' of the statements returns true; and what One answers. -/
namespace Go.Proofs.YtjmbpldkggbdlaaGreatDoor
open Go.RowKit Gf
set_option linter.unusedVariables false
set_option maxRecDepth 20000
theorem lit8 (w : World) (x y : F) : (w.alloc (.cells #[.int .u8 (x.toNat : Int), .int .u8 (y.toNat : Int)] 5)).heap[w.heap.size]? = some (.cells (vfs [x, y]) 5 (0, 0)) := heap_alloc_last w _
/-- the identity, made as far as row k -/
def oneP (n k : Nat) : List F := grid n (fun i j => if i = j ∧ i < k then 1 else 0) n
theorem oneP_len (n k : Nat) : (oneP n k).length = n * n := grid_len _ _ _
theorem oneP_zero (n : Nat) : zeros (n * n) = oneP n 0 := by rw [zeros_grid]; exact grid_congr fun i j _ _ => by rw [if_neg (by omega)]
theorem oneP_done (n : Nat) : oneP n n = oneM n := grid_congr fun i j hi _ => by
  by_cases h : i = j
  · rw [if_pos ⟨h, hi⟩, if_pos h]
  · rw [if_neg (fun e => h e.1), if_neg h]
theorem oneP_step {n k : Nat} (hk : k < n) : (oneP n k).set (k * n + k) 1 = oneP n (k + 1) := by
  rw [oneP, grid_set hk hk]
  refine grid_congr fun a b ha hb => ?_
  by_cases h : a = k ∧ b = k
  · rw [if_pos h, if_pos (by omega)]
  · rw [if_neg h]
    by_cases h2 : a = b ∧ a < k
    · rw [if_pos h2, if_pos (by omega)]
    · rw [if_neg h2, if_neg (by omega)]
set_option maxHeartbeats 1000000 in
theorem one_F (r : Nat) (w : World) (hr : r ≤ 64) :
    Calls Tryz.prog 70 #[.int .i64 r] w fun e w' => ∃ g n, e = .returned (.tuple #[.agg #[.int .i64 r, .int .i64 r, .slice (some ⟨g, 0, none⟩) n n], .nilIface]) ∧ n = r * r ∧ w.heap.size ≤ g ∧
      w'.heap[g]? = some (.cells (vfs (oneM r)) 5 (0, 0)) ∧ Below w.heap.size w w' := by
  go_enter Tryz.func70, Tryz.ntmps70
  go_wp2_with fail
  refine Calls.mono (zero_F r r _ hr hr) ?_
  rintro e w2 ⟨g, n, rfl, hn, hg, hh, hb2⟩
  have z2 := hb2.size
  simp only [World.size_alloc] at z2 hg
  have z4 : w.heap.size < w2.heap.size := by omega
  have zg : g < w2.heap.size := ltHeap hh
  have HN : Hid _ := hn
  have HG : Hid _ := hh
  have HB' : Hid (Below w.heap.size w w2) := ((Below.refl w.heap.size w).alloc (Nat.le_refl _) _).trans (hb2.mono (by simp))
  have B1' : Hid _ := heap_later (heap_alloc_last w (.cells #[.int .i64 0, .int .i64 0, .slice none 0 0] 63)) hb2
  clear hn hh hb2
  go_wp2
  have B2 : Hid _ := heap_alloc_last w2 (.cells #[.int .i64 r, .int .i64 r, .slice (some ⟨g, 0, none⟩) n n] 63)
  have B1 : Hid ((w2.alloc (.cells #[.int .i64 r, .int .i64 r, .slice (some ⟨g, 0, none⟩) n n] 63)).heap[w.heap.size]? = some (.cells #[.int .i64 0, .int .i64 0, .slice none 0 0] 63 (0, 0))) :=
    (Below.heap_alloc _ _ _ z4).trans B1'.out
  have B3 : Hid ((w2.alloc (.cells #[.int .i64 r, .int .i64 r, .slice (some ⟨g, 0, none⟩) n n] 63)).heap[g]? = some (.cells (vfs (zeros (r * r))) 5 (0, 0))) := (Below.heap_alloc _ _ _ zg).trans HG.out
  have B4 : Hid (Below w.heap.size w (w2.alloc (.cells #[.int .i64 r, .int .i64 r, .slice (some ⟨g, 0, none⟩) n n] 63))) := HB'.out.alloc (by omega) _
  clear HG HB' B1'
  generalize hM : w2.heap.size = M at *
  generalize (w2.alloc (.cells #[.int .i64 r, .int .i64 r, .slice (some ⟨g, 0, none⟩) n n] 63)) = W3 at *
  clear hM
  go_loopw [18] (fun i wr => ∃ k : Nat, k ≤ r ∧ i = .int .i64 k ∧ W3.grownBy wr (some g) ∧ wr.heap[g]? = some (.cells (vfs (oneP r k)) 5 (0, 0))) (fun i _ => r - (intOf i).toNat)
  case atStart => exact ⟨0, by omega, rfl, World.grownBy.refl _ _, by rw [← oneP_zero]; exact B3.out⟩
  case round =>
    obtain ⟨k, hk, rfl, hgb, hs⟩ := hrel
    by_cases hlt : k < r
    · have k0 := grown_block hgb B2.out (by omega)
      have c1 := cellAt k0 0 _ rfl
      have c2 := cellAt k0 1 _ rfl
      have c3 := cellAt k0 2 _ rfl
      have HGB : Hid _ := hgb
      have HS : Hid _ := hs
      clear k0 hgb hs
      go_wp2_with fail
      refine Calls.mono (rowOf_some r r k g 0 n n _ hr hr hlt HN.out (Nat.le_refl _)) ?_
      rintro e w5 ⟨rfl, hb5⟩
      rw [rof_row hlt HN.out]
      have hp := place_lt (c := r) hlt hlt
      have hs5 := heap_later HS.out hb5
      have c4 := cellAt hs5 _ _ (vfs_get _ _ (show k * r + k < (oneP r k).length by rw [oneP_len]; exact hp))
      have c5 : w5.frozen? ⟨g, k * r + k, none⟩ = false := frozen_of_row _ _ _ _ _ hs5
      have HS5 : Hid _ := hs5
      have HGB5 : Hid _ := grown_below HGB.out hb5
      have HT : Hid _ := oneP_step hlt
      clear hs5 hb5 c1 c2 c3
      go_wp2
      refine ⟨⟨k + 1, by omega, by go_num, grownBy_setCell HGB5.out _, ?_⟩, by simp [intOf]; omega⟩
      have e := vfs_set (oneP r k) (k * r + k) 1
      rw [heap_setCell_same _ _ _ _ _ _ HS5.out, ← HT.out, ← e]; rfl
    · have e : k = r := by omega
      subst e
      rw [oneP_done] at hs
      have k0 := grown_block hgb B2.out (by omega)
      have c1 := cellAt k0 0 _ rfl
      have c2 := cellAt k0 1 _ rfl
      have c3 := cellAt k0 2 _ rfl
      have k1 := grown_block hgb B1.out (by omega)
      have c4 := cellAt k1 0 _ rfl
      have c5 := cellAt k1 1 _ rfl
      have c6 := cellAt k1 2 _ rfl
      have d4 : wr.frozen? ⟨w.heap.size, 0, none⟩ = false := frozen_of_row _ _ _ _ _ k1
      have d5 : wr.frozen? ⟨w.heap.size, 1, none⟩ = false := frozen_of_row _ _ _ _ _ k1
      have d6 : wr.frozen? ⟨w.heap.size, 2, none⟩ = false := frozen_of_row _ _ _ _ _ k1
      have HGB : Hid _ := hgb
      have HS : Hid _ := hs
      clear k0 k1 hgb hs
      go_wp2
      refine bodyPost_ret (v := .tuple #[.agg #[.int .i64 k, .int .i64 k, .slice (some ⟨g, 0, none⟩) n n], .nilIface]) (by simp [results, Tryz.results70, go_sem, c4, c5, c6]) rfl ⟨g, n, rfl, HN.out, by omega, ?_, ?_⟩
      · rw [heap_setCell_other _ _ _ _ (by show g ≠ w.heap.size; omega), heap_setCell_other _ _ _ _ (by show g ≠ w.heap.size; omega), heap_setCell_other _ _ _ _ (by show g ≠ w.heap.size; omega)]
        exact HS.out
      · exact (((below_grown B4.out HGB.out (by omega)).setCell (by simp) _).setCell (by simp) _).setCell (by simp) _
end Go.Proofs.YtjmbpldkggbdlaaGreatDoor

/- What Parity and Generator of package base answer, of all numbers; nothing that was there turns. -/
namespace Go.Proofs.YtjmbpldkggbdlaaGreatDoor
open Go.RowKit Gf
set_option linter.unusedVariables false
set_option maxRecDepth 20000
set_option maxHeartbeats 1000000 in
theorem parity_bad (k r : Int) (w : World) (s : Addr) (hs : w.cell? ⟨0, 0, none⟩ = some (errAt s)) (hk0 : -9223372036854775808 ≤ k) (hk1 : k ≤ 9223372036854775807) (hr0 : -9223372036854775808 ≤ r) (hr1 : r ≤ 9223372036854775807) (h : ¬ LegalP k r) :
    Calls Tryz.prog 69 #[.int .i64 k, .int .i64 r] w fun e w' => e = .returned (.tuple #[.agg #[.int .i64 0, .int .i64 0, .slice none 0 0], errAt s]) ∧ Below w.heap.size w w' := by
  have HS : Hid _ := cell?_alloc_old (.cells #[.int .i64 0, .int .i64 0, .slice none 0 0] 63) hs
  have H : Hid _ := h
  clear h hs
  unfold errAt at *
  go_enter Tryz.func69, Tryz.ntmps69
  go_wp2_with fail
  refine (bcheck_bad k r _ s HS.out hk0 hk1 hr0 hr1 H.out).mono ?_
  unfold errAt
  rintro e w' ⟨rfl, rfl⟩
  go_wp2
  refine bodyPost_ret (v := .tuple #[.agg #[.int .i64 0, .int .i64 0, .slice none 0 0], .iface 188 (.pointer (some s))]) (by simp [results, Tryz.results69, go_sem]) rfl ⟨rfl, ?_⟩
  exact (Below.refl w.heap.size w).alloc (Nat.le_refl _) _
theorem grid_add (c : Nat) (f : Nat → Nat → F) (n : Nat) : ∀ m, grid c f (n + m) = grid c f n ++ grid c (fun i => f (n + i)) m
  | 0 => by simp [grid]
  | m + 1 => by rw [← Nat.add_assoc]; simp only [grid]; rw [grid_add c f n m, List.append_assoc]
/-- the generator -/
def genM (k r : Nat) : List F := grid k (genF k) (k + r)
theorem genM_len (k r : Nat) : (genM k r).length = (k + r) * k := grid_len _ _ _
theorem genM_eq (k r : Nat) : genM k r = oneM k ++ parM k r := by
  rw [genM, grid_add, oneM, parM]
  congr 1
  · exact grid_congr fun i j hi hj => by simp [genF, hi]
  · exact grid_congr fun i j hi hj => by simp only [genF]; rw [if_neg (by omega)]
theorem rows_flat {r c : Nat} {xs : List F} (h : xs.length = r * c) : ((List.range r).map (rowAt c xs)).flatten = xs := by
  have e := grid_of (xs := xs) h
  have := grid_flat c (fun i j => at8 xs (i * c + j)) r
  rw [← e] at this
  rw [this]
  congr 1
  refine List.map_congr_left fun i hi => ?_
  rw [← this]
  exact rowAt_rowF h (List.mem_range.1 hi)
set_option maxHeartbeats 2000000 in
theorem generator_F (k r : Nat) (w : World) (s : Addr) (hs : w.cell? ⟨2, 0, none⟩ = some (errAt s)) (h1 : 1 ≤ k) (h2 : 2 ≤ r) (h3 : k + r ≤ 16) :
    Calls Tryz.prog 47 #[.int .i64 k, .int .i64 r] w fun e w' => ∃ g m, e = .returned (.tuple #[.agg #[.int .i64 (k + r : Nat), .int .i64 k, .slice (some ⟨g, 0, none⟩) m m], .nilIface]) ∧ m = (k + r) * k ∧ w.heap.size ≤ g ∧
      w'.heap[g]? = some (.cells (vfs (genM k r)) 5 (0, 0)) ∧ Below w.heap.size w w' := by
  have HS : Hid _ := hs
  clear hs
  have hA := holds_new (holds_nil w) #[.int .i64 0, .int .i64 0, .slice none 0 0] 63
  have HA : Hid _ := hA
  clear hA
  go_enter Tryz.func47, Tryz.ntmps47
  go_wp2_with fail
  refine Calls.mono (parity_F k r _ h1 h2 h3) ?_
  rintro e w1 ⟨g1, m1, rfl, hm1, hg1, hh1, hb1⟩
  have HA1 : Hid _ := holds_new (holds_cons (holds_later HA.out hb1) hh1) #[.int .i64 r, .int .i64 k, .slice (some ⟨g1, 0, none⟩) m1 m1] 63
  have HB1 : Hid (Below w.heap.size w w1) := ((Below.refl w.heap.size w).alloc (Nat.le_refl _) _).trans (hb1.mono (by simp))
  have HM1 : Hid _ := hm1
  clear hb1 hh1 hg1 hm1 HA
  go_wp2_with fail
  refine Calls.mono (one_F k _ (by omega)) ?_
  rintro e w2 ⟨g2, m2, rfl, hm2, hg2, hh2, hb2⟩
  have HA2 : Hid _ := holds_new (holds_cons (holds_later HA1.out hb2) hh2) #[.int .i64 k, .int .i64 k, .slice (some ⟨g2, 0, none⟩) m2 m2] 63
  have HB2' := (HB1.out.alloc HB1.out.size (.cells #[.int .i64 r, .int .i64 k, .slice (some ⟨g1, 0, none⟩) m1 m1] 63))
  have HB2 : Hid (Below w.heap.size w w2) := HB2'.trans (hb2.mono HB2'.size)
  have HM2 : Hid _ := hm2
  have c1 := cellAt (holds_at HA2.out 2 rfl) 0 _ rfl
  have c2 := cellAt (holds_at HA2.out 2 rfl) 1 _ rfl
  have c3 := cellAt (holds_at HA2.out 2 rfl) 2 _ rfl
  have z1 := ltHeap (holds_at HA2.out 2 rfl)
  clear hb2 hh2 hg2 hm2 HA1 HB1 HB2'
  go_wp2_with fail
  have hbl := heap_alloc_last (w2.alloc (.cells #[.int .i64 k, .int .i64 k, .slice (some ⟨g2, 0, none⟩) m2 m2] 63)) (.cells #[.int .i64 k, .int .i64 k, .slice (some ⟨g2, 0, none⟩) m2 m2, .int .i64 r, .int .i64 k, .slice (some ⟨g1, 0, none⟩) m1 m1] 63)
  rw [World.size_alloc] at hbl
  have hB3 := (HB2.out.alloc HB2.out.size (.cells #[.int .i64 k, .int .i64 k, .slice (some ⟨g2, 0, none⟩) m2 m2] 63)).alloc (by have := HB2.out.size; simp; omega) (.cells #[.int .i64 k, .int .i64 k, .slice (some ⟨g2, 0, none⟩) m2 m2, .int .i64 r, .int .i64 k, .slice (some ⟨g1, 0, none⟩) m1 m1] 63)
  have HA3 : Hid _ := holds_alloc HA2.out (.cells #[.int .i64 k, .int .i64 k, .slice (some ⟨g2, 0, none⟩) m2 m2, .int .i64 r, .int .i64 k, .slice (some ⟨g1, 0, none⟩) m1 m1] 63)
  have hsB := cell_later hB3 HS.out
  have HB3 : Hid _ := hB3
  clear hB3 HA2 HB2
  generalize hWW : ((w2.alloc (.cells #[.int .i64 k, .int .i64 k, .slice (some ⟨g2, 0, none⟩) m2 m2] 63)).alloc (.cells #[.int .i64 k, .int .i64 k, .slice (some ⟨g2, 0, none⟩) m2 m2, .int .i64 r, .int .i64 k, .slice (some ⟨g1, 0, none⟩) m1 m1] 63)) = W5 at *
  clear hWW
  refine Calls.mono (stack_F k (w2.heap.size + 1) 2 2 [⟨k, k, some ⟨g2, 0, none⟩, m2, m2, oneM k⟩, ⟨r, k, some ⟨g1, 0, none⟩, m1, m1, parM k r⟩] _ (ltHeap hbl) rfl (by decide) (fun j m hj => ?_) (fun m hm => ?_) s hsB) ?_
  · match j, hj with
    | 0, hj => obtain rfl := Option.some.inj hj; exact ⟨cellAt hbl 0 _ rfl, cellAt hbl 1 _ rfl, cellAt hbl 2 _ rfl⟩
    | 1, hj => obtain rfl := Option.some.inj hj; exact ⟨cellAt hbl 3 _ rfl, cellAt hbl 4 _ rfl, cellAt hbl 5 _ rfl⟩
  · simp only [List.mem_cons, List.not_mem_nil, or_false] at hm
    rcases hm with rfl | rfl
    · exact ⟨by rw [HM2.out, oneM_len], Nat.le_refl _, holds_row HA3.out 1 rfl, fun h => by cases h⟩
    · exact ⟨by rw [HM1.out, parM_len], Nat.le_refl _, holds_row HA3.out 3 rfl, fun h => by cases h⟩
  have hro : rowsOf [(⟨k, k, some ⟨g2, 0, none⟩, m2, m2, oneM k⟩ : Mx), ⟨r, k, some ⟨g1, 0, none⟩, m1, m1, parM k r⟩] = k + r := by simp [rowsOf]
  have hrm : (rowsM k [(⟨k, k, some ⟨g2, 0, none⟩, m2, m2, oneM k⟩ : Mx), ⟨r, k, some ⟨g1, 0, none⟩, m1, m1, parM k r⟩]).flatten = genM k r := by
    simp only [rowsM, List.map_cons, List.map_nil, Int.toNat_natCast, List.flatten_cons, List.flatten_nil, List.append_nil, List.flatten_append]
    rw [genM_eq, rows_flat (oneM_len k), rows_flat (parM_len k r)]
  have HOK : Hid (StackOk (k : Int) [(⟨k, k, some ⟨g2, 0, none⟩, m2, m2, oneM k⟩ : Mx), ⟨r, k, some ⟨g1, 0, none⟩, m1, m1, parM k r⟩]) := ⟨by omega, by omega, fun m hm => by
    simp only [List.mem_cons, List.not_mem_nil, or_false] at hm
    rcases hm with rfl | rfl
    · exact ⟨k, rfl, rfl, by omega, by omega, HM2.out⟩
    · exact ⟨r, rfl, rfl, by omega, by omega, HM1.out⟩, by rw [hro]; omega⟩
  rintro e w4 (⟨_, g, m, rfl, hm, hg, hh, hb4⟩ | ⟨hno, _⟩)
  rotate_left
  · exact absurd HOK.out hno
  rw [hro] at hm
  have hh' : w4.heap[g]? = some (.cells (vfs (genM k r)) 5 (0, 0)) := by rw [hh]; show some (Obj.cells (vfs (rowsM ((k : Int).toNat) _).flatten) _ _) = _; rw [Int.toNat_natCast, hrm]
  rw [hro]
  have HP : ∃ p : Nat, p = k + r := ⟨_, rfl⟩
  obtain ⟨p, hp⟩ := HP
  rw [← hp] at hm ⊢
  have HPP : Hid _ := hp
  have HM : Hid (m = p * k) := by show m = p * k; simpa using hm
  have k2 := heap_later (holds_at HA3.out 4 rfl) hb4
  have c4 := cellAt k2 0 _ rfl
  have c5 := cellAt k2 1 _ rfl
  have c6 := cellAt k2 2 _ rfl
  have d4 : w4.frozen? ⟨w.heap.size, 0, none⟩ = false := frozen_of_row _ _ _ _ _ k2
  have d5 : w4.frozen? ⟨w.heap.size, 1, none⟩ = false := frozen_of_row _ _ _ _ _ k2
  have d6 : w4.frozen? ⟨w.heap.size, 2, none⟩ = false := frozen_of_row _ _ _ _ _ k2
  have HH : Hid _ := hh'
  have HBW : Hid (Below w.heap.size w w4) := HB3.out.trans (hb4.mono HB3.out.size)
  have hgw : w.heap.size < g := by
    have h1 := ltHeap (holds_at HA3.out 4 rfl)
    have := HB3.out.size; omega
  clear hm hh hh' hb4 k2 hp c1 c2 c3 z1 hbl hsB hrm hro
  go_wp2
  have hp := HPP.out
  clear HPP
  subst hp
  refine bodyPost_ret (v := .tuple #[.agg #[.int .i64 (k + r : Nat), .int .i64 k, .slice (some ⟨g, 0, none⟩) m m], .nilIface]) (by simp [results, Tryz.results47, go_sem, c4, c5, c6]) rfl ⟨g, m, rfl, HM.out, by omega, ?_, ?_⟩
  · rw [heap_setCell_other _ _ _ _ (by show g ≠ w.heap.size; omega), heap_setCell_other _ _ _ _ (by show g ≠ w.heap.size; omega), heap_setCell_other _ _ _ _ (by show g ≠ w.heap.size; omega)]
    exact HH.out
  · exact ((HBW.out.setCell (Nat.le_refl _) _).setCell (Nat.le_refl _) _).setCell (Nat.le_refl _) _
set_option maxHeartbeats 2000000 in
theorem generator_bad (k r : Int) (w : World) (s : Addr) (hs : w.cell? ⟨0, 0, none⟩ = some (errAt s)) (hk0 : -9223372036854775808 ≤ k) (hk1 : k ≤ 9223372036854775807) (hr0 : -9223372036854775808 ≤ r) (hr1 : r ≤ 9223372036854775807) (h : ¬ LegalP k r) :
    Calls Tryz.prog 47 #[.int .i64 k, .int .i64 r] w fun e w' => e = .returned (.tuple #[.agg #[.int .i64 0, .int .i64 0, .slice none 0 0], errAt s]) ∧ Below w.heap.size w w' := by
  have HS : Hid _ := cell?_alloc_old (.cells #[.int .i64 0, .int .i64 0, .slice none 0 0] 63) hs
  have H : Hid _ := h
  clear h hs
  have hA := holds_new (holds_nil w) #[.int .i64 0, .int .i64 0, .slice none 0 0] 63
  have HA : Hid _ := hA
  clear hA
  go_enter Tryz.func47, Tryz.ntmps47
  go_wp2_with fail
  refine Calls.mono (parity_bad k r _ s HS.out hk0 hk1 hr0 hr1 H.out) ?_
  unfold errAt
  rintro e w1 ⟨rfl, hb1⟩
  have k1 := holds_at (holds_later HA.out hb1) 0 rfl
  have c4 := cellAt k1 0 _ rfl
  have c5 := cellAt k1 1 _ rfl
  have c6 := cellAt k1 2 _ rfl
  have d4 : w1.frozen? ⟨w.heap.size, 0, none⟩ = false := frozen_of_row _ _ _ _ _ k1
  have d5 : w1.frozen? ⟨w.heap.size, 1, none⟩ = false := frozen_of_row _ _ _ _ _ k1
  have d6 : w1.frozen? ⟨w.heap.size, 2, none⟩ = false := frozen_of_row _ _ _ _ _ k1
  have z1 := ltHeap k1
  have HB1 : Hid (Below w.heap.size w w1) := ((Below.refl w.heap.size w).alloc (Nat.le_refl _) _).trans (hb1.mono (by simp))
  clear hb1 k1
  go_wp2
  refine bodyPost_ret (v := .tuple #[.agg #[.int .i64 0, .int .i64 0, .slice none 0 0], errAt s]) (by simp [results, Tryz.results47, go_sem, c4, c5, c6, z1, errAt]) rfl ⟨rfl, ?_⟩
  exact (((HB1.out.setCell (Nat.le_refl _) _).setCell (Nat.le_refl _) _).setCell (Nat.le_refl _) _).alloc (by have := HB1.out.size; simp; omega) _
end Go.Proofs.YtjmbpldkggbdlaaGreatDoor

/- What Rows of package half answers, of all numbers; nothing that was there turns. -/
namespace Go.Proofs.YtjmbpldkggbdlaaGreatDoor
open Go.RowKit Gf
set_option linter.unusedVariables false
set_option maxRecDepth 20000
/-- the rows of all halves -/
def halfM (k r : Nat) : List F := grid (2 * k) (halfF k (carN (groupN k r))) (2 * (k + r))
theorem halfM_len (k r : Nat) : (halfM k r).length = 2 * (k + r) * (2 * k) := grid_len _ _ _
theorem hkind_ne {w : World} {a b : Nat} {cs ds : Array Value} {t u : TypeId} {f1 f2 : Nat × Nat} (h1 : w.heap[a]? = some (.cells cs t f1)) (h2 : w.heap[b]? = some (.cells ds u f2)) (h : t ≠ u) : a ≠ b := fun e => by
  subst e; rw [h1] at h2; cases h2; exact h rfl
theorem place_half {k r g s p : Nat} (hs : s < k + r) (hp : p < 2) : rowF (2 * k) (placeF k g s p (rowAt k (genM k r) s)) = rowF (2 * k) (halfF k (carN g) (2 * s + p)) := by
  refine rowF_congr fun v hv => ?_
  rw [genM, rowAt_grid hs]
  simp only [placeF, halfF]
  rw [show (2 * s + p) % 2 = p by omega, show (2 * s + p) / 2 = s by omega]
  by_cases h : v % 2 = p
  · rw [if_pos h, if_pos h, at8_rowF (by omega)]
  · rw [if_neg h, if_neg h]
    by_cases h2 : p = 1 ∧ s = k + carN g (v / 2)
    · rw [if_pos h2, if_pos ⟨h2.1, by omega, by omega⟩]
    · rw [if_neg h2, if_neg (fun h3 => h2 ⟨h3.1, by omega⟩)]
set_option maxHeartbeats 4000000 in
theorem hrows_F (k r : Nat) (w : World) (s0 : Addr) (hs0 : w.cell? ⟨2, 0, none⟩ = some (errAt s0)) (h1 : 1 ≤ k) (h2 : 2 ≤ r) (h3 : k + r ≤ 16) :
    Calls Tryz.prog 34 #[.int .i64 k, .int .i64 r] w fun e w' => ∃ g m, e = .returned (.tuple #[.agg #[.int .i64 (2 * (k + r) : Nat), .int .i64 (2 * k : Nat), .slice (some ⟨g, 0, none⟩) m m], .nilIface]) ∧ m = 2 * (k + r) * (2 * k) ∧ w.heap.size ≤ g ∧
      w'.heap[g]? = some (.cells (vfs (halfM k r)) 5 (0, 0)) ∧ Below w.heap.size w w' := by
  obtain ⟨gr1, _, _, gr2⟩ := groupN_least h1 h2 h3
  have HG : Hid _ := fun w => bgroup_ok k r w h1 h2 h3
  have HV : Hid _ := fun w s hs => generator_F k r w s hs h1 h2 h3
  have hhm : halfM k r = grid (2 * k) (halfF k (carN (groupN k r))) (2 * (k + r)) := rfl
  obtain ⟨gr, hgr⟩ : ∃ gr, gr = groupN k r := ⟨_, rfl⟩
  rw [← hgr] at HG gr1 gr2 hhm
  obtain ⟨n, hn⟩ : ∃ n, n = 2 * (k + r) := ⟨_, rfl⟩
  obtain ⟨c, hc⟩ : ∃ c, c = 2 * k := ⟨_, rfl⟩
  obtain ⟨t, ht⟩ : ∃ t, t = k + r := ⟨_, rfl⟩
  rw [← ht] at HV
  rw [← hn, ← hc] at hhm ⊢
  have en : (2 : Int) * ((k : Int) + r) = n := by omega
  have ec : (2 : Int) * (k : Int) = c := by omega
  have hn32 : n ≤ 32 := by omega
  have hc32 : c ≤ 32 := by omega
  have HN : Hid _ := hn
  have HC : Hid _ := hc
  have HT : Hid _ := ht
  have HHM : Hid _ := hhm
  have HS : Hid _ := hs0
  have hmk := run_makeS n (by omega)
  clear hgr hn hc ht hhm hs0
  have hA := holds_new (holds_nil w) #[.int .i64 0, .int .i64 0, .slice none 0 0] 63
  have HA : Hid _ := hA
  have HB0 : Hid _ := (Below.refl w.heap.size w).alloc (Nat.le_refl _) (.cells #[.int .i64 0, .int .i64 0, .slice none 0 0] 63)
  clear hA
  go_enter Tryz.func34, Tryz.ntmps34
  go_wp2_with fail
  refine Calls.mono (HV.out _ s0 (cell_later HB0.out HS.out)) ?_
  rintro e w1 ⟨g1, m1, rfl, hm1, hg1, hh1, hb1⟩
  have HA1 : Hid _ := holds_new (holds_cons (holds_later HA.out hb1) hh1) #[.int .i64 t, .int .i64 k, .slice (some ⟨g1, 0, none⟩) m1 m1] 63
  have hB1 := HB0.out.trans (hb1.mono HB0.out.size)
  have HB1 : Hid (Below w.heap.size w (w1.alloc (.cells #[.int .i64 t, .int .i64 k, .slice (some ⟨g1, 0, none⟩) m1 m1] 63))) := hB1.alloc hB1.size _
  have HM1 : Hid _ := hm1
  clear hb1 hh1 hg1 hm1 HA hB1
  go_wp2_with fail
  refine Calls.mono (HG.out _) ?_
  rintro e w2 ⟨rfl, rfl⟩
  go_wp2
  have hA2 := holds_cons (holds_alloc HA1.out (.cells (slV 0 [] n) 61)) (heap_alloc_last (w1.alloc (.cells #[.int .i64 t, .int .i64 k, .slice (some ⟨g1, 0, none⟩) m1 m1] 63)) (.cells (slV 0 [] n) 61))
  have hB2 := HB1.out.alloc HB1.out.size (.cells (slV 0 [] n) 61)
  have hz1 := HB1.out.size
  have hz2 := ltHeap (holds_at HA1.out 2 rfl)
  rw [World.size_alloc] at hA2 hz1 hz2
  have HA2 : Hid _ := hA2
  have HB2 : Hid _ := hB2
  clear hA2 hB2 HA1 HB1 hmk
  generalize hM : w1.heap.size + 1 = M at *
  generalize ((w1.alloc (.cells #[.int .i64 t, .int .i64 k, .slice (some ⟨g1, 0, none⟩) m1 m1] 63)).alloc (.cells (slV 0 [] n) 61)) = W3 at *
  have hM0 : w.heap.size < M := by omega
  have hM1 : w1.heap.size < M := by omega
  clear hM
  go_loopw [41] (fun i wr => ∃ j : Nat, ∃ gs : List Nat, j ≤ n ∧ i = .int .i64 j ∧ gs.length = j ∧ Below w.heap.size w wr ∧
    Holds wr [(M, .cells (slV c gs n) 61 (0, 0)), (w1.heap.size, .cells #[.int .i64 t, .int .i64 k, .slice (some ⟨g1, 0, none⟩) m1 m1] 63 (0, 0)), (g1, .cells (vfs (genM k r)) 5 (0, 0)), (w.heap.size, .cells #[.int .i64 0, .int .i64 0, .slice none 0 0] 63 (0, 0))] ∧
    ∀ i g, gs[i]? = some g → g ≠ M ∧ wr.heap[g]? = some (.cells (vfs (rowF c (halfF k (carN gr) i))) 5 (0, 0))) (fun i _ => n - (intOf i).toNat)
  case atStart => exact ⟨0, [], by omega, rfl, rfl, HB2.out, HA2.out, fun j g h => by simp at h⟩
  case round =>
    obtain ⟨j, gs, hj, rfl, hgs, hb, hh, hrows⟩ := hrel
    have HB : Hid _ := hb
    have HH : Hid _ := hh
    have HR : Hid _ := hrows
    have HGS : Hid _ := hgs
    clear hb hh hrows hgs
    by_cases hlt : j < n
    · obtain ⟨s, p, rfl, hp2, hst⟩ : ∃ s p : Nat, j = 2 * s + p ∧ p < 2 ∧ s < t := ⟨j / 2, j % 2, by omega, by omega, by have := HN.out; have := HT.out; omega⟩
      go_wp2_with fail
      refine (placeOf_F (2 * s + p) s p _ rfl hp2 (by have := HT.out; omega)).mono ?_
      rintro e w4 ⟨rfl, hb4⟩
      have HH4 : Hid _ := holds_new (holds_later HH.out hb4) #[.int .i64 s, .int .i64 p] 77
      have hB4 := HB.out.trans (hb4.mono HB.out.size)
      have HB4 : Hid _ := hB4.alloc hB4.size (.cells #[.int .i64 s, .int .i64 p] 77)
      have HR4b : Hid (∀ (k0 : Nat) (o : Obj), wr.heap[k0]? = some o → (w4.alloc (.cells #[.int .i64 s, .int .i64 p] 77)).heap[k0]? = some o) := fun k0 o h => (Below.heap_alloc _ _ _ (ltHeap (heap_later h hb4))).trans (heap_later h hb4)
      have zz4 := hb4.size
      clear hb4 hB4
      have c1 := cellAt (holds_at HH4.out 2 rfl) 0 _ rfl
      have c2 := cellAt (holds_at HH4.out 2 rfl) 1 _ rfl
      have c3 := cellAt (holds_at HH4.out 2 rfl) 2 _ rfl
      have c4 := cellAt (holds_at HH4.out 0 rfl) 0 _ rfl
      have z4 := ltHeap (holds_at HH4.out 0 rfl)
      have z5 := ltHeap (holds_at HH4.out 2 rfl)
      go_wp2_with fail
      refine Calls.mono (row_F t k m1 m1 s (some ⟨g1, 0, none⟩) (genM k r) _ (by have := HT.out; omega) (by omega) (by have := HM1.out; simpa using this) (by rw [genM_len, HT.out]) (Nat.le_refl _) (holds_row HH4.out 3 rfl) (fun h => by cases h) hst) ?_
      rintro e w5 ⟨a5, cap5, rfl, hr5, hn5, _, hb5⟩
      have HR5 : Hid _ := hr5
      have HH5 : Hid _ := holds_later HH4.out hb5
      have HB5 : Hid (Below w.heap.size w w5) := HB4.out.trans (hb5.mono HB4.out.size)
      have HR5b : Hid (∀ (k0 : Nat) (o : Obj), wr.heap[k0]? = some o → w5.heap[k0]? = some o) := fun k0 o h => heap_later (HR4b.out k0 o h) hb5
      clear hr5 hb5 hn5 c1 c2 c3 c4 z4 z5 HB4
      have c1 := cellAt (holds_at HH5.out 0 rfl) 0 _ rfl
      have c2 := cellAt (holds_at HH5.out 0 rfl) 1 _ rfl
      have z5 := ltHeap (holds_at HH5.out 0 rfl)
      go_wp2_with fail
      refine Calls.mono (hrowAt_F k gr s p cap5 a5 _ _ h1 (by omega) gr1 gr2 (by have := HT.out; omega) hp2 (rowAt_len (by rw [genM_len]) (by rw [← HT.out]; exact hst)) HR5.out) ?_
      rintro e w6 ⟨g6, n6, rfl, hn6, hg6, hh6, hb6⟩
      obtain rfl : n6 = c := by have := HC.out; omega
      rw [place_half (by have := HT.out; omega) hp2, ← HC.out] at hh6
      have hs6 := heap_later (holds_at HH5.out 1 rfl) hb6
      have z6 := ltHeap (holds_at HH5.out 1 rfl)
      have hg6M : g6 ≠ M := by omega
      have HG2 := HGS.out
      have c7 : w6.cell? ⟨M, 2 * s + p, none⟩ = some (.slice none 0 0) := cellAt hs6 (2 * s + p) _ (by have e := slV_next (c := n6) (gs := gs) (r := n) (by rw [HG2]; exact hlt); rwa [HG2] at e)
      have c8 : w6.frozen? ⟨M, 2 * s + p, none⟩ = false := frozen_of_row _ _ _ _ _ hs6
      have hW : ∀ (k0 : Nat) (o : Obj), k0 ≠ M → w6.heap[k0]? = some o → (w6.setCell ⟨M, 2 * s + p, none⟩ (.slice (some ⟨g6, 0, none⟩) n6 n6)).heap[k0]? = some o := fun k0 o h1 h2 => (heap_setCell_other _ _ _ _ h1).trans h2
      have HT6 : Hid ((w6.setCell ⟨M, 2 * s + p, none⟩ (.slice (some ⟨g6, 0, none⟩) n6 n6)).heap[M]? = some (.cells (slV n6 (gs ++ [g6]) n) 61 (0, 0))) := by
        show _ = _
        rw [heap_setCell_same _ _ _ _ _ _ hs6, ← HG2, slV_set g6 (by omega)]
      have HROW : Hid (∀ i g, (gs ++ [g6])[i]? = some g → g ≠ M ∧ (w6.setCell ⟨M, 2 * s + p, none⟩ (.slice (some ⟨g6, 0, none⟩) n6 n6)).heap[g]? = some (.cells (vfs (rowF n6 (halfF k (carN gr) i))) 5 (0, 0))) := by
        intro i g hi
        by_cases hjk : i < gs.length
        · rw [List.getElem?_append_left hjk] at hi
          obtain ⟨h1, h2⟩ := HR.out i g hi
          exact ⟨h1, hW _ _ h1 (heap_later (HR5b.out _ _ h2) hb6)⟩
        · have hj2 := (List.getElem?_eq_some_iff.1 hi).1
          simp only [List.length_append, List.length_singleton] at hj2
          obtain rfl : i = 2 * s + p := by omega
          rw [List.getElem?_append_right (by omega), show 2 * s + p - gs.length = 0 from by omega] at hi
          obtain rfl : g6 = g := by simpa using hi
          exact ⟨hg6M, hW _ _ hg6M hh6⟩
      have hB6 := HB5.out.trans (hb6.mono HB5.out.size)
      have hBX := hB6.setCell (p := ⟨M, 2 * s + p, none⟩) (by show w.heap.size ≤ M; omega) (.slice (some ⟨g6, 0, none⟩) n6 n6)
      have HBX : Hid _ := hBX
      have hX0 := holds_later HH5.out hb6
      have HHX : Hid (Holds (w6.setCell ⟨M, 2 * s + p, none⟩ (.slice (some ⟨g6, 0, none⟩) n6 n6)) [(M, .cells (slV n6 (gs ++ [g6]) n) 61 (0, 0)), (w1.heap.size, .cells #[.int .i64 t, .int .i64 k, .slice (some ⟨g1, 0, none⟩) m1 m1] 63 (0, 0)), (g1, .cells (vfs (genM k r)) 5 (0, 0)), (w.heap.size, .cells #[.int .i64 0, .int .i64 0, .slice none 0 0] 63 (0, 0))]) :=
        holds_cons (holds_cons (holds_cons (holds_cons (holds_nil _) (hW _ _ (by omega) (holds_at hX0 4 rfl))) (hW _ _ (hkind_ne (holds_at hX0 3 rfl) hs6 (by decide)) (holds_at hX0 3 rfl))) (hW _ _ (by omega) (holds_at hX0 2 rfl))) HT6.out
      clear hs6 hb6 hh6 hW hB6 hBX hX0 hn6 c1 c2 HG2
      go_wp2
      refine ⟨⟨2 * s + p + 1, gs ++ [g6], by omega, by go_num, by simp [HGS.out], HBX.out, HHX.out, HROW.out⟩, by simp [intOf]; omega⟩
    · obtain rfl : j = n := by omega
      have k1 := holds_at HH.out 0 rfl
      go_wp2_with fail
      refine Calls.mono (of_F c j j _ ((List.range j).map fun i => rowF c (halfF k (carN gr) i)) _ (by omega) (by simp) (by omega) (fun x hx => ?_) (.inr ⟨M, 0, rfl, fun i x hx => ?_⟩)) ?_
      · obtain ⟨i, _, rfl⟩ := List.mem_map.1 hx
        exact rowF_len _ _
      · simp only [List.getElem?_map, Option.map_eq_some_iff] at hx
        obtain ⟨l, hi, rfl⟩ := hx
        obtain ⟨hjk, hi2⟩ := List.getElem?_eq_some_iff.1 hi
        simp only [List.length_range] at hjk
        simp only [List.getElem_range] at hi2
        subst hi2
        have hjg : i < gs.length := by rw [HGS.out]; exact hjk
        have hgj : gs[i]? = some gs[i] := List.getElem?_eq_getElem hjg
        refine ⟨some ⟨gs[i], 0, none⟩, c, ?_, row8_own (HR.out i _ hgj).2⟩
        rw [Nat.zero_add, rowF_len]
        exact cellAt k1 i _ (slV_at hjg)
      rintro e w5 ⟨g, m, rfl, hm, hg, hh, hb5⟩
      rw [← grid_flat, ← HHM.out] at hh
      have k2 := heap_later (holds_at HH.out 3 rfl) hb5
      have c4 := cellAt k2 0 _ rfl
      have c5 := cellAt k2 1 _ rfl
      have c6 := cellAt k2 2 _ rfl
      have d4 : w5.frozen? ⟨w.heap.size, 0, none⟩ = false := frozen_of_row _ _ _ _ _ k2
      have d5 : w5.frozen? ⟨w.heap.size, 1, none⟩ = false := frozen_of_row _ _ _ _ _ k2
      have d6 : w5.frozen? ⟨w.heap.size, 2, none⟩ = false := frozen_of_row _ _ _ _ _ k2
      have HMM : Hid _ := hm
      have HHH : Hid _ := hh
      have HBW : Hid (Below w.heap.size w w5) := HB.out.trans (hb5.mono HB.out.size)
      have hgw : w.heap.size < g := by
        have h1 := ltHeap k1
        omega
      clear hm hh hb5 k2 k1
      go_wp2
      refine bodyPost_ret (v := .tuple #[.agg #[.int .i64 j, .int .i64 c, .slice (some ⟨g, 0, none⟩) m m], .nilIface]) (by simp [results, Tryz.results34, go_sem, c4, c5, c6]) rfl ⟨g, m, rfl, HMM.out, by omega, ?_, ?_⟩
      · rw [heap_setCell_other _ _ _ _ (by show g ≠ w.heap.size; omega), heap_setCell_other _ _ _ _ (by show g ≠ w.heap.size; omega), heap_setCell_other _ _ _ _ (by show g ≠ w.heap.size; omega)]
        exact HHH.out
      · exact ((HBW.out.setCell (by simp) _).setCell (by simp) _).setCell (by simp) _
end Go.Proofs.YtjmbpldkggbdlaaGreatDoor

/- The document's own Good, In, Left and Kind of lost halves. -/
namespace Go.Proofs.YtjmbpldkggbdlaaGreatDoor
open Go.RowKit Go.Maps Gf
set_option linter.unusedVariables false
set_option maxRecDepth 20000
theorem goodH_step2 {n i : Nat} {xs : List Int} {x y : Int} (h : i < xs.length) (hx : xs[i] = x) (hy : xs.getD (i - 1) 0 = y) (hg : GoodH n (xs.take i)) : GoodH n (xs.take (i + 1)) ↔ (0 ≤ x ∧ x < n) ∧ (i = 0 ∨ y < x) := by
  rw [goodH_step h hg, hx]
  have hl : (xs.take i).length = i := by rw [List.length_take]; omega
  have e1 : xs.take i = [] ↔ i = 0 := by rw [← List.length_eq_zero_iff, hl]
  by_cases h0 : i = 0
  · simp [h0]
  · have e2 : (xs.take i).getD (i - 1) 0 = y := by
      rw [← hy, List.getD, List.getElem?_take_of_lt (by omega), ← List.getD]
    rw [hl, e2, e1]
theorem goodH_full {n i : Nat} {xs : List Int} (h : ¬ GoodH n (xs.take (i + 1))) : ¬ GoodH n xs := fun h2 => h (goodH_take h2 _)
noncomputable def goodB (n : Nat) (xs : List Int) : Bool := @decide (GoodH n xs) (Classical.propDecidable _)
theorem goodB_yes {n : Nat} {xs : List Int} (h : GoodH n xs) : goodB n xs = true := @decide_eq_true _ (Classical.propDecidable _) h
theorem goodB_no {n : Nat} {xs : List Int} (h : ¬ GoodH n xs) : goodB n xs = false := @decide_eq_false _ (Classical.propDecidable _) h
set_option maxHeartbeats 2000000 in
theorem rgood_F (k r l cap : Nat) (a : Option Addr) (xs : List Int) (w : World) (h3 : k + r ≤ 16) (hl : l = xs.length) (hl9 : l ≤ 4611686018427387904) (hcap : l ≤ cap) (hX : RowI w a xs) :
    Calls Tryz.prog 19 #[.int .i64 k, .int .i64 r, .slice a l cap] w fun e w' => e = .returned (.bool (goodB (2 * (k + r)) xs)) ∧ w = w' := by
  obtain ⟨d, hd⟩ : ∃ d, d = goodB (2 * (k + r)) xs := ⟨_, rfl⟩
  have HY : Hid (GoodH (2 * (k + r)) xs → d = true) := fun h => hd.trans (goodB_yes h)
  have HN0 : Hid (¬ GoodH (2 * (k + r)) xs → d = false) := fun h => hd.trans (goodB_no h)
  rw [← hd]
  clear hd
  have HL : Hid (l = xs.length) := hl
  have HX : Hid (RowI w a xs) := hX
  clear hl hX
  go_enter Tryz.func19, Tryz.ntmps19
  go_wp2
  go_loopw [11] (fun i wr => ∃ j : Nat, j ≤ l ∧ i = .int .i64 j ∧ wr = w ∧ GoodH (2 * (k + r)) (xs.take j)) (fun i _ => l - (intOf i).toNat)
  case atStart => exact ⟨0, by omega, rfl, rfl, by rw [List.take_zero]; exact goodH_nil _⟩
  case round =>
    obtain ⟨j, hj, rfl, rfl, hg⟩ := hrel
    have HG : Hid (GoodH (2 * (k + r)) (xs.take j)) := hg
    clear hg
    by_cases hlt : j < l
    · have hjx : j < xs.length := by rw [← HL.out]; exact hlt
      obtain ⟨b, off, hab, hbl, hc⟩ := rowI_cell HX.out hjx
      have c1 := hc j hjx
      have c0 := hc (j - 1) (by omega)
      rw [show xs.getD j 0 = xs[j] by simp [List.getD, hjx]] at c1
      obtain ⟨x, hx⟩ : ∃ x, xs[j] = x := ⟨_, rfl⟩
      obtain ⟨y, hy⟩ : ∃ y, xs.getD (j - 1) 0 = y := ⟨_, rfl⟩
      have HS : Hid _ := goodH_step2 (n := 2 * (k + r)) hjx hx hy HG.out
      have HF : Hid (¬ GoodH (2 * (k + r)) (xs.take (j + 1)) → ¬ GoodH (2 * (k + r)) xs) := fun h => goodH_full h
      rw [hx] at c1
      rw [hy] at c0
      clear hx hy hc hjx
      subst hab
      by_cases n1 : x < 0
      · have HB : Hid _ := HF.out (fun h => by have := (HS.out.1 h).1; omega)
        clear HS HF c0
        go_wp2
        go_ret
        exact ⟨by rw [HN0.out HB.out]; rfl, rfl⟩
      by_cases n2 : 2 * ((k : Int) + r) ≤ x
      · have HB : Hid _ := HF.out (fun h => by have := (HS.out.1 h).1; omega)
        clear HS HF c0
        go_wp2
        go_ret
        exact ⟨by rw [HN0.out HB.out]; rfl, rfl⟩
      by_cases n3 : j = 0
      · have HN : Hid _ := HS.out.2 ⟨by omega, .inl n3⟩
        clear HS HF c0
        subst n3
        rw [Nat.add_zero] at c1
        go_wp2
        exact ⟨⟨1, by omega, by go_num, by first | rfl | trivial, HN.out⟩, by simp [intOf]; omega⟩
      obtain ⟨q, rfl⟩ : ∃ q, j = q + 1 := ⟨j - 1, by omega⟩
      rw [Nat.add_sub_cancel] at c0
      by_cases n4 : x ≤ y
      · have HB : Hid _ := HF.out (fun h => by have := (HS.out.1 h).2; omega)
        clear HS HF
        go_wp2
        go_ret
        exact ⟨by rw [HN0.out HB.out]; rfl, rfl⟩
      · have HN : Hid _ := HS.out.2 ⟨by omega, .inr (by omega)⟩
        clear HS HF
        go_wp2
        exact ⟨⟨q + 1 + 1, by omega, by go_num, by first | rfl | trivial, HN.out⟩, by simp [intOf]; omega⟩
    · obtain rfl : j = l := by omega
      have HF : Hid (GoodH (2 * (k + r)) xs) := by have := HG.out; rwa [HL.out, List.take_length] at this
      go_wp2
      go_ret
      exact ⟨by rw [HY.out HF.out]; rfl, rfl⟩
set_option maxHeartbeats 1000000 in
theorem rin_F (l cap : Nat) (a : Option Addr) (ns : List Int) (x : Int) (w : World) (hl : l = ns.length) (hl9 : l ≤ 4611686018427387904) (hX : RowI w a ns) :
    Calls Tryz.prog 20 #[.slice a l cap, .int .i64 x] w fun e w' => e = .returned (.bool (decide (x ∈ ns))) ∧ w = w' := by
  have HL : Hid (l = ns.length) := hl
  have HX : Hid (RowI w a ns) := hX
  obtain ⟨d, hd⟩ : ∃ d, d = decide (x ∈ ns) := ⟨_, rfl⟩
  have HD : Hid (d = decide (x ∈ ns)) := hd
  rw [← hd]
  clear hl hX hd
  go_enter Tryz.func20, Tryz.ntmps20
  go_wp2
  go_loopw [9] (fun i wr => ∃ j : Nat, j ≤ l ∧ i = .int .i64 j ∧ wr = w ∧ (∀ q, q < j → ns[q]? ≠ some x)) (fun i _ => l - (intOf i).toNat)
  case atStart => exact ⟨0, by omega, rfl, rfl, fun q h => by omega⟩
  case round =>
    obtain ⟨j, hj, rfl, rfl, hq⟩ := hrel
    have HQ : Hid (∀ q, q < j → ns[q]? ≠ some x) := hq
    clear hq
    by_cases hlt : j < l
    · obtain ⟨b, off, rfl, hb, hc⟩ := rowI_cell HX.out (show j < ns.length by rw [← HL.out]; exact hlt)
      have c1 := hc j (by rw [← HL.out]; exact hlt)
      obtain ⟨y, hy⟩ : ∃ y, y = ns.getD j 0 := ⟨_, rfl⟩
      rw [← hy] at c1
      have HY : Hid (ns[j]? = some y) := by
        show _ = _
        rw [hy, List.getD_eq_getElem?_getD, List.getElem?_eq_getElem (by rw [← HL.out]; exact hlt)]; rfl
      clear hc hy
      by_cases he : y = x
      · have he' : (y == x) = true := by simp [he]
        have HT : Hid (d = true) := by show _ = _; rw [HD.out]; exact decide_eq_true (by rw [← he]; exact List.mem_of_getElem? HY.out)
        clear he HY HD HQ
        go_wp2
        go_ret
        exact ⟨by rw [HT.out]; rfl, rfl⟩
      · have he' : (y == x) = false := by simp [he]
        have HE : Hid (¬ y = x) := he
        clear he
        go_wp2
        refine ⟨⟨j + 1, by omega, by go_num, by first | rfl | trivial, fun q hq => ?_⟩, by simp [intOf]; omega⟩
        by_cases hqj : q < j
        · exact HQ.out q hqj
        · obtain rfl : q = j := by omega
          rw [HY.out]
          exact fun h => HE.out (Option.some.inj h)
    · obtain rfl : j = l := by omega
      have HT : Hid (d = false) := by
        show _ = _
        rw [HD.out]
        refine decide_eq_false fun h => ?_
        obtain ⟨q, hq⟩ := List.mem_iff_getElem?.1 h
        exact absurd hq (HQ.out q (by have := (List.getElem?_eq_some_iff.1 hq).1; rw [HL.out]; exact this))
      clear HD HQ
      go_wp2
      go_ret
      exact ⟨by rw [HT.out]; rfl, rfl⟩
theorem leftL_step (m : Nat) (ns : List Nat) : leftL (m + 1) ns = leftL m ns ++ (if m ∈ ns then [] else [m]) := by
  rw [leftL, List.range_succ, List.filter_append, ← leftL]
  congr 1
  by_cases h : m ∈ ns <;> simp [h]
set_option maxHeartbeats 4000000 in
theorem rleft_F (k r l cap : Nat) (a : Option Addr) (ns : List Nat) (w : World) (h3 : k + r ≤ 16) (hl : l = ns.length) (hl9 : l ≤ 4611686018427387904) (hX : RowI w a (natJ8 ns)) :
    Calls Tryz.prog 22 #[.int .i64 k, .int .i64 r, .slice a l cap] w fun e w' => ∃ v, e = .returned v ∧ ListOf w' w.heap.size v (leftL (2 * (k + r)) ns) ∧ Below w.heap.size w w' := by
  have HL : Hid (l = ns.length) := hl
  have HX : Hid (RowI w a (natJ8 ns)) := hX
  obtain ⟨n, hn⟩ : ∃ n, n = 2 * (k + r) := ⟨_, rfl⟩
  rw [← hn]
  have en : (2 : Int) * ((k : Int) + r) = n := by omega
  have hn32 : n ≤ 32 := by omega
  have HN : Hid _ := hn
  clear hl hX hn
  go_enter Tryz.func22, Tryz.ntmps22
  go_wp2
  have HO0 : Hid ((w.alloc (.cells #[] 3)).ownsRow w.heap.size 3 1 (.slice (some ⟨w.heap.size, 0, none⟩) 0 0) 0 ((natJ8 (leftL 0 ns)).map (Value.int .i64))) := ⟨rfl, .inr ⟨w.heap.size, 0, #[], rfl, Nat.le_refl _, heap_alloc_last _ _, Nat.le_refl _, by decide, rfl, rfl⟩⟩
  go_loopw [8, 7] (fun i v wr => ∃ j : Nat, j ≤ n ∧ i = .int .i64 j ∧ (∃ av cv, v = .slice av (leftL j ns).length cv) ∧ Below w.heap.size w wr ∧ wr.ownsRow w.heap.size 3 1 v (leftL j ns).length ((natJ8 (leftL j ns)).map (Value.int .i64))) (fun i _ _ => n - (intOf i).toNat)
  case atStart => exact ⟨0, by omega, rfl, ⟨_, _, rfl⟩, (Below.refl _ _).alloc (Nat.le_refl _) _, HO0.out⟩
  case round =>
    obtain ⟨j, hj, rfl, ⟨av, cv, rfl⟩, hb, ho⟩ := hrel
    have HB : Hid _ := hb
    clear hb
    by_cases hlt : j < n
    · have hs := leftL_step j ns
      have HWL : Hid _ := leftL_le j ns
      have HIN : Hid (decide ((j : Int) ∈ natJ8 ns) = decide (j ∈ ns)) := by show _ = _; simp only [natJ8_mem]
      have hlt2 : (j : Int) < 2 * ((k : Int) + r) := by omega
      by_cases q1 : j ∈ ns
      · rw [if_pos q1, List.append_nil] at hs
        have HS : Hid _ := hs
        have HO : Hid (wr.ownsRow w.heap.size 3 1 (.slice av (leftL j ns).length cv) (leftL j ns).length ((natJ8 (leftL j ns)).map (Value.int .i64))) := ho
        have HQ : Hid (decide (j ∈ ns) = true) := decide_eq_true q1
        clear hs ho q1
        go_wp2_with fail
        refine Calls.mono (rin_F l cap a (natJ8 ns) j _ (by rw [natJ8_len]; exact HL.out) hl9 (rowI_below HX.out HB.out)) ?_
        rw [HIN.out, HQ.out]
        rintro e w4 ⟨rfl, rfl⟩
        go_wp2
        exact ⟨⟨j + 1, by omega, by go_num, ⟨av, cv, by rw [HS.out]⟩, HB.out, by rw [HS.out]; exact HO.out⟩, by simp [intOf]; omega⟩
      · rw [if_neg q1] at hs
        have hb5 := HB.out.alloc HB.out.size (.cells #[.int .i64 j] 3)
        have ho5 := ho.alloc (.cells #[.int .i64 j] 3)
        obtain ⟨g2, cap2, w6, hrun, ho2, hgr, hor, hlt2⟩ := appendI (b := wr.heap.size) (c := 1) (x := (j : Int)) 22 ho5 (cellAt (heap_alloc_last wr (.cells #[.int .i64 j] 3)) 0 _ rfl) (by have := HWL.out; omega) (by have := HB.out.size; simp; omega)
        have hb6 := below_own hb5 ho5 hgr (by have := HB.out.size; simp; omega)
        have hn6 : (leftL (j + 1) ns).length = (leftL j ns).length + 1 := by rw [hs]; simp
        have hv6 : (natJ8 (leftL j ns)).map (Value.int .i64) ++ [.int .i64 (j : Int)] = (natJ8 (leftL (j + 1) ns)).map (Value.int .i64) := by rw [hs]; simp [natJ8]
        rw [hv6] at ho2
        have HRun : Hid _ := hrun
        have HO2 : Hid (w6.ownsRow w.heap.size 3 1 (.slice (some ⟨g2, 0, none⟩) ((leftL j ns).length + 1) cap2) ((leftL j ns).length + 1) ((natJ8 (leftL (j + 1) ns)).map (Value.int .i64))) := ho2
        have HB6 : Hid _ := hb6
        have HN6 : Hid _ := hn6
        have HQ : Hid (decide (j ∈ ns) = false) := decide_eq_false q1
        clear hs ho q1 hb5 ho5 hrun ho2 hgr hor hlt2 hb6 hn6 hv6
        go_wp2_with fail
        refine Calls.mono (rin_F l cap a (natJ8 ns) j _ (by rw [natJ8_len]; exact HL.out) hl9 (rowI_below HX.out HB.out)) ?_
        rw [HIN.out, HQ.out]
        rintro e w4 ⟨rfl, rfl⟩
        go_wp2_with (at_builtin; refine wpList_append_run rfl _ _ 22 rfl _ _ _ _ rfl rfl HRun.out ?_)
        exact ⟨⟨j + 1, by omega, by go_num, ⟨_, _, by rw [HN6.out]⟩, HB6.out, by rw [HN6.out]; exact HO2.out⟩, by simp [intOf]; omega⟩
    · obtain rfl : j = n := by omega
      have HV : Hid (ListOf wr w.heap.size (.slice av (leftL j ns).length cv) (leftL j ns)) := listOf_own (Nat.le_refl _) rfl ho
      have hlt2 : ¬ (j : Int) < 2 * ((k : Int) + r) := by omega
      clear ho
      go_wp2
      go_ret
      exact ⟨_, rfl, HV.out, HB.out⟩
end Go.Proofs.YtjmbpldkggbdlaaGreatDoor

/- What Zero of package tesseraref02, and square of the statements, answer; nothing that was there turns. -/
namespace Go.Proofs.YtjmbpldkggbdlaaGreatDoor
open Go.RowKit Gf
set_option linter.unusedVariables false
set_option maxRecDepth 20000
set_option maxHeartbeats 400000 in
theorem rzero_F (r c : Nat) (w : World) (hr : r ≤ 64) (hc : c ≤ 64) :
    Calls Tryz.prog 104 #[.int .i64 r, .int .i64 c] w fun e w' => ∃ g n, e = .returned (.agg #[.int .i64 r, .int .i64 c, .slice (some ⟨g, 0, none⟩) n n]) ∧ n = r * c ∧ w.heap.size ≤ g ∧
      w'.heap[g]? = some (.cells (vfs (zeros (r * c))) 5 (0, 0)) ∧ Below w.heap.size w w' := by
  obtain ⟨m0, m1⟩ := mul_small (r := r) (c := c) hr hc
  have hr' : (r : Int) ≤ 64 := by omega
  have hc' : (c : Int) ≤ 64 := by omega
  have hN : Hid (r * c ≤ 4096) := by
    have : (r : Int) * (c : Int) = ((r * c : Nat) : Int) := by simp
    show _ ≤ _
    omega
  have hmk := run_make8 (r * c) (by have := hN.out; omega)
  rw [show ((r * c : Nat) : Int) = (r : Int) * (c : Int) from by simp] at hmk
  go_enter Tryz.func104, Tryz.ntmps104
  go_wp2
  refine bodyPost_ret (v := .agg #[.int .i64 r, .int .i64 c, .slice (some ⟨w.heap.size + 1, 0, none⟩) (r * c) (r * c)]) (by simp [results, Tryz.results104, go_sem]) rfl ⟨w.heap.size + 1, r * c, rfl, rfl, by omega, ?_, ?_⟩
  · exact heap_alloc2_new w _ _
  · exact ((Below.refl _ _).alloc (Nat.le_refl _) _).alloc (by simp) _
/-- n bytes: those that are there, noughts behind -/
def padTo (n : Nat) (xs : List F) : List F := xs.take n ++ zeros (n - xs.length)
theorem padTo_len (n : Nat) (xs : List F) : (padTo n xs).length = n := by
  rw [padTo, List.length_append, zeros_len, List.length_take]; omega
theorem run_copyPad (g n : Nat) (a : Option Addr) (la ca : Nat) (xs : List F) (w : World) (ty : TypeId) (hla : la = xs.length)
    (hg : w.heap[g]? = some (.cells (vfs (zeros n)) 5 (0, 0))) (hx : Row8 w a xs) :
    (Builtin.copy_ #[61, 61] ty #[.slice (some ⟨g, 0, none⟩) n n, .slice a la ca]).run Tryz.prog w = .ok (goInt ((min xs.length n : Nat) : Int)) (w.setRow g (vfs (padTo n xs))) := by
  have hs : (Tryz.prog.info? 5).map (·.size) = some 1 := by kernel_rfl
  subst hla
  rcases hx with rfl | ⟨b, off, rfl, hx⟩
  · rw [List.length_nil, run_copy_none w _ _ _ _ _ _ _ _ _ _ Tryz.underlying61 hs (by simp)]
    have e : padTo n [] = zeros n := by simp [padTo]
    rw [e, setRow_self w g _ _ _ hg, Nat.zero_min]; rfl
  · have hlen : ((xs.take n).map vf).length = Nat.min xs.length n := by rw [List.length_map, List.length_take]; show min _ _ = min _ _; omega
    have he : (List.take 0 (vfs (zeros n)).toList ++ (xs.take n).map vf ++ List.drop (0 + ((xs.take n).map vf).length) (vfs (zeros n)).toList).toArray = vfs (padTo n xs) := by
      rw [hlen]
      simp only [List.take_zero, List.nil_append, Nat.zero_add, padTo, vfs, List.map_append, List.toList_toArray, zeros, List.map_replicate, List.drop_replicate]
      congr 3
      show n - min _ _ = _
      omega
    rw [run_copy_row (P := Tryz.prog) w 61 61 ty 5 g 0 n n ⟨b, off, none⟩ xs.length ca (vfs (zeros n)) 5 ((xs.take n).map vf) Tryz.underlying61 hs hg hlen
      (fun j v hv => by
        simp only [List.getElem?_map, Option.map_eq_some_iff] at hv
        obtain ⟨x, hx1, rfl⟩ := hv
        have hj' := (List.getElem?_eq_some_iff.1 hx1).1
        rw [List.length_take] at hj'
        have hj : j < xs.length := by omega
        rw [List.getElem?_take_of_lt (by omega)] at hx1
        have e : at8 xs j = x := by simp [at8, hx1]
        have hadd : (⟨b, off, none⟩ : Addr).add j = ⟨b, off + j, none⟩ := by unfold Addr.add; split <;> simp_all
        rw [hadd, hx j hj, e]; rfl)
      (by rw [hlen, vfs_size, zeros_len]; show 0 + min _ _ ≤ _; omega)
      (fun v hv => by
        simp only [List.mem_map] at hv
        obtain ⟨x, _, rfl⟩ := hv
        rfl)]
    rw [he, hlen]
end Go.Proofs.YtjmbpldkggbdlaaGreatDoor

/- What the document's own One, Transpose and Product of package mat's chapter answer, of all matrices in form; nothing that was there turns. -/
namespace Go.Proofs.YtjmbpldkggbdlaaGreatDoor
open Go.RowKit Gf
set_option linter.unusedVariables false
set_option maxRecDepth 20000
/-- a grid, made row by row, as far as place j of row i -/
def gridP (c : Nat) (f : Nat → Nat → F) (r i j : Nat) : List F := grid c (fun a b => if a < i ∨ a = i ∧ b < j then f a b else 0) r
theorem gridP_len (c : Nat) (f : Nat → Nat → F) (r i j : Nat) : (gridP c f r i j).length = r * c := grid_len _ _ _
theorem gridP_zero (c : Nat) (f : Nat → Nat → F) (r : Nat) : zeros (r * c) = gridP c f r 0 0 := by rw [zeros_grid]; exact grid_congr fun i j _ _ => by rw [if_neg (by omega)]
theorem gridP_done (c : Nat) (f : Nat → Nat → F) (r : Nat) : gridP c f r r 0 = grid c f r := grid_congr fun a b h _ => by rw [if_pos (by omega)]
theorem gridP_row (c : Nat) (f : Nat → Nat → F) (r i : Nat) : gridP c f r i c = gridP c f r (i + 1) 0 := grid_congr fun a b _ h => by
  by_cases e : a < i + 1
  · rw [if_pos (by omega), if_pos (by omega)]
  · rw [if_neg (by omega), if_neg (by omega)]
theorem gridP_step {c r i j : Nat} {f : Nat → Nat → F} (hi : i < r) (hj : j < c) : (gridP c f r i j).set (i * c + j) (f i j) = gridP c f r i (j + 1) := by
  rw [gridP, grid_set hi hj]
  refine grid_congr fun a b ha hb => ?_
  by_cases e : a = i ∧ b = j
  · rw [if_pos e, if_pos (by omega), e.1, e.2]
  · rw [if_neg e]
    by_cases e2 : a < i ∨ a = i ∧ b < j
    · rw [if_pos e2, if_pos (by omega)]
    · rw [if_neg e2, if_neg (by omega)]
theorem grownBy_drewN {w w' : World} {r : Option Nat} (h : w.grownBy w' r) : ∀ n, w.grownBy (w'.drewN n) r
  | 0 => h
  | n + 1 => grownBy_drew (grownBy_drewN h n)
theorem row8_get {w : World} {a : Option Addr} {xs : List F} {j : Nat} (h : Row8 w a xs) (hj : j < xs.length) : ∃ b off, a = some ⟨b, off, none⟩ ∧ b < w.heap.size ∧ ∀ i, i < xs.length → w.cell? ⟨b, off + i, none⟩ = some (.int .u8 ((at8 xs i).toNat : Int)) := by
  rcases h with e | ⟨b, off, rfl, h⟩
  · rw [e] at hj; simp at hj
  · have := World.block_lt_of_cell? w _ (h j hj)
    exact ⟨b, off, rfl, by simpa using this, h⟩
end Go.Proofs.YtjmbpldkggbdlaaGreatDoor

/- What the document's own Of and Row of package mat's chapter answer; nothing that was there turns. -/
namespace Go.Proofs.YtjmbpldkggbdlaaGreatDoor
open Go.RowKit Gf
set_option linter.unusedVariables false
set_option maxRecDepth 20000
/-- bytes laid behind a list of one's own, whatever they are -/
theorem appendB {w : World} {B n m c : Nat} {v : Value} {zs ys : List F} {a : Option Addr} (ty : TypeId) (ho : w.ownsRow B 5 1 v n (zs.map vf)) (hm : m = ys.length) (hb : n + m ≤ 1000000) (hy : Row8 w a ys) (hnil : a = none → c = 0) (hB : B ≤ w.heap.size) :
    ∃ v' w', (Builtin.append_ #[61, 61] ty #[v, .slice a m c]).run Tryz.prog w = .ok v' w' ∧ w'.ownsRow B 5 1 v' (n + m) ((zs ++ ys).map vf) ∧ w.grownBy w' v.ownBlock := by
  obtain ⟨i, hi, h1, h2, h3⟩ := info8
  rcases hy with rfl | ⟨b, off, rfl, hy⟩
  · obtain rfl : m = 0 := hm
    cases a with
    | none =>
      obtain rfl := hnil rfl
      refine ⟨v, w, ?_, by simpa using ho, grownBy_refl _ _⟩
      rcases ho.2 with ⟨rfl, rfl⟩ | ⟨g, cap, cur, rfl, _, hg, hle, _⟩
      · simp [Builtin.append_, run_underlying Tryz.underlying61, sizeOf, typeInfo, hi, Builtin.lenOf, Builtin.firstCells]
      · simp [Builtin.append_, run_underlying Tryz.underlying61, sizeOf, typeInfo, hi, Builtin.lenOf, Builtin.firstCells, loadCells, hle, storeCells]
    | some ad =>
      obtain ⟨v', w', h4, h5, h6, _⟩ := run_append_own_at (P := Tryz.prog) w B 61 ty 5 i _ 1 1 Tryz.underlying61 hi h3 h1 h2 rfl (by decide) v n _ ho ad 0 c [] rfl (fun j u h => by simp at h) (fun u h => by cases h) (by simp only [maxLen]; omega) (by omega) hB
      exact ⟨v', w', h4, by simpa using h5, h6⟩
  · obtain ⟨v', w', h4, h5, h6, _⟩ := run_append_own_at (P := Tryz.prog) w B 61 ty 5 i _ 1 1 Tryz.underlying61 hi h3 h1 h2 rfl (by decide) v n _ ho ⟨b, off, none⟩ m c (ys.map vf) (by rw [List.length_map]; omega)
      (fun j u hv => by
        simp only [List.getElem?_map, Option.map_eq_some_iff] at hv
        obtain ⟨x, hx1, rfl⟩ := hv
        have hj : j < ys.length := (List.getElem?_eq_some_iff.1 hx1).1
        have e : at8 ys j = x := by simp [at8, hx1]
        have hadd : (⟨b, off, none⟩ : Addr).add j = ⟨b, off + j, none⟩ := by unfold Addr.add; split <;> simp_all
        rw [hadd, hy j hj, e]; rfl) (fun u hv => by
        simp only [List.mem_map] at hv
        obtain ⟨x, _, rfl⟩ := hv
        rfl) (by simp only [maxLen]; omega) (by omega) hB
    exact ⟨v', w', h4, by rw [List.map_append]; exact h5, h6⟩
theorem ownB_slice {w : World} {B n : Nat} {v : Value} {zs : List F} (ho : w.ownsRow B 5 1 v n (zs.map vf)) : ∃ a cap, v = .slice a n cap ∧ Row8 w a zs ∧ n = zs.length ∧ (a = none → cap = 0) := by
  have hl := ho.1
  rw [List.length_map] at hl
  rcases ho.2 with ⟨rfl, e⟩ | ⟨g, cap, cur, rfl, h2⟩
  · exact ⟨none, 0, by rw [e], .inl (List.eq_nil_of_length_eq_zero (by omega)), by omega, fun _ => rfl⟩
  · refine ⟨_, _, rfl, .inr ⟨g, 0, rfl, fun j hj => ?_⟩, by omega, fun h => by cases h⟩
    rw [Nat.zero_add, ho.cellAt j (by omega), List.getElem?_map, List.getElem?_eq_getElem hj]
    simp [at8, hj, vf]
theorem own_mono {w : World} {B B' size n : Nat} {v : Value} {e : TypeId} {xs : List Value} (h : w.ownsRow B e size v n xs) (hb : B' ≤ B) : w.ownsRow B' e size v n xs :=
  ⟨h.1, h.2.imp id fun ⟨g, cap, cur, h1, h2, h3⟩ => ⟨g, cap, cur, h1, Nat.le_trans hb h2, h3⟩⟩
theorem rows_cap_later {w w' : World} {a : Option Addr} {L : List (List F)} (hX : Rows8 w a L) (hb : Below w.heap.size w w')
    (hcp : ∀ b off, a = some ⟨b, off, none⟩ → ∀ j n a' cap', w.cell? ⟨b, off + j, none⟩ = some (.slice a' n cap') → j < L.length → a' = none → cap' = 0) :
    ∀ b off, a = some ⟨b, off, none⟩ → ∀ j n a' cap', w'.cell? ⟨b, off + j, none⟩ = some (.slice a' n cap') → j < L.length → a' = none → cap' = 0 := by
  intro b off e j n a' cap' hc hj ha
  rcases hX with e0 | ⟨b2, off2, e2, hrows⟩
  · rw [e0] at hj; simp at hj
  · rw [e] at e2
    cases e2
    obtain ⟨a1, cap1, h1, _⟩ := hrows j _ (List.getElem?_eq_getElem hj)
    have h2 := cell_later hb h1
    rw [hc] at h2
    simp only [Option.some.injEq, Value.slice.injEq] at h2
    obtain ⟨q1, q2, q3⟩ := h2
    rw [q3]
    exact hcp b off e j _ a1 cap1 h1 hj (by rw [← q1]; exact ha)
end Go.Proofs.YtjmbpldkggbdlaaGreatDoor

/- What the document's own Parity and Generator answer, of all legal numbers; nothing that was there turns. -/
namespace Go.Proofs.YtjmbpldkggbdlaaGreatDoor
open Go.RowKit Gf
set_option linter.unusedVariables false
set_option maxRecDepth 20000
theorem rcy_inv (w : World) {s j : Nat} {x : F} (hx : x = ga (elN s) (elN j)) (hs : s < 256) (hj : j < 256) (hne : s ≠ j) :
    Calls Tryz.prog 105 #[.int .u8 (x.toNat : Int)] w fun e w' => e = .returned (.tuple #[.int .u8 ((cyN s j).toNat : Int), .bool true]) ∧ w = w' := by
  subst hx
  exact rinv_yes (ga_ne fun e => hne (elN_inj hs hj e)) w
theorem xor_el64 {s j : Nat} (hs : s < 256) (hj : j < 256) : bits .xor .i64 (s : Int) (j : Int) = ((ga (elN s) (elN j)).toNat : Int) := by
  rw [i64_xor_nat s j (by omega) (by omega), F.val_add, elN, elN, toNat_of hs, toNat_of hj]
set_option maxHeartbeats 4000000 in
theorem rparity_F (k r : Nat) (w : World) (h1 : 1 ≤ k) (h2 : 2 ≤ r) (h3 : k + r ≤ 16) :
    Calls Tryz.prog 80 #[.int .i64 k, .int .i64 r] w fun e w' => ∃ g m, e = .returned (.agg #[.int .i64 r, .int .i64 k, .slice (some ⟨g, 0, none⟩) m m]) ∧ m = r * k ∧ w.heap.size ≤ g ∧
      w'.heap[g]? = some (.cells (vfs (parM k r)) 5 (0, 0)) ∧ Below w.heap.size w w' := by
  go_enter Tryz.func80, Tryz.ntmps80
  go_wp2_with fail
  refine Calls.mono (rzero_F r k _ (by omega) (by omega)) ?_
  rintro e w2 ⟨g, m, rfl, hm, hg, hh, hb2⟩
  have hA := holds_later (holds_new (holds_nil w) #[.int .i64 0, .int .i64 0, .slice none 0 0] 63) hb2
  have z0 := ltHeap (holds_at hA 0 rfl)
  have zg : g < w2.heap.size := ltHeap hh
  simp only [World.size_alloc] at hg
  have HM : Hid _ := hm
  have HB' : Hid (Below w.heap.size w w2) := ((Below.refl w.heap.size w).alloc (Nat.le_refl _) _).trans (hb2.mono (by simp))
  have hA := holds_new (holds_cons hA hh) #[.int .i64 r, .int .i64 k, .slice (some ⟨g, 0, none⟩) m m] 63
  have HA : Hid _ := hA
  have B4 : Hid (Below w.heap.size w (w2.alloc (.cells #[.int .i64 r, .int .i64 k, .slice (some ⟨g, 0, none⟩) m m] 63))) := HB'.out.alloc (by omega) _
  clear hm hh hb2 hA HB'
  go_wp2
  generalize hM : w2.heap.size = M at *
  generalize (w2.alloc (.cells #[.int .i64 r, .int .i64 k, .slice (some ⟨g, 0, none⟩) m m] 63)) = W3 at *
  clear hM
  go_loopw [6] (fun i wr => ∃ a : Nat, a ≤ r ∧ i = .int .i64 a ∧ W3.grownBy wr (some g) ∧ wr.heap[g]? = some (.cells (vfs (gridP k (fun i j => cyN (k + i) j) r a 0)) 5 (0, 0))) (fun i _ => r - (intOf i).toNat)
  case atStart => exact ⟨0, by omega, rfl, World.grownBy.refl _ _, by rw [← gridP_zero]; exact holds_at HA.out 1 rfl⟩
  case round =>
    obtain ⟨a, ha, rfl, hgb, hs⟩ := hrel
    have HGB : Hid _ := hgb
    have HS : Hid _ := hs
    by_cases hlt : a < r
    · clear hgb hs
      go_wp2
      go_loopw [7] (fun i wq => ∃ j : Nat, j ≤ k ∧ i = .int .i64 j ∧ W3.grownBy wq (some g) ∧ wq.heap[g]? = some (.cells (vfs (gridP k (fun i j => cyN (k + i) j) r a j)) 5 (0, 0))) (fun i _ => k - (intOf i).toNat)
      case atStart => exact ⟨0, by omega, rfl, HGB.out, HS.out⟩
      case round =>
        obtain ⟨j, hj, rfl, hgb, hs⟩ := hrel
        by_cases hltj : j < k
        · have c1 : ∀ u, W3.grownBy u (some g) → u.cell? ⟨M, 2, none⟩ = some (.slice (some ⟨g, 0, none⟩) m m) := fun u h => cellAt (grown_block h (holds_at HA.out 0 rfl) (by omega)) 2 _ rfl
          obtain ⟨p, hp⟩ : ∃ p, p = a * k := ⟨_, rfl⟩
          have h1' := place_lt (c := k) hlt hltj
          have m1 : (a : Int) * (k : Int) = (p : Int) := by rw [hp]; simp
          have e1 : p + j < m := by rw [hp, HM.out]; exact h1'
          have n1 : m ≤ 4096 := by have := mul_small (r := r) (c := k) (by omega) (by omega); have := HM.out; have e : (r : Int) * (k : Int) = ((r * k : Nat) : Int) := by simp
                                   omega
          obtain ⟨x, hx⟩ : ∃ x, x = ga (elN (k + a)) (elN j) := ⟨_, rfl⟩
          have ex : bits .xor .i64 ((k : Int) + a) (j : Int) = (x.toNat : Int) := by
            have := xor_el64 (s := k + a) (j := j) (by omega) (by omega)
            rw [hx, ← this]; simp
          have hxb : (x.toNat : Int) < 256 := by have := bl x; omega
          have HX : Hid _ := hx
          have hs' : (wr.drew).heap[g]? = some (.cells (vfs (gridP k (fun i j => cyN (k + i) j) r a j)) 5 (0, 0)) := hs
          have c6 := cellAt hs' _ _ (vfs_get _ _ (show p + j < (gridP k (fun i j => cyN (k + i) j) r a j).length by rw [gridP_len, ← HM.out]; exact e1))
          have c7 : (wr.drew).frozen? ⟨g, p + j, none⟩ = false := frozen_of_row _ _ _ _ _ hs'
          have HS2 : Hid _ := hs'
          have HT : Hid _ := gridP_step (f := fun i j => cyN (k + i) j) hlt hltj
          have HP : Hid _ := hp
          have HGB2 : Hid _ := hgb
          have w1 : IntKind.i64.wrap (p : Int) = p := IntWalk.i64_in _ (by omega)
          have w2 : IntKind.i64.wrap ((p : Int) + j) = (p : Int) + j := IntWalk.i64_in _ (by omega)
          have w3 : IntKind.i64.wrap ((k : Int) + a) = (k : Int) + a := IntWalk.i64_in _ (by omega)
          have w4 : IntKind.u8.wrap (x.toNat : Int) = x.toNat := by have := bl x; exact IntWalk.u8_in _ (by omega)
          have w5 : 0 ≤ (p : Int) + j ∧ (p : Int) + j < m := by omega
          have w6 : ((p : Int) + j).toNat = p + j := by omega
          clear hs hs' hx hp h1' hgb
          go_wp2
          -- REGION
          refine wp_region_noPanic ?_
          refine wp_region_held_drew (S := fun u => W3.grownBy u (some g)) (by kernel_rfl) ?_ (fun hHeld => ?_)
          · exact grownBy_drew HGB2.out
          refine wpAnyH_take (i := 0) (oi := { dst := some 22, op := Op.fieldAddr 63 (Operand.tmp 5) 2, type := 0, pos := "ref.go:27", after := #[], guard := none }) (v := ?_) rfl (by kernel_rfl) (by kernel_rfl) (by kernel_rfl) (fun _ _ _ h => h) (Or.inl ⟨by rfl, ?_⟩) hHeld ?_
          rotate_left
          · intro u hSw
            go_simp
            try with_reducible rfl
          try simp only [Act.put, List.setIfInBounds_toArray, List.set_cons_zero, List.set_cons_succ]
          refine wpAnyH_take (i := 1) (oi := { dst := some 23, op := Op.load 61 (Operand.tmp 22), type := 61, pos := "ref.go:27", after := #[{ on := 0, ground := Ground.data }], guard := none }) (v := ?_) rfl (by kernel_rfl) (by kernel_rfl) (by kernel_rfl) (fun _ _ _ h => h) (Or.inl ⟨by rfl, ?_⟩) hHeld ?_
          rotate_left
          · intro u hSw
            have c9 := c1 u hSw
            go_simp
            try with_reducible rfl
          try simp only [Act.put, List.setIfInBounds_toArray, List.set_cons_zero, List.set_cons_succ]
          refine wpAnyH_take (i := 2) (oi := { dst := some 24, op := Op.move (Operand.tmp 6), type := 3, pos := "ref.go:27", after := #[], guard := none }) (v := ?_) rfl (by kernel_rfl) (by kernel_rfl) (by kernel_rfl) (fun _ _ _ h => h) (Or.inl ⟨by rfl, ?_⟩) hHeld ?_
          rotate_left
          · intro u hSw
            go_simp
            try with_reducible rfl
          try simp only [Act.put, List.setIfInBounds_toArray, List.set_cons_zero, List.set_cons_succ]
          refine wpAnyH_take (i := 3) (oi := { dst := some 25, op := Op.move (Operand.tmp 0), type := 3, pos := "ref.go:27", after := #[], guard := none }) (v := ?_) rfl (by kernel_rfl) (by kernel_rfl) (by kernel_rfl) (fun _ _ _ h => h) (Or.inl ⟨by rfl, ?_⟩) hHeld ?_
          rotate_left
          · intro u hSw
            go_simp
            try with_reducible rfl
          try simp only [Act.put, List.setIfInBounds_toArray, List.set_cons_zero, List.set_cons_succ]
          refine wpAnyH_take (i := 4) (oi := { dst := some 26, op := Op.binOp BinOp.mul 3 (Operand.tmp 24) (Operand.tmp 25) 3, type := 3, pos := "ref.go:27", after := #[{ on := 2, ground := Ground.data }, { on := 3, ground := Ground.data }], guard := none }) (v := ?_) rfl (by kernel_rfl) (by kernel_rfl) (by kernel_rfl) (fun _ _ _ h => h) (Or.inl ⟨by rfl, ?_⟩) hHeld ?_
          rotate_left
          · intro u hSw
            go_simp
            try with_reducible rfl
          try simp only [Act.put, List.setIfInBounds_toArray, List.set_cons_zero, List.set_cons_succ]
          refine wpAnyH_take (i := 5) (oi := { dst := some 27, op := Op.move (Operand.tmp 7), type := 3, pos := "ref.go:27", after := #[], guard := none }) (v := ?_) rfl (by kernel_rfl) (by kernel_rfl) (by kernel_rfl) (fun _ _ _ h => h) (Or.inl ⟨by rfl, ?_⟩) hHeld ?_
          rotate_left
          · intro u hSw
            go_simp
            try with_reducible rfl
          try simp only [Act.put, List.setIfInBounds_toArray, List.set_cons_zero, List.set_cons_succ]
          refine wpAnyH_take (i := 6) (oi := { dst := some 28, op := Op.binOp BinOp.add 3 (Operand.tmp 26) (Operand.tmp 27) 3, type := 3, pos := "ref.go:27", after := #[{ on := 4, ground := Ground.data }, { on := 5, ground := Ground.data }], guard := none }) (v := ?_) rfl (by kernel_rfl) (by kernel_rfl) (by kernel_rfl) (fun _ _ _ h => h) (Or.inl ⟨by rfl, ?_⟩) hHeld ?_
          rotate_left
          · intro u hSw
            go_simp
            try with_reducible rfl
          try simp only [Act.put, List.setIfInBounds_toArray, List.set_cons_zero, List.set_cons_succ]
          refine wpAnyH_take (i := 7) (oi := { dst := some 29, op := Op.move (Operand.tmp 0), type := 3, pos := "ref.go:27", after := #[], guard := none }) (v := ?_) rfl (by kernel_rfl) (by kernel_rfl) (by kernel_rfl) (fun _ _ _ h => h) (Or.inl ⟨by rfl, ?_⟩) hHeld ?_
          rotate_left
          · intro u hSw
            go_simp
            try with_reducible rfl
          try simp only [Act.put, List.setIfInBounds_toArray, List.set_cons_zero, List.set_cons_succ]
          refine wpAnyH_take (i := 8) (oi := { dst := some 30, op := Op.move (Operand.tmp 6), type := 3, pos := "ref.go:27", after := #[], guard := none }) (v := ?_) rfl (by kernel_rfl) (by kernel_rfl) (by kernel_rfl) (fun _ _ _ h => h) (Or.inl ⟨by rfl, ?_⟩) hHeld ?_
          rotate_left
          · intro u hSw
            go_simp
            try with_reducible rfl
          try simp only [Act.put, List.setIfInBounds_toArray, List.set_cons_zero, List.set_cons_succ]
          refine wpAnyH_take (i := 9) (oi := { dst := some 31, op := Op.binOp BinOp.add 3 (Operand.tmp 29) (Operand.tmp 30) 3, type := 3, pos := "ref.go:27", after := #[{ on := 7, ground := Ground.data }, { on := 8, ground := Ground.data }], guard := none }) (v := ?_) rfl (by kernel_rfl) (by kernel_rfl) (by kernel_rfl) (fun _ _ _ h => h) (Or.inl ⟨by rfl, ?_⟩) hHeld ?_
          rotate_left
          · intro u hSw
            go_simp
            try with_reducible rfl
          try simp only [Act.put, List.setIfInBounds_toArray, List.set_cons_zero, List.set_cons_succ]
          refine wpAnyH_take (i := 10) (oi := { dst := some 32, op := Op.move (Operand.tmp 7), type := 3, pos := "ref.go:27", after := #[], guard := none }) (v := ?_) rfl (by kernel_rfl) (by kernel_rfl) (by kernel_rfl) (fun _ _ _ h => h) (Or.inl ⟨by rfl, ?_⟩) hHeld ?_
          rotate_left
          · intro u hSw
            go_simp
            try with_reducible rfl
          try simp only [Act.put, List.setIfInBounds_toArray, List.set_cons_zero, List.set_cons_succ]
          refine wpAnyH_take (i := 11) (oi := { dst := some 33, op := Op.binOp BinOp.xor 3 (Operand.tmp 31) (Operand.tmp 32) 3, type := 3, pos := "ref.go:27", after := #[{ on := 9, ground := Ground.data }, { on := 10, ground := Ground.data }], guard := none }) (v := ?_) rfl (by kernel_rfl) (by kernel_rfl) (by kernel_rfl) (fun _ _ _ h => h) (Or.inl ⟨by rfl, ?_⟩) hHeld ?_
          rotate_left
          · intro u hSw
            go_simp
            try with_reducible rfl
          try simp only [Act.put, List.setIfInBounds_toArray, List.set_cons_zero, List.set_cons_succ]
          refine wpAnyH_take (i := 12) (oi := { dst := some 34, op := Op.convert 3 5 (Operand.tmp 33), type := 5, pos := "ref.go:27", after := #[{ on := 11, ground := Ground.data }], guard := none }) (v := ?_) rfl (by kernel_rfl) (by kernel_rfl) (by kernel_rfl) (fun _ _ _ h => h) (Or.inl ⟨by rfl, ?_⟩) hHeld ?_
          rotate_left
          · intro u hSw
            go_simp
            try with_reducible rfl
          try simp only [Act.put, List.setIfInBounds_toArray, List.set_cons_zero, List.set_cons_succ]
          refine wpAnyH_ready (rs := [13]) (by kernel_rfl) (by simp) ?_
          refine AllReadyH.cons (o := { dst := some 35, op := Op.call { callee := Callee.value (Operand.func 105), args := #[Operand.tmp 34], argTypes := #[5] }, type := 145, pos := "ref.go:27", after := #[{ on := 12, ground := Ground.data }], guard := none }) rfl (fun K hK => ?_) AllReadyH.nil
          go_simp
          refine Calls.mono (rcy_inv _ HX.out (by omega) (by omega) (by omega)) ?_
          rintro e w' ⟨rfl, rfl⟩
          go_wp2_with fail
          refine hK.out _ _ ?_ (fun hHeld => ?_)
          · exact grownBy_drew HGB2.out
          clear hK K
          try simp only [Act.put, List.setIfInBounds_toArray, List.set_cons_zero, List.set_cons_succ]
          refine wpAnyH_take (i := 14) (oi := { dst := some 21, op := Op.move (Operand.tmp 35), type := 145, pos := "ref.go:27", after := #[{ on := 13, ground := Ground.data }], guard := none }) (v := ?_) rfl (by kernel_rfl) (by kernel_rfl) (by kernel_rfl) (fun _ _ _ h => h) (Or.inl ⟨by rfl, ?_⟩) hHeld ?_
          rotate_left
          · intro u hSw
            go_simp
            try with_reducible rfl
          try simp only [Act.put, List.setIfInBounds_toArray, List.set_cons_zero, List.set_cons_succ]
          refine wpAnyH_take (i := 15) (oi := { dst := some 36, op := Op.extract (Operand.tmp 21) 0, type := 5, pos := "ref.go:27", after := #[{ on := 14, ground := Ground.data }], guard := none }) (v := ?_) rfl (by kernel_rfl) (by kernel_rfl) (by kernel_rfl) (fun _ _ _ h => h) (Or.inl ⟨by rfl, ?_⟩) hHeld ?_
          rotate_left
          · intro u hSw
            go_simp
            try with_reducible rfl
          try simp only [Act.put, List.setIfInBounds_toArray, List.set_cons_zero, List.set_cons_succ]
          refine wpAnyH_take (i := 16) (oi := { dst := some 37, op := Op.extract (Operand.tmp 21) 1, type := 4, pos := "ref.go:27", after := #[{ on := 14, ground := Ground.data }, { on := 18, ground := Ground.gcOnly Departure.lateStores }], guard := none }) (v := ?_) rfl (by kernel_rfl) (by kernel_rfl) (by kernel_rfl) (fun _ _ _ h => h) (Or.inl ⟨by rfl, ?_⟩) hHeld ?_
          rotate_left
          · intro u hSw
            go_simp
            try with_reducible rfl
          try simp only [Act.put, List.setIfInBounds_toArray, List.set_cons_zero, List.set_cons_succ]
          refine wpAnyH_take (i := 17) (oi := { dst := some 38, op := Op.indexAddr 61 (Operand.tmp 23) (Operand.tmp 28), type := 0, pos := "ref.go:27", after := #[{ on := 1, ground := Ground.data }, { on := 6, ground := Ground.data }, { on := 0, ground := Ground.phase }, { on := 1, ground := Ground.phase }, { on := 2, ground := Ground.phase }, { on := 3, ground := Ground.phase }, { on := 4, ground := Ground.phase }, { on := 5, ground := Ground.phase }, { on := 6, ground := Ground.phase }, { on := 7, ground := Ground.phase }, { on := 8, ground := Ground.phase }, { on := 9, ground := Ground.phase }, { on := 10, ground := Ground.phase }, { on := 11, ground := Ground.phase }, { on := 12, ground := Ground.phase }, { on := 13, ground := Ground.phase }, { on := 14, ground := Ground.phase }, { on := 15, ground := Ground.phase }, { on := 16, ground := Ground.textOnly Departure.lateStores }], guard := none }) (v := ?_) rfl (by kernel_rfl) (by kernel_rfl) (by kernel_rfl) (fun _ _ _ h => h) (Or.inl ⟨by rfl, ?_⟩) hHeld ?_
          rotate_left
          · intro u hSw
            go_simp
            try with_reducible rfl
          try simp only [Act.put, List.setIfInBounds_toArray, List.set_cons_zero, List.set_cons_succ]
          refine wpAnyH_ready (rs := [18]) (by kernel_rfl) (by simp) ?_
          refine AllReadyH.cons (o := { dst := none, op := Op.store 5 (Operand.tmp 38) (Operand.tmp 36), type := 0, pos := "ref.go:27", after := #[{ on := 17, ground := Ground.data }, { on := 15, ground := Ground.data }, { on := 13, ground := Ground.chain }, { on := 0, ground := Ground.phase }, { on := 1, ground := Ground.phase }, { on := 2, ground := Ground.phase }, { on := 3, ground := Ground.phase }, { on := 4, ground := Ground.phase }, { on := 5, ground := Ground.phase }, { on := 6, ground := Ground.phase }, { on := 7, ground := Ground.phase }, { on := 8, ground := Ground.phase }, { on := 9, ground := Ground.phase }, { on := 10, ground := Ground.phase }, { on := 11, ground := Ground.phase }, { on := 12, ground := Ground.phase }, { on := 13, ground := Ground.phase }, { on := 14, ground := Ground.phase }, { on := 15, ground := Ground.phase }, { on := 16, ground := Ground.textOnly Departure.lateStores }], guard := none }) rfl (fun K hK => ?_) AllReadyH.nil
          go_simp
          refine hK.out _ _ ?_ (fun hHeld => ?_)
          · exact grownBy_setCell (grownBy_drew HGB2.out) _
          clear hK K
          try simp only [Act.put, List.setIfInBounds_toArray, List.set_cons_zero, List.set_cons_succ]
          refine wpAnyH_done (by kernel_rfl) ?_ _
          refine NoPanic.normal ?_
          -- END REGION
          go_wp2
          refine ⟨⟨j + 1, by omega, by go_num, grownBy_setCell (grownBy_drew HGB2.out) _, ?_⟩, by simp [intOf]; omega⟩
          show (wr.setCell ⟨g, p + j, none⟩ (.int .u8 ((cyN (k + a) j).toNat : Int))).heap[g]? = _
          rw [heap_setCell_same wr _ _ _ _ _ HS2.out, vfs_set, ← HT.out, HP.out]
        · obtain rfl : j = k := by omega
          rw [gridP_row] at hs
          have HGB2 : Hid _ := hgb
          have HS4 : Hid _ := hs
          clear hgb hs
          go_wp2
          exact ⟨⟨a + 1, by omega, by go_num, HGB2.out, HS4.out⟩, by simp [intOf]; omega⟩
    · obtain rfl : a = r := by omega
      rw [gridP_done] at hs
      have HGB2 : Hid _ := hgb
      have HS2 : Hid _ := hs
      have k0 := grown_block hgb (holds_at HA.out 0 rfl) (by omega)
      have k1 := grown_block hgb (holds_at HA.out 2 rfl) (by omega)
      have c2 := cellAt k0 0 _ rfl
      have c3 := cellAt k0 1 _ rfl
      have c7 := cellAt k0 2 _ rfl
      have c4 := cellAt k1 0 _ rfl
      have c5 := cellAt k1 1 _ rfl
      have c6 := cellAt k1 2 _ rfl
      have d4 : wr.frozen? ⟨w.heap.size, 0, none⟩ = false := frozen_of_row _ _ _ _ _ k1
      have d5 : wr.frozen? ⟨w.heap.size, 1, none⟩ = false := frozen_of_row _ _ _ _ _ k1
      have d6 : wr.frozen? ⟨w.heap.size, 2, none⟩ = false := frozen_of_row _ _ _ _ _ k1
      clear k0 k1 hgb hs
      go_wp2
      refine bodyPost_ret (v := .agg #[.int .i64 a, .int .i64 k, .slice (some ⟨g, 0, none⟩) m m]) (by simp [results, Tryz.results80, go_sem, c4, c5, c6]) rfl ⟨g, m, rfl, HM.out, by omega, ?_, ?_⟩
      · rw [heap_setCell_other _ _ _ _ (by show g ≠ w.heap.size; omega), heap_setCell_other _ _ _ _ (by show g ≠ w.heap.size; omega), heap_setCell_other _ _ _ _ (by show g ≠ w.heap.size; omega)]
        exact HS2.out
      · exact (((below_grown B4.out HGB2.out (by omega)).setCell (Nat.le_refl _) _).setCell (Nat.le_refl _) _).setCell (Nat.le_refl _) _
end Go.Proofs.YtjmbpldkggbdlaaGreatDoor

/- What the document's own Row of package half's chapter answers, of all legal numbers; nothing that was there turns. -/
namespace Go.Proofs.YtjmbpldkggbdlaaGreatDoor
open Go.RowKit Gf
set_option linter.unusedVariables false
set_option maxRecDepth 20000
theorem half_unit {k c s p : Nat} {car : Nat → Nat} (hc : c = 2 * k) (hs : s < k) (hp : p < 2) : (zeros c).set (2 * s + p) 1 = rowF c (halfF k car (2 * s + p)) := by
  rw [colP_zero c (halfF k car (2 * s + p)), colP, rowF_set]
  refine rowF_congr fun v hv => ?_
  by_cases e : v = 2 * s + p
  · rw [if_pos e, e]
    unfold halfF
    rw [if_pos rfl, show (2 * s + p) / 2 = s by omega, genF, if_pos hs, if_pos rfl]
  · rw [if_neg e, if_neg (Nat.not_lt_zero v)]
    simp only [halfF]
    rw [show (2 * s + p) / 2 = s by omega]
    by_cases h2 : v % 2 = (2 * s + p) % 2
    · rw [if_pos h2, genF, if_pos hs, if_neg (by omega)]
    · rw [if_neg h2, if_neg (by omega)]
set_option maxHeartbeats 4000000 in
theorem rrow_unit (k r h s p : Nat) (w : World) (h1 : 1 ≤ k) (h2 : 2 ≤ r) (h3 : k + r ≤ 16) (hh : h = 2 * s + p) (hp : p < 2) (hs : s < k) :
    Calls Tryz.prog 61 #[.int .i64 k, .int .i64 r, .int .i64 h] w fun e w' => ∃ g n, e = .returned (.slice (some ⟨g, 0, none⟩) n n) ∧ n = 2 * k ∧ w.heap.size ≤ g ∧
      w'.heap[g]? = some (.cells (vfs (rowF (2 * k) (halfF k (carN (groupN k r)) h))) 5 (0, 0)) ∧ Below w.heap.size w w' := by
  obtain ⟨c, hc⟩ : ∃ c, c = 2 * k := ⟨_, rfl⟩
  have ec : (2 : Int) * (k : Int) = c := by omega
  have hu := half_unit (car := carN (groupN k r)) hc hs hp
  rw [← hc, hh]
  rw [← hh]
  rw [← hh] at hu
  have HU : Hid _ := hu
  have e1 : (h : Int) / 2 = s := by omega
  have e2 : (h : Int) % 2 = p := by omega
  have hlt : h < c := by omega
  have hc32 : c ≤ 32 := by omega
  have hmk := run_make8 c (by omega)
  have HH : Hid _ := hh
  clear hc hu hh
  go_enter Tryz.func61, Tryz.ntmps61
  have B1 := heap_alloc_last w (.cells (vfs (zeros c)) 5)
  have HB : Hid _ := (Below.refl w.heap.size w).alloc (Nat.le_refl _) (.cells (vfs (zeros c)) 5)
  have c5 := cellAt B1 h _ (vfs_get _ _ (by rw [zeros_len]; exact hlt))
  have c6 := frozen_of_row _ w.heap.size h _ _ B1
  have HB1 : Hid _ := B1
  clear B1
  go_wp2
  go_ret
  refine ⟨w.heap.size, c, rfl, rfl, Nat.le_refl _, ?_, (Below.refl w.heap.size w).alloc (Nat.le_refl _) _⟩
  rw [← HU.out, ← vfs_set]
  exact heap_alloc_last w _
theorem parM_at {k r i j : Nat} (hi : i < r) (hj : j < k) : at8 (parM k r) (i * k + j) = cyN (k + i) j := at8_grid hi hj
theorem half_even {k h i q p : Nat} {car : Nat → Nat} (hh : h = 2 * (k + i) + p) (hp : p < 2) : halfF k car h (2 * q + p) = cyN (k + i) q := by
  simp only [halfF]
  rw [if_pos (by omega), show h / 2 = k + i by omega, show (2 * q + p) / 2 = q by omega, genF, if_neg (by omega)]
theorem half_odd {k h i q : Nat} {car : Nat → Nat} (hh : h = 2 * (k + i)) : halfF k car h (2 * q + 1) = 0 := by
  simp only [halfF]
  rw [if_neg (by omega), if_neg (by omega)]
theorem half_car {k h i q : Nat} {car : Nat → Nat} (hh : h = 2 * (k + i) + 1) : halfF k car h (2 * q) = if car q = i then 1 else 0 := by
  simp only [halfF]
  rw [if_neg (by omega), show h / 2 = k + i by omega, show 2 * q / 2 = q by omega]
  by_cases e : car q = i
  · rw [if_pos e, if_pos ⟨by omega, by omega, by omega⟩]
  · rw [if_neg e, if_neg (fun h => e (by omega))]
theorem colP_at {r j : Nat} {f : Nat → F} (h : j < r) (k : Nat) (hk : k ≤ j) : at8 (colP r f k) j = 0 := by
  rw [colP, at8_rowF h, if_neg (by omega)]
set_option maxHeartbeats 4000000 in
theorem rrow_0 (k r h i : Nat) (w : World) (h1 : 1 ≤ k) (h2 : 2 ≤ r) (h3 : k + r ≤ 16) (hh : h = 2 * (k + i) + 0) (hi : i < r) :
    Calls Tryz.prog 61 #[.int .i64 k, .int .i64 r, .int .i64 h] w fun e w' => ∃ g n, e = .returned (.slice (some ⟨g, 0, none⟩) n n) ∧ n = 2 * k ∧ w.heap.size ≤ g ∧
      w'.heap[g]? = some (.cells (vfs (rowF (2 * k) (halfF k (carN (groupN k r)) h))) 5 (0, 0)) ∧ Below w.heap.size w w' := by
  obtain ⟨c, hc⟩ : ∃ c, c = 2 * k := ⟨_, rfl⟩
  have ec : (2 : Int) * (k : Int) = c := by omega
  have HCA : Hid _ := fun j w (hj : j ≤ 1000) => rcarrier_F k r j w h1 h2 h3 hj
  generalize carN (groupN k r) = car at *
  rw [← hc]
  obtain ⟨s, hs⟩ : ∃ s, s = k + i := ⟨_, rfl⟩
  have e1 : (h : Int) / 2 = s := by omega
  have e2 : (h : Int) % 2 = 0 := by omega
  have e3 : (s : Int) - k = i := by omega
  have hks : (k : Int) ≤ s := by omega
  have hs16 : s ≤ 16 := by omega
  have hh33 : h ≤ 33 := by omega
  obtain ⟨ik, hik⟩ : ∃ ik, ik = i * k := ⟨_, rfl⟩
  have e4 : (i : Int) * k = ik := by rw [hik]; simp
  have hik2 : ik + k ≤ 256 := by
    have h4 := Nat.mul_le_mul (show i + 1 ≤ 16 by omega) (show k ≤ 16 by omega)
    rw [Nat.succ_mul] at h4; omega
  have hikr : ik + k ≤ r * k := by
    have h4 := Nat.mul_le_mul_right k (show i + 1 ≤ r by omega)
    rw [Nat.succ_mul] at h4; omega
  have hc32 : c ≤ 32 := by omega
  have hmk := run_make8 c (by omega)
  have HH : Hid _ := hh
  have HC : Hid _ := hc
  have HIK : Hid _ := hik
  have HIKR : Hid _ := hikr
  have HI : Hid _ := hi
  clear hc hh hs hik hikr hi
  go_enter Tryz.func61, Tryz.ntmps61
  go_wp2_with fail
  have B1 := heap_alloc_last w (.cells (vfs (zeros c)) 5)
  have HB : Hid _ := (Below.refl w.heap.size w).alloc (Nat.le_refl _) (.cells (vfs (zeros c)) 5)
  have HA : Hid (Holds (w.alloc (.cells (vfs (zeros c)) 5)) [(w.heap.size, .cells (vfs (zeros c)) 5 (0, 0))]) := holds_cons (holds_nil _) B1
  clear B1
  refine Calls.mono (rparity_F k r _ h1 h2 h3) ?_
  rintro e w2 ⟨g, m, rfl, hm, hg, hh2, hb2⟩
  have HA2 : Hid _ := holds_new (holds_cons (holds_later HA.out hb2) hh2) #[.int .i64 r, .int .i64 k, .slice (some ⟨g, 0, none⟩) m m] 63
  have hB2 := HB.out.trans (hb2.mono HB.out.size)
  have HB2 : Hid _ := hB2.alloc hB2.size (.cells #[.int .i64 r, .int .i64 k, .slice (some ⟨g, 0, none⟩) m m] 63)
  have HM : Hid _ := hm
  have hz := hB2.size
  have HGN : Hid (w.heap.size < g) := by simp only [World.size_alloc] at hg; exact hg
  clear hb2 hh2 hm hB2 HA HB hmk hg
  go_wp2
  generalize hMM : w2.heap.size = M at *
  generalize (w2.alloc (.cells #[.int .i64 r, .int .i64 k, .slice (some ⟨g, 0, none⟩) m m] 63)) = W3 at *
  clear hMM
  obtain ⟨f, hf⟩ : ∃ f, f = halfF k car h := ⟨_, rfl⟩
  have HF : Hid _ := hf
  clear hf
  go_loopw [11] (fun v wr => ∃ j : Nat, j ≤ k ∧ v = .int .i64 j ∧ Below w.heap.size w wr ∧ Holds wr [(M, .cells #[.int .i64 r, .int .i64 k, .slice (some ⟨g, 0, none⟩) m m] 63 (0, 0)), (g, .cells (vfs (parM k r)) 5 (0, 0)), (w.heap.size, .cells (vfs (colP c f (2 * j))) 5 (0, 0))]) (fun v _ => k - (intOf v).toNat)
  case atStart => exact ⟨0, by omega, rfl, HB2.out, by rw [Nat.mul_zero, ← colP_zero]; exact HA2.out⟩
  case round =>
    obtain ⟨j, hj, rfl, hb, hh⟩ := hrel
    have HB : Hid _ := hb
    have HH1 : Hid _ := hh
    clear hb hh
    by_cases hlt : j < k
    · have c1 := cellAt (holds_at HH1.out 0 rfl) 2 _ rfl
      have hjc : 2 * j < c := by have := HC.out; omega
      have c2 := cellAt (holds_at HH1.out 2 rfl) (2 * j) _ (vfs_get _ _ (by rw [colP_len]; exact hjc))
      rw [colP_at hjc (2 * j) (by omega)] at c2
      have hc2 : (((0 : F).toNat : Nat) : Int) = 0 := rfl
      rw [hc2] at c2
      have c3 := frozen_of_row _ w.heap.size (2 * j) _ _ (holds_at HH1.out 2 rfl)
      have hpa : at8 (parM k r) (ik + j) = cyN (k + i) j := by rw [HIK.out]; exact parM_at HI.out hlt
      have c4 := cellAt (holds_at HH1.out 1 rfl) (ik + j) _ (vfs_get _ _ (by have := HIKR.out; rw [parM_len]; omega))
      rw [hpa] at c4
      have hx := xor_val 0 (cyN (k + i) j)
      rw [hc2, show ga 0 (cyN (k + i) j) = cyN (k + i) j from F.zero_add _] at hx
      have hfo : f (2 * j) = cyN (k + i) j := by rw [HF.out]; exact half_even (q := j) HH.out (by decide)
      rw [← hfo] at c4 hx
      have HFO : Hid _ := hfo
      clear hpa hc2 hfo
      have hjm : ik + j < m := by have := HIKR.out; rw [HM.out]; omega
      go_upto_region 10 with fail
      go_region
      have hL : (colP c f (2 * j)).set (2 * j) (f (2 * j)) = colP c f (2 * (j + 1)) := by
        rw [colP_step, colP_skip (by rw [HF.out]; exact half_odd HH.out)]
        rfl
      have k1 : (wr.setCell ⟨w.heap.size, 2 * j, none⟩ (.int .u8 ((f (2 * j)).toNat : Int))).drew.heap[w.heap.size]? = some (.cells (vfs (colP c f (2 * (j + 1)))) 5 (0, 0)) := by
        rw [← hL, ← vfs_set]
        exact heap_setCell_same _ _ _ _ _ _ (holds_at HH1.out 2 rfl)
      have kA : (wr.setCell ⟨w.heap.size, 2 * j, none⟩ (.int .u8 ((f (2 * j)).toNat : Int))).drew.heap[M]? = some (.cells #[.int .i64 r, .int .i64 k, .slice (some ⟨g, 0, none⟩) m m] 63 (0, 0)) := (heap_setCell_other _ _ _ _ (hkind_ne (holds_at HH1.out 0 rfl) (holds_at HH1.out 2 rfl) (by decide))).trans (holds_at HH1.out 0 rfl)
      have kG : (wr.setCell ⟨w.heap.size, 2 * j, none⟩ (.int .u8 ((f (2 * j)).toNat : Int))).drew.heap[g]? = some (.cells (vfs (parM k r)) 5 (0, 0)) := (heap_setCell_other _ _ _ _ (by have := HGN.out; show g ≠ w.heap.size; omega)).trans (holds_at HH1.out 1 rfl)
      have HBx : Hid _ := (HB.out.setCell (p := ⟨w.heap.size, 2 * j, none⟩) (Nat.le_refl _) (.int .u8 ((f (2 * j)).toNat : Int))).drew
      have HHx : Hid _ := holds_cons (holds_cons (holds_cons (holds_nil _) k1) kG) kA
      clear k1 kA kG c1 c2 c3 c4 hx
      generalize (wr.setCell ⟨w.heap.size, 2 * j, none⟩ (.int .u8 ((f (2 * j)).toNat : Int))).drew = wx at *
      go_wp2
      exact ⟨⟨j + 1, by omega, by go_num, HBx.out, HHx.out⟩, by simp [intOf]; omega⟩
    · obtain rfl : j = k := by omega
      have k1 := holds_at HH1.out 2 rfl
      rw [← HC.out, colP_done, HF.out] at k1
      have HK1 : Hid _ := k1
      clear k1
      go_wp2
      go_ret
      exact ⟨w.heap.size, c, rfl, rfl, Nat.le_refl _, HK1.out, HB.out⟩
set_option maxHeartbeats 4000000 in
theorem rrow_1 (k r h i : Nat) (w : World) (h1 : 1 ≤ k) (h2 : 2 ≤ r) (h3 : k + r ≤ 16) (hh : h = 2 * (k + i) + 1) (hi : i < r) :
    Calls Tryz.prog 61 #[.int .i64 k, .int .i64 r, .int .i64 h] w fun e w' => ∃ g n, e = .returned (.slice (some ⟨g, 0, none⟩) n n) ∧ n = 2 * k ∧ w.heap.size ≤ g ∧
      w'.heap[g]? = some (.cells (vfs (rowF (2 * k) (halfF k (carN (groupN k r)) h))) 5 (0, 0)) ∧ Below w.heap.size w w' := by
  obtain ⟨c, hc⟩ : ∃ c, c = 2 * k := ⟨_, rfl⟩
  have ec : (2 : Int) * (k : Int) = c := by omega
  have HCA : Hid _ := fun j w (hj : j ≤ 1000) => rcarrier_F k r j w h1 h2 h3 hj
  generalize carN (groupN k r) = car at *
  rw [← hc]
  obtain ⟨s, hs⟩ : ∃ s, s = k + i := ⟨_, rfl⟩
  have e1 : (h : Int) / 2 = s := by omega
  have e2 : (h : Int) % 2 = 1 := by omega
  have e3 : (s : Int) - k = i := by omega
  have hks : (k : Int) ≤ s := by omega
  have hs16 : s ≤ 16 := by omega
  have hh33 : h ≤ 33 := by omega
  obtain ⟨ik, hik⟩ : ∃ ik, ik = i * k := ⟨_, rfl⟩
  have e4 : (i : Int) * k = ik := by rw [hik]; simp
  have hik2 : ik + k ≤ 256 := by
    have h4 := Nat.mul_le_mul (show i + 1 ≤ 16 by omega) (show k ≤ 16 by omega)
    rw [Nat.succ_mul] at h4; omega
  have hikr : ik + k ≤ r * k := by
    have h4 := Nat.mul_le_mul_right k (show i + 1 ≤ r by omega)
    rw [Nat.succ_mul] at h4; omega
  have hc32 : c ≤ 32 := by omega
  have hmk := run_make8 c (by omega)
  have HH : Hid _ := hh
  have HC : Hid _ := hc
  have HIK : Hid _ := hik
  have HIKR : Hid _ := hikr
  have HI : Hid _ := hi
  clear hc hh hs hik hikr hi
  go_enter Tryz.func61, Tryz.ntmps61
  go_wp2_with fail
  have B1 := heap_alloc_last w (.cells (vfs (zeros c)) 5)
  have HB : Hid _ := (Below.refl w.heap.size w).alloc (Nat.le_refl _) (.cells (vfs (zeros c)) 5)
  have HA : Hid (Holds (w.alloc (.cells (vfs (zeros c)) 5)) [(w.heap.size, .cells (vfs (zeros c)) 5 (0, 0))]) := holds_cons (holds_nil _) B1
  clear B1
  refine Calls.mono (rparity_F k r _ h1 h2 h3) ?_
  rintro e w2 ⟨g, m, rfl, hm, hg, hh2, hb2⟩
  have HA2 : Hid _ := holds_new (holds_cons (holds_later HA.out hb2) hh2) #[.int .i64 r, .int .i64 k, .slice (some ⟨g, 0, none⟩) m m] 63
  have hB2 := HB.out.trans (hb2.mono HB.out.size)
  have HB2 : Hid _ := hB2.alloc hB2.size (.cells #[.int .i64 r, .int .i64 k, .slice (some ⟨g, 0, none⟩) m m] 63)
  have HM : Hid _ := hm
  have hz := hB2.size
  have HGN : Hid (w.heap.size < g) := by simp only [World.size_alloc] at hg; exact hg
  clear hb2 hh2 hm hB2 HA HB hmk hg
  go_wp2
  generalize hMM : w2.heap.size = M at *
  generalize (w2.alloc (.cells #[.int .i64 r, .int .i64 k, .slice (some ⟨g, 0, none⟩) m m] 63)) = W3 at *
  clear hMM
  obtain ⟨f, hf⟩ : ∃ f, f = halfF k car h := ⟨_, rfl⟩
  have HF : Hid _ := hf
  clear hf
  go_loopw [11] (fun v wr => ∃ j : Nat, j ≤ k ∧ v = .int .i64 j ∧ Below w.heap.size w wr ∧ Holds wr [(M, .cells #[.int .i64 r, .int .i64 k, .slice (some ⟨g, 0, none⟩) m m] 63 (0, 0)), (g, .cells (vfs (parM k r)) 5 (0, 0)), (w.heap.size, .cells (vfs (colP c f (2 * j))) 5 (0, 0))]) (fun v _ => k - (intOf v).toNat)
  case atStart => exact ⟨0, by omega, rfl, HB2.out, by rw [Nat.mul_zero, ← colP_zero]; exact HA2.out⟩
  case round =>
    obtain ⟨j, hj, rfl, hb, hh⟩ := hrel
    have HB : Hid _ := hb
    have HH1 : Hid _ := hh
    clear hb hh
    by_cases hlt : j < k
    · have c1 := cellAt (holds_at HH1.out 0 rfl) 2 _ rfl
      have hjc : 2 * j + 1 < c := by have := HC.out; omega
      have c2 := cellAt (holds_at HH1.out 2 rfl) (2 * j + 1) _ (vfs_get _ _ (by rw [colP_len]; exact hjc))
      rw [colP_at hjc (2 * j) (by omega)] at c2
      have hc2 : (((0 : F).toNat : Nat) : Int) = 0 := rfl
      rw [hc2] at c2
      have c3 := frozen_of_row _ w.heap.size (2 * j + 1) _ _ (holds_at HH1.out 2 rfl)
      have hpa : at8 (parM k r) (ik + j) = cyN (k + i) j := by rw [HIK.out]; exact parM_at HI.out hlt
      have c4 := cellAt (holds_at HH1.out 1 rfl) (ik + j) _ (vfs_get _ _ (by have := HIKR.out; rw [parM_len]; omega))
      rw [hpa] at c4
      have hx := xor_val 0 (cyN (k + i) j)
      rw [hc2, show ga 0 (cyN (k + i) j) = cyN (k + i) j from F.zero_add _] at hx
      have hfo : f (2 * j + 1) = cyN (k + i) j := by rw [HF.out]; exact half_even (q := j) HH.out (by decide)
      rw [← hfo] at c4 hx
      have HFO : Hid _ := hfo
      clear hpa hc2 hfo
      have hjm : ik + j < m := by have := HIKR.out; rw [HM.out]; omega
      go_upto_region 10 with fail
      go_region
      obtain ⟨L1, hL⟩ : ∃ L1, L1 = (colP c f (2 * j)).set (2 * j + 1) (f (2 * j + 1)) := ⟨_, rfl⟩
      have k1 : (wr.setCell ⟨w.heap.size, 2 * j + 1, none⟩ (.int .u8 ((f (2 * j + 1)).toNat : Int))).drew.heap[w.heap.size]? = some (.cells (vfs L1) 5 (0, 0)) := by
        rw [hL, ← vfs_set]
        exact heap_setCell_same _ _ _ _ _ _ (holds_at HH1.out 2 rfl)
      have kA : (wr.setCell ⟨w.heap.size, 2 * j + 1, none⟩ (.int .u8 ((f (2 * j + 1)).toNat : Int))).drew.heap[M]? = some (.cells #[.int .i64 r, .int .i64 k, .slice (some ⟨g, 0, none⟩) m m] 63 (0, 0)) := (heap_setCell_other _ _ _ _ (hkind_ne (holds_at HH1.out 0 rfl) (holds_at HH1.out 2 rfl) (by decide))).trans (holds_at HH1.out 0 rfl)
      have kG : (wr.setCell ⟨w.heap.size, 2 * j + 1, none⟩ (.int .u8 ((f (2 * j + 1)).toNat : Int))).drew.heap[g]? = some (.cells (vfs (parM k r)) 5 (0, 0)) := (heap_setCell_other _ _ _ _ (by have := HGN.out; show g ≠ w.heap.size; omega)).trans (holds_at HH1.out 1 rfl)
      have HBx : Hid _ := (HB.out.setCell (p := ⟨w.heap.size, 2 * j + 1, none⟩) (Nat.le_refl _) (.int .u8 ((f (2 * j + 1)).toNat : Int))).drew
      have HHx : Hid _ := holds_cons (holds_cons (holds_cons (holds_nil _) k1) kG) kA
      clear k1 kA kG c1 c2 c3 c4 hx
      generalize (wr.setCell ⟨w.heap.size, 2 * j + 1, none⟩ (.int .u8 ((f (2 * j + 1)).toNat : Int))).drew = wx at *
      have HL : Hid _ := hL
      clear hL
      go_wp2_with fail
      refine (HCA.out j _ (by omega)).mono ?_
      rintro e wy ⟨rfl, rfl⟩
      by_cases hcar : car j = i
      · have hff : f (2 * j) = 1 := by rw [HF.out, half_car HH.out, if_pos hcar]
        have hL2 : L1.set (2 * j) 1 = colP c f (2 * (j + 1)) := by
          rw [HL.out, ← hff, List.set_comm _ _ (by omega), colP_step, colP_step]
          rfl
        have c2 := cellAt (holds_at HHx.out 2 rfl) (2 * j) _ (vfs_get _ _ (by rw [HL.out, List.length_set, colP_len]; omega))
        have c0 : at8 L1 (2 * j) = 0 := by
          have := colP_at (f := f) (show 2 * j < c by omega) (2 * j) (Nat.le_refl _)
          rw [HL.out]
          simp only [at8] at this ⊢
          rw [List.getD_eq_getElem?_getD, List.getElem?_set_ne (by omega), ← List.getD_eq_getElem?_getD]
          exact this
        rw [c0, show (((0 : F).toNat : Nat) : Int) = 0 from rfl] at c2
        have c3 := frozen_of_row _ w.heap.size (2 * j) _ _ (holds_at HHx.out 2 rfl)
        have hx1 : bits .xor .u8 0 1 = 1 := by decide
        have hci : (car j : Int) = i := by omega
        have HL2 : Hid _ := hL2
        clear hL2 c0 hff hcar
        go_wp2
        have k1 : (wx.setCell ⟨w.heap.size, 2 * j, none⟩ (.int .u8 1)).heap[w.heap.size]? = some (.cells (vfs (colP c f (2 * (j + 1)))) 5 (0, 0)) := by
          rw [heap_setCell_same _ _ _ _ _ _ (holds_at HHx.out 2 rfl), ← HL2.out, ← vfs_set]
          rfl
        have kA : (wx.setCell ⟨w.heap.size, 2 * j, none⟩ (.int .u8 1)).heap[M]? = some (.cells #[.int .i64 r, .int .i64 k, .slice (some ⟨g, 0, none⟩) m m] 63 (0, 0)) := (heap_setCell_other _ _ _ _ (hkind_ne (holds_at HHx.out 0 rfl) (holds_at HHx.out 2 rfl) (by decide))).trans (holds_at HHx.out 0 rfl)
        have kG : (wx.setCell ⟨w.heap.size, 2 * j, none⟩ (.int .u8 1)).heap[g]? = some (.cells (vfs (parM k r)) 5 (0, 0)) := (heap_setCell_other _ _ _ _ (by have := HGN.out; show g ≠ w.heap.size; omega)).trans (holds_at HHx.out 1 rfl)
        exact ⟨⟨j + 1, by omega, by go_num, HBx.out.setCell (Nat.le_refl _) _, holds_cons (holds_cons (holds_cons (holds_nil _) k1) kG) kA⟩, by simp [intOf]; omega⟩
      · have hff : f (2 * j) = 0 := by rw [HF.out, half_car HH.out, if_neg hcar]
        have hL2 : L1 = colP c f (2 * (j + 1)) := by
          rw [HL.out, colP_skip hff, colP_step]
          rfl
        rw [hL2] at HHx
        have hci : ¬ (car j : Int) = i := by omega
        clear hL2 hff hcar
        go_wp2
        exact ⟨⟨j + 1, by omega, by go_num, HBx.out, HHx.out⟩, by simp [intOf]; omega⟩
    · obtain rfl : j = k := by omega
      have k1 := holds_at HH1.out 2 rfl
      rw [← HC.out, colP_done, HF.out] at k1
      have HK1 : Hid _ := k1
      clear k1
      go_wp2
      go_ret
      exact ⟨w.heap.size, c, rfl, rfl, Nat.le_refl _, HK1.out, HB.out⟩
theorem hrrow_F (k r h : Nat) (w : World) (h1 : 1 ≤ k) (h2 : 2 ≤ r) (h3 : k + r ≤ 16) (hh : h < 2 * (k + r)) :
    Calls Tryz.prog 61 #[.int .i64 k, .int .i64 r, .int .i64 h] w fun e w' => ∃ g n, e = .returned (.slice (some ⟨g, 0, none⟩) n n) ∧ n = 2 * k ∧ w.heap.size ≤ g ∧
      w'.heap[g]? = some (.cells (vfs (rowF (2 * k) (halfF k (carN (groupN k r)) h))) 5 (0, 0)) ∧ Below w.heap.size w w' := by
  by_cases hs : h / 2 < k
  · exact rrow_unit k r h (h / 2) (h % 2) w h1 h2 h3 (by omega) (by omega) hs
  · rcases (show h % 2 = 0 ∨ h % 2 = 1 by omega) with e | e
    · exact rrow_0 k r h (h / 2 - k) w h1 h2 h3 (by omega) (by omega)
    · exact rrow_1 k r h (h / 2 - k) w h1 h2 h3 (by omega) (by omega)
end Go.Proofs.YtjmbpldkggbdlaaGreatDoor

/- Facts for the statement MatPlaces: refusals of Take, two lists apart, the document's own Row, an append in a drawn region. -/
namespace Go.Proofs.YtjmbpldkggbdlaaGreatDoor
open Go.RowKit Gf
set_option linter.unusedVariables false
set_option maxRecDepth 20000
set_option maxHeartbeats 1000000 in
theorem take_bad (r c : Int) (a an : Option Addr) (l cap ln cn : Nat) (w : World) (s : Addr) (hs : w.cell? ⟨2, 0, none⟩ = some (errAt s)) (h : ¬ (0 ≤ r ∧ r ≤ 64 ∧ 0 ≤ c ∧ c ≤ 64 ∧ (l : Int) = r * c)) :
    Calls Tryz.prog 35 #[.agg #[.int .i64 r, .int .i64 c, .slice a l cap], .slice an ln cn] w fun e w' => e = .returned (.tuple #[.agg #[.int .i64 0, .int .i64 0, .slice none 0 0], errAt s]) ∧ Below w.heap.size w w' := by
  have hlt := World.block_lt_of_cell? w _ hs
  simp at hlt
  have H : Hid _ := h
  clear h
  have HS : Hid _ := cell?_alloc_old (.cells #[.int .i64 0, .int .i64 0, .slice none 0 0] 63) (cell?_alloc_old (.cells #[.int .i64 r, .int .i64 c, .slice a l cap] 63) hs)
  unfold errAt at *
  go_enter Tryz.func35, Tryz.ntmps35
  go_wp2_with fail
  refine Calls.mono (check_bad r c a l cap _ _ HS.out H.out) ?_
  rintro e w1 ⟨rfl, hb1⟩
  have k1 := heap_later (heap_alloc2_new w (.cells #[.int .i64 r, .int .i64 c, .slice a l cap] 63) (.cells #[.int .i64 0, .int .i64 0, .slice none 0 0] 63)) hb1
  have c4 := cellAt k1 0 _ rfl
  have c5 := cellAt k1 1 _ rfl
  have c6 := cellAt k1 2 _ rfl
  have d4 : w1.frozen? ⟨w.heap.size + 1, 0, none⟩ = false := frozen_of_row _ _ _ _ _ k1
  have d5 : w1.frozen? ⟨w.heap.size + 1, 1, none⟩ = false := frozen_of_row _ _ _ _ _ k1
  have d6 : w1.frozen? ⟨w.heap.size + 1, 2, none⟩ = false := frozen_of_row _ _ _ _ _ k1
  have c9 := cell_later hb1 HS.out
  have HB1 : Hid (Below w.heap.size w w1) := (((Below.refl w.heap.size w).alloc (Nat.le_refl _) _).alloc (by simp) _).trans (hb1.mono (by simp; omega))
  clear hb1 k1
  go_wp2
  go_region
  go_wp2
  refine bodyPost_ret (v := .tuple #[.agg #[.int .i64 0, .int .i64 0, .slice none 0 0], .iface 188 (.pointer (some s))]) (by simp [results, Tryz.results35, go_sem, c4, c5, c6]) rfl ⟨rfl, ?_⟩
  exact (((HB1.out.setCell (by simp) _).setCell (by simp) _).setCell (by simp) _).drew
set_option maxHeartbeats 1000000 in
theorem take_long (r c : Nat) (a an : Option Addr) (l cap ln cn : Nat) (w : World) (s : Addr) (hs : w.cell? ⟨2, 0, none⟩ = some (errAt s)) (hr : r ≤ 64) (hc : c ≤ 64) (hl : l = r * c) (hn : 64 < ln) :
    Calls Tryz.prog 35 #[.agg #[.int .i64 r, .int .i64 c, .slice a l cap], .slice an ln cn] w fun e w' => e = .returned (.tuple #[.agg #[.int .i64 0, .int .i64 0, .slice none 0 0], errAt s]) ∧ Below w.heap.size w w' := by
  have hlt := World.block_lt_of_cell? w _ hs
  simp at hlt
  have HL : Hid _ := hl
  clear hl
  have HS : Hid _ := cell?_alloc_old (.cells #[.int .i64 0, .int .i64 0, .slice none 0 0] 63) (cell?_alloc_old (.cells #[.int .i64 r, .int .i64 c, .slice a l cap] 63) hs)
  unfold errAt at *
  go_enter Tryz.func35, Tryz.ntmps35
  go_wp2_with fail
  refine Calls.mono (check_ok r c a l cap _ hr hc HL.out) ?_
  rintro e w1 ⟨rfl, hb1⟩
  have k1 := heap_later (heap_alloc2_new w (.cells #[.int .i64 r, .int .i64 c, .slice a l cap] 63) (.cells #[.int .i64 0, .int .i64 0, .slice none 0 0] 63)) hb1
  have c4 := cellAt k1 0 _ rfl
  have c5 := cellAt k1 1 _ rfl
  have c6 := cellAt k1 2 _ rfl
  have d4 : w1.frozen? ⟨w.heap.size + 1, 0, none⟩ = false := frozen_of_row _ _ _ _ _ k1
  have d5 : w1.frozen? ⟨w.heap.size + 1, 1, none⟩ = false := frozen_of_row _ _ _ _ _ k1
  have d6 : w1.frozen? ⟨w.heap.size + 1, 2, none⟩ = false := frozen_of_row _ _ _ _ _ k1
  have c9 := cell_later hb1 HS.out
  have HB1 : Hid (Below w.heap.size w w1) := (((Below.refl w.heap.size w).alloc (Nat.le_refl _) _).alloc (by simp) _).trans (hb1.mono (by simp; omega))
  clear hb1 k1
  go_wp2
  go_region
  go_wp2
  refine bodyPost_ret (v := .tuple #[.agg #[.int .i64 0, .int .i64 0, .slice none 0 0], .iface 188 (.pointer (some s))]) (by simp [results, Tryz.results35, go_sem, c4, c5, c6]) rfl ⟨rfl, ?_⟩
  exact (((HB1.out.setCell (by simp) _).setCell (by simp) _).setCell (by simp) _).drew

theorem wanted_append_run {P : Program} {w : World} {o : Oper} {a : Act} {K : Act → World → Prop} {Q : Exit → Act → World → Prop} {ys : Nat → Option Bool} {L : Prop} (hgd : o.guard = none) (s x : Operand) (t : TypeId)
    (ho : o.op = .call { callee := .builtin .append, args := #[s, x], argTypes := #[t, t] }) (v u r : Value) (w' : World) (hs : a.eval s = v) (hx : a.eval x = u)
    (hr : (Builtin.append_ #[t, t] o.type #[v, u]).run P w = .ok r w') (h : K (a.put o.dst r) w') : if Region.wanted o ys = true then Oper.wp P o a w K Q else L := by
  rw [if_pos (by simp [Region.wanted, hgd])]
  unfold Oper.wp execOp
  simp only [ho, resolve, invoke, builtin, Sem.run_bind, Sem.run_pure, Result.andThen_ok, List.map_toArray, List.map_cons, List.map_nil, hs, hx, hr]
  exact h
theorem kind_ne {w : World} {a b : Nat} {cs ds : Array Value} {t u : TypeId} {f1 f2 : Nat × Nat} (h1 : w.heap[a]? = some (.cells cs t f1)) (h2 : w.heap[b]? = some (.cells ds u f2)) (h : t ≠ u) : a ≠ b := fun e => by
  subst e; rw [h1] at h2; cases h2; exact h rfl
theorem grown_some {w w' : World} (g : Nat) (h : w.grownBy w' none) : w.grownBy w' (some g) := ⟨h.os, h.tape, h.output, h.size, fun k hk _ => h.block k hk (by simp)⟩
theorem grown_keep {w w' : World} {r : Option Nat} {k : Nat} {o : Obj} (h : w.grownBy w' r) (hk : w.heap[k]? = some o) (hne : some k ≠ r) : w'.heap[k]? = some o := (h.block k (Array.getElem?_eq_some_iff.1 hk).1 hne).trans hk

theorem has8_take {w : World} {g cap : Nat} {xs : List F} (h : Has8 w g xs cap) (m : Nat) : Has8 w g (xs.take m) cap := by
  obtain ⟨cur, hg, hs, hl, hm, ht⟩ := h
  refine ⟨cur, hg, hs, by rw [List.length_take]; omega, hm, ?_⟩
  rw [List.map_take, ← ht, List.take_take, List.length_take]
theorem row8_grown {w w' : World} {r : Option Nat} {g : Nat} {xs : List F} (h : Row8 w (some ⟨g, 0, none⟩) xs) (hb : w.grownBy w' r) (hg : g < w.heap.size) (hne : some g ≠ r) : Row8 w' (some ⟨g, 0, none⟩) xs := by
  rcases h with e | ⟨b, off, e, h⟩
  · exact .inl e
  · cases e
    refine .inr ⟨g, 0, rfl, fun j hj => ?_⟩
    rw [← h j hj]
    simp only [World.cell?, hb.block g hg hne]
theorem append8_both {w : World} {g n cap : Nat} {xs ys : List F} {ad : Addr} {m c : Nat} (ty : TypeId) (h : Has8 w g xs cap) (hn : n = xs.length) (hm : m = ys.length) (hb : n + m ≤ 140737488355328)
    (hy : ∀ j, j < ys.length → w.cell? (ad.add j) = some (.int .u8 ((at8 ys j).toNat : Int))) :
    ∃ g' cap' w', (Builtin.append_ #[61, 61] ty #[.slice (some ⟨g, 0, none⟩) n cap, .slice (some ad) m c]).run Tryz.prog w = .ok (.slice (some ⟨g', 0, none⟩) (n + m) cap') w' ∧
      Has8 w' g' (xs ++ ys) cap' ∧ w.grownBy w' (some g) ∧ (g' = g ∨ w.heap.size ≤ g' ∧ w.grownBy w' none) := by
  by_cases hroom : n + m ≤ cap
  · subst hn hm
    obtain ⟨i, hi, h1, h2, h3⟩ := info8
    obtain ⟨cur, hg, hs, hl, hmx, ht⟩ := h
    have hown : w.ownsRow 0 5 1 (.slice (some ⟨g, 0, none⟩) xs.length cap) xs.length (xs.map vf) :=
      ⟨by simp, .inr ⟨g, cap, cur, rfl, Nat.zero_le _, hg, hl, hmx, by omega, by rw [Nat.mul_one]; exact ht⟩⟩
    obtain ⟨w', hrun, ho, hgr⟩ := run_append_fits (P := Tryz.prog) w 0 61 ty 5 i 1 Tryz.underlying61 hi h1 g xs.length cap _ hown ad ys.length c (ys.map vf) (by simp) (fun j v hv => by
        simp only [List.getElem?_map, Option.map_eq_some_iff] at hv
        obtain ⟨x, hx1, rfl⟩ := hv
        have hj : j < ys.length := (List.getElem?_eq_some_iff.1 hx1).1
        have e : at8 ys j = x := by simp [at8, hx1]
        rw [hy j hj, e]; rfl) (fun v hv => by
        simp only [List.mem_map] at hv
        obtain ⟨x, _, rfl⟩ := hv
        rfl) hroom
    rcases ho.2 with ⟨hv, _⟩ | ⟨g', cap', cur', hv, _, hg', hl', hm', hs', ht'⟩
    · cases hv
    · cases hv
      exact ⟨g, cap, w', hrun, ⟨cur', hg', by omega, by simpa using hl', hm', by rw [List.length_append, List.map_append, ← ht', Nat.mul_one]⟩, hgr, .inl rfl⟩
  · obtain ⟨g', cap', w', h1, h2, h3, h4⟩ := append8_grows (cap := cap) (m := m) (c := c) ty (row8_has h) hn hm (by omega) hb hy
    exact ⟨g', cap', w', h1, h2, ⟨h3.os, h3.tape, h3.output, h3.size, fun k hk _ => h3.block k hk (by simp)⟩, .inr ⟨h4, h3⟩⟩
/-- the second list nil -/
theorem append8_nil (w : World) {ys : List F} {ad : Addr} {m c : Nat} (ty : TypeId) (hm : m = ys.length) (h0 : 0 < m) (hb : m ≤ 140737488355328)
    (hy : ∀ j, j < ys.length → w.cell? (ad.add j) = some (.int .u8 ((at8 ys j).toNat : Int))) :
    ∃ g' cap' w', (Builtin.append_ #[61, 61] ty #[.slice none 0 0, .slice (some ad) m c]).run Tryz.prog w = .ok (.slice (some ⟨g', 0, none⟩) m cap') w' ∧
      Has8 w' g' ys cap' ∧ w.grownBy w' none ∧ w.heap.size ≤ g' := by
  subst hm
  obtain ⟨i, hi, h1, h2, h3⟩ := info8
  obtain ⟨v', w', hrun, ho, hgr, hnil, hat⟩ := run_append_own_at (P := Tryz.prog) w w.heap.size 61 ty 5 i _ 1 1 Tryz.underlying61 hi h3 h1 h2 rfl (by decide)
    (.slice none 0 0) 0 [] ⟨rfl, .inl ⟨rfl, rfl⟩⟩ ad ys.length c (ys.map vf) (by simp) (fun j v hv => by
      simp only [List.getElem?_map, Option.map_eq_some_iff] at hv
      obtain ⟨x, hx1, rfl⟩ := hv
      have hj : j < ys.length := (List.getElem?_eq_some_iff.1 hx1).1
      have e : at8 ys j = x := by simp [at8, hx1]
      rw [hy j hj, e]; rfl) (fun v hv => by
      simp only [List.mem_map] at hv
      obtain ⟨x, _, rfl⟩ := hv
      rfl) (by simp only [maxLen]; omega) (by omega) (Nat.le_refl _)
  rcases ho.2 with ⟨hv, hn⟩ | ⟨g', cap', cur', hv, hg, hg', hl', hm', hs', ht'⟩
  · have := (hnil.1 hv).2
    omega
  · subst hv
    refine ⟨g', cap', w', by rw [hrun, Nat.zero_add], ⟨cur', hg', by omega, by simpa using hl', hm', ?_⟩, hgr, hg⟩
    rw [← List.nil_append (ys.map vf), ← ht', Nat.mul_one, Nat.zero_add]
set_option maxHeartbeats 1000000 in
theorem rrow_some (r c i b off l cap : Nat) (xs : List F) (w : World) (hr : r ≤ 64) (hc : c ≤ 64) (hi : i < r) (hl : l = r * c) (hx : xs.length = r * c) (hcap : l ≤ cap) (hX : Row8 w (some ⟨b, off, none⟩) xs) :
    Calls Tryz.prog 108 #[.agg #[.int .i64 r, .int .i64 c, .slice (some ⟨b, off, none⟩) l cap], .int .i64 i] w fun e w' => ∃ g cap', e = .returned (.slice (some ⟨g, 0, none⟩) c cap') ∧ w.heap.size ≤ g ∧ Has8 w' g (rowAt c xs i) cap' ∧ Below w.heap.size w w' := by
  obtain ⟨m0, m1⟩ := mul_small (r := i) (c := c) (by omega) hc
  have m5 : i * c + c ≤ l := by
    have := Nat.mul_le_mul_right c (show i + 1 ≤ r from hi)
    rw [Nat.succ_mul] at this; omega
  have hl6 : l ≤ 4096 := by have := mul_small hr hc; have e : (r : Int) * (c : Int) = ((r * c : Nat) : Int) := by simp
                            omega
  have m4 : (i : Int) * (c : Int) = ((i * c : Nat) : Int) := by simp
  have m3 : ((i : Int) + 1) * (c : Int) = ((i * c : Nat) : Int) + (c : Int) := by rw [Int.add_mul, Int.one_mul, m4]
  have hrow : Row8 w (some ⟨b, rof off (i * c) cap, none⟩) (rowAt c xs i) := by
    rcases hX with e | ⟨b2, off2, e, h⟩
    · left
      rw [e]; simp [rowAt]
    · cases e
      exact row8_rowAt hx hi (by omega) h
  have hlen := rowAt_len hx hi
  generalize hp : i * c = p at m3 m4 m5 hrow ⊢
  rw [m4] at m0 m1
  have hh := heap_alloc_last (w.alloc (.cells #[.int .i64 r, .int .i64 c, .slice (some ⟨b, off, none⟩) l cap] 63)) (.cells #[] 5)
  obtain ⟨g', cap', w2, h1, h2, h3, h4⟩ := append8_new (g := w.heap.size + 1) (m := c) (c := cap - p) (a := some ⟨b, rof off p cap, none⟩) (ys := rowAt c xs i) 61 (by simpa using hh) hlen.symm (by omega) (row8_alloc (row8_alloc hrow _) _) (fun h => by cases h)
  have HR : Hid _ := h1
  have H2 : Hid _ := h2
  have HB : Hid (Below w.heap.size w w2) := grownBy_below (g := w.heap.size + 1) ((((Below.refl _ _).alloc (Nat.le_refl _) _).alloc (by simp) _)) ⟨h3.os, h3.tape, h3.output, h3.size, fun k hk _ => h3.block k hk (by simp)⟩ (by omega) (by simp; omega)
  have hg : w.heap.size ≤ g' := by
    rcases h4 with rfl | h4
    · omega
    · simp at h4; omega
  clear h1 h2 h3 h4 hh hX hrow hlen hp hl hx
  by_cases h : cap = p
  · subst h
    rw [rof_same] at HR
    have h0 : cap - cap = 0 := Nat.sub_self _
    rw [h0] at HR
    go_enter Tryz.func108, Tryz.ntmps108
    go_wp2_with (at_builtin; refine wpList_append_run rfl _ _ 61 rfl _ _ _ _ rfl ?_ HR.out ?_)
    · simp only [Nat.add_sub_cancel_left]
      rfl
    · go_wp2
      go_ret
      exact ⟨g', cap', rfl, hg, H2.out, HB.out⟩
  · rw [rof_room h] at HR
    go_enter Tryz.func108, Tryz.ntmps108
    go_wp2_with (at_builtin; refine wpList_append_run rfl _ _ 61 rfl _ _ _ _ rfl ?_ HR.out ?_)
    · simp only [Nat.add_sub_cancel_left]
      rfl
    · go_wp2
      go_ret
      exact ⟨g', cap', rfl, hg, H2.out, HB.out⟩

set_option maxHeartbeats 1000000 in
theorem rrow_nil (r i cap : Nat) (a : Option Addr) (w : World) (hi : i < 64) (hnil : a = none → cap = 0) :
    Calls Tryz.prog 108 #[.agg #[.int .i64 r, .int .i64 0, .slice a 0 cap], .int .i64 i] w fun e w' => ∃ g cap', e = .returned (.slice (some ⟨g, 0, none⟩) 0 cap') ∧ w.heap.size ≤ g ∧ Has8 w' g [] cap' ∧ Below w.heap.size w w' := by
  have hh := heap_alloc_last (w.alloc (.cells #[.int .i64 r, .int .i64 0, .slice a 0 cap] 63)) (.cells #[] 5)
  rw [World.size_alloc] at hh
  obtain ⟨g', cap', w2, h1, h2, h3, h4⟩ := append8_new (m := 0) (c := cap) (a := a) (ys := []) 61 hh rfl (by omega) (.inl rfl) hnil
  have HR : Hid _ := h1
  have H2 : Hid _ := h2
  have HB : Hid (Below w.heap.size w w2) := grownBy_below (g := w.heap.size + 1) ((((Below.refl _ _).alloc (Nat.le_refl _) _).alloc (by simp) _)) ⟨h3.os, h3.tape, h3.output, h3.size, fun k hk _ => h3.block k hk (by simp)⟩ (by omega) (by simp; omega)
  have hg : w.heap.size ≤ g' := by
    rcases h4 with rfl | h4
    · omega
    · simp at h4; omega
  have HN : Hid _ := hnil
  clear h1 h2 h3 h4 hh hnil
  by_cases h : cap = 0
  · subst h
    go_enter Tryz.func108, Tryz.ntmps108
    go_wp2_with (at_builtin; refine wpList_append_run rfl _ _ 61 rfl _ _ _ _ rfl rfl HR.out ?_)
    go_wp2
    go_ret
    exact ⟨g', cap', rfl, hg, H2.out, HB.out⟩
  · cases a with
    | none => exact absurd (HN.out rfl) h
    | some ad =>
      obtain ⟨b, off, tg⟩ := ad
      go_enter Tryz.func108, Tryz.ntmps108
      go_wp2_with (at_builtin; refine wpList_append_run rfl _ _ 61 rfl _ _ _ _ rfl rfl HR.out ?_)
      go_wp2
      go_ret
      exact ⟨g', cap', rfl, hg, H2.out, HB.out⟩
/-- of every matrix in form, every row that is there -/
theorem rrow_F (r c i l cap : Nat) (a : Option Addr) (xs : List F) (w : World) (hr : r ≤ 64) (hc : c ≤ 64) (hi : i < r) (hl : l = r * c) (hx : xs.length = r * c) (hcap : l ≤ cap) (hX : Row8 w a xs) (hnil : a = none → cap = 0) :
    Calls Tryz.prog 108 #[.agg #[.int .i64 r, .int .i64 c, .slice a l cap], .int .i64 i] w fun e w' => ∃ g cap', e = .returned (.slice (some ⟨g, 0, none⟩) c cap') ∧ w.heap.size ≤ g ∧ Has8 w' g (rowAt c xs i) cap' ∧ Below w.heap.size w w' := by
  rcases hX with e | ⟨b, off, rfl, h⟩
  · have h0 : r * c = 0 := by rw [← hx, e]; rfl
    have hc0 : c = 0 := by
      rcases Nat.mul_eq_zero.1 h0 with h | h
      · omega
      · exact h
    subst hc0
    obtain rfl : l = 0 := by omega
    refine (rrow_nil r i cap a w (by omega) hnil).mono fun e' w' ⟨g, cap', h⟩ => ⟨g, cap', ?_⟩
    have e0 : rowAt 0 xs i = [] := List.eq_nil_of_length_eq_zero (rowAt_len hx hi)
    rw [e0]
    exact h
  · exact rrow_some r c i b off l cap xs w hr hc hi hl hx hcap (.inr ⟨b, off, rfl, h⟩)
end Go.Proofs.YtjmbpldkggbdlaaGreatDoor
