/- What a list of bytes gives as a string, and what Sum and Scale of package gf make, of all lists; nothing that was there turns. -/
import Derived.Test.YtkoakingmnjdoaaGreatDoorGfMem
namespace Go.Proofs.YtkoakingmnjdoaaGreatDoor
open Go.RowKit Gf
set_option maxRecDepth 20000
/-- a list of bytes as a string -/
def str8 (xs : List F) : ByteArray := ⟨xs.toArray⟩
theorem fold_push : ∀ (xs : List F) (r : ByteArray), (xs.map fun x => (x.toNat : Int)).foldl (fun r n => r.push (UInt8.ofNat n.toNat)) r = ⟨r.data ++ xs.toArray⟩
  | [], r => by simp
  | x :: xs, r => by
    simp only [List.map_cons, List.foldl_cons, Int.toNat_natCast]
    rw [fold_push xs]
    apply ByteArray.ext
    show (r.data.push _) ++ _ = _
    apply Array.toList_inj.1
    simp
theorem str8_inj {xs ys : List F} (h : str8 xs = str8 ys) : xs = ys := by
  have := congrArg (fun b => b.data.toList) h
  simpa [str8] using this
theorem conv8 {w : World} {a : Option Addr} {la ca : Nat} {xs : List F} (hla : la = xs.length) (hx : Row8 w a xs) :
    (convert 23 9 (.slice a la ca)).run Tryz.prog w = .ok (.string (str8 xs)) w := by
  subst hla
  rw [run_convert_bytes_string w _ _ _ a _ ca Tryz.underlying23 Tryz.underlying5 Tryz.underlying9]
  have hd : ∀ xs : List F, (xs.map fun x => (x.toNat : Int)).foldl (fun r n => r.push (UInt8.ofNat n.toNat)) ByteArray.empty = str8 xs := fun xs => by
    rw [fold_push]; apply ByteArray.ext; show #[] ++ _ = _; simp [str8]
  cases a with
  | none =>
    rcases hx with rfl | ⟨b, off, h, _⟩
    · simp [Conv.bytesToString, str8]; rfl
    · cases h
  | some ad =>
    rw [run_bytesToString w ad xs.length ca (xs.map fun x => (x.toNat : Int)), hd]
    rcases hx with rfl | ⟨b, off, h, hc⟩
    · simp [loadCells, loadCellsFrom]
    · cases h
      have := run_loadCells_list (P := Tryz.prog) w ⟨b, off, none⟩ (xs.map vf) (fun j v hv => by
        simp only [List.getElem?_map, Option.map_eq_some_iff] at hv
        obtain ⟨x, hx1, rfl⟩ := hv
        have hj : j < xs.length := (List.getElem?_eq_some_iff.1 hx1).1
        have e : at8 xs j = x := by simp [at8, hx1]
        have hadd : (⟨b, off, none⟩ : Addr).add j = ⟨b, off + j, none⟩ := by unfold Addr.add; split <;> simp_all
        rw [hadd, hc j hj, e]; rfl)
      rw [List.length_map] at this
      rw [this, List.map_map]; rfl
/-- a block of one's own, read as a list -/
theorem row8_own {w : World} {g : Nat} {xs : List F} {t : TypeId} {fr : Nat × Nat} (h : w.heap[g]? = some (.cells (vfs xs) t fr)) : Row8 w (some ⟨g, 0, none⟩) xs :=
  .inr ⟨g, 0, rfl, fun j hj => by rw [cell_of_row _ _ _ _ _ _ h, Nat.zero_add]; exact vfs_get xs j hj⟩
/-- AddScaled, met in a world that has grown since a base -/
theorem addScaled_B (x : F) (a b : Option Addr) (la ca lb cb : Nat) (xs ys zs : List F) (B : Nat) (w W : World) (hW : Below B w W) (hB : B ≤ W.heap.size) (hz : scaled x xs ys = zs) (hla : la = xs.length) (hlb : lb = ys.length) (ha : la ≤ 140737488355328) (hb : lb ≤ 140737488355328)
    (hx : Row8 W a xs) (hy : Row8 W b ys) :
    Calls Tryz.prog 122 #[.slice a la ca, .int .u8 x.toNat, .slice b lb cb] W fun e w' => ∃ g, e = .returned (.slice (some ⟨g, 0, none⟩) zs.length zs.length) ∧ W.heap.size ≤ g ∧
      Below B w w' ∧ Below W.heap.size W w' ∧ w'.heap[g]? = some (.cells (vfs zs) 5 (0, 0)) := by
  subst hz
  exact (addScaled_F x a b la ca lb cb xs ys W hla hlb ha hb hx hy).mono fun e w' ⟨g, n, he, hn, hg, hbl, hh⟩ => ⟨g, by rw [← hn]; exact he, hg, hW.trans (hbl.mono hB), hbl, hh⟩
theorem scale_B (x : F) (b : Option Addr) (lb cb : Nat) (ys zs : List F) (B : Nat) (w W : World) (hW : Below B w W) (hB : B ≤ W.heap.size) (hz : scaled x [] ys = zs) (hlb : lb = ys.length) (hb : lb ≤ 140737488355328)
    (hy : Row8 W b ys) :
    Calls Tryz.prog 125 #[.int .u8 x.toNat, .slice b lb cb] W fun e w' => ∃ g, e = .returned (.slice (some ⟨g, 0, none⟩) zs.length zs.length) ∧ W.heap.size ≤ g ∧
      Below B w w' ∧ Below W.heap.size W w' ∧ w'.heap[g]? = some (.cells (vfs zs) 5 (0, 0)) := by
  have H : Hid _ := addScaled_B x none b 0 0 lb cb [] ys zs B w W hW hB hz rfl hlb (by decide) hb (.inl rfl) hy
  clear hW hB hz hlb hb hy
  go_enter Tryz.func125, Tryz.ntmps125
  go_wp2_with fail
  refine Calls.mono H.out ?_
  rintro e w' ⟨g, rfl, h1, h2, h3, h4⟩
  go_wp2_with fail
  go_ret
  exact ⟨g, rfl, h1, h2, h3, h4⟩
/-! lists as sums, place by place -/
theorem list_ext8 {xs ys : List F} (hl : xs.length = ys.length) (h : ∀ j, at8 xs j = at8 ys j) : xs = ys := by
  apply List.ext_getElem hl
  intro i hi hj
  have := h i
  simpa [at8, hi, hj] using this
theorem at8_over {xs : List F} {j : Nat} (h : xs.length ≤ j) : at8 xs j = 0 := by
  simp [at8, List.getElem?_eq_none h]
theorem at8_acc (c : F) : ∀ (zs ys : List F) (j : Nat), ys.length ≤ zs.length → at8 (acc c zs ys) j = ga (at8 zs j) (gm c (at8 ys j))
  | [], [], j, _ => by simp [acc, at8]
  | [], _ :: _, _, h => absurd h (by simp)
  | z :: zs, [], j, _ => by simp [acc, at8]
  | z :: zs, y :: ys, 0, _ => by simp [acc, at8]
  | z :: zs, y :: ys, j + 1, h => by
    simp only [acc, at8_cons_succ]
    exact at8_acc c zs ys j (by simpa using h)
theorem at8_scaled (c : F) (xs ys : List F) (j : Nat) : at8 (scaled c xs ys) j = ga (at8 xs j) (gm c (at8 ys j)) := by
  unfold scaled
  rw [at8_acc _ _ _ _ (by rw [List.length_append, List.length_drop, zeros_len]; omega)]
  congr 1
  unfold at8 zeros
  rw [List.getD_eq_getElem?_getD, List.getD_eq_getElem?_getD]
  by_cases h : j < xs.length
  · rw [List.getElem?_append_left h]
  · rw [List.getElem?_append_right (by omega), List.getElem?_eq_none (by omega : xs.length ≤ j), List.getElem?_drop, List.getElem?_replicate]
    split <;> rfl
theorem dot_eq_sum : ∀ (xs ys : List F), dot xs ys = dot ys xs
  | [], [] => rfl
  | [], _ :: _ => rfl
  | _ :: _, [] => rfl
  | x :: xs, y :: ys => by simp only [dot]; rw [F.mul_comm x y, dot_eq_sum xs ys]
theorem dot_acc (c : F) : ∀ (xs ys bs : List F), ys.length = xs.length → dot (acc c xs ys) bs = ga (dot xs bs) (gm c (dot ys bs))
  | [], [], bs, _ => by simp [acc, dot]
  | [], _ :: _, _, h => absurd h (by simp)
  | _ :: _, [], _, h => absurd h (by simp)
  | x :: xs, y :: ys, [], _ => by simp [acc, dot]
  | x :: xs, y :: ys, b :: bs, h => by
    simp only [acc, dot]
    rw [dot_acc c xs ys bs (by simpa using h), F.mul_add, F.add_mul, F.mul_assoc]
    simp only [F.add_assoc, F.add_left_comm]
theorem scaled_same (c : F) (xs ys : List F) (h : ys.length = xs.length) : scaled c xs ys = acc c xs ys := by
  unfold scaled
  rw [List.drop_eq_nil_of_le (by rw [zeros_len]; omega), List.append_nil]
theorem dot_scaled (c : F) (xs ys bs : List F) (h : ys.length = xs.length) : dot (scaled c xs ys) bs = ga (dot xs bs) (gm c (dot ys bs)) := by
  rw [scaled_same c xs ys h, dot_acc c xs ys bs h]
theorem scaled_back (c : F) (xs ys : List F) (h : ys.length = xs.length) : scaled c (scaled c xs ys) ys = xs := by
  apply list_ext8
  · rw [scaled_len, scaled_len]; omega
  · intro j; rw [at8_scaled, at8_scaled, F.add_right_cancel]
theorem scale_sum (c : F) (xs ys : List F) : scaled 1 (scaled c [] xs) (scaled c [] ys) = scaled c [] (scaled 1 xs ys) := by
  apply list_ext8
  · simp only [scaled_len, List.length_nil]; omega
  · intro j
    simp only [at8_scaled, F.one_mul, F.mul_add, show at8 [] j = 0 from rfl, F.zero_add]
theorem scale_scale (c d : F) (xs : List F) : scaled (gm d c) [] xs = scaled d [] (scaled c [] xs) := by
  apply list_ext8
  · simp only [scaled_len, List.length_nil]; omega
  · intro j
    simp only [at8_scaled, show at8 [] j = 0 from rfl, F.zero_add, F.mul_assoc]
theorem sum_assoc (xs ys zs : List F) : scaled 1 xs (scaled 1 ys zs) = scaled 1 (scaled 1 xs ys) zs := by
  apply list_ext8
  · simp only [scaled_len]; omega
  · intro j
    simp only [at8_scaled, F.one_mul, F.add_assoc]
end Go.Proofs.YtkoakingmnjdoaaGreatDoor
