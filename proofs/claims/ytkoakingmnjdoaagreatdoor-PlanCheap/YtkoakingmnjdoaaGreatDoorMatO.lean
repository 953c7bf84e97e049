/- What Of and One of package mat answer, of all rows in form; nothing that was there turns. -/
import Derived.Test.YtkoakingmnjdoaaGreatDoorMatA
namespace Go.Proofs.YtkoakingmnjdoaaGreatDoor
open Go.RowKit Gf
set_option linter.unusedVariables false
set_option maxRecDepth 20000
/-- a list of rows in memory -/
def Rows8 (w : World) (a : Option Addr) (L : List (List F)) : Prop :=
  L = [] ∨ ∃ b off, a = some ⟨b, off, none⟩ ∧ ∀ j xs, L[j]? = some xs → ∃ a' cap', w.cell? ⟨b, off + j, none⟩ = some (.slice a' xs.length cap') ∧ Row8 w a' xs
theorem rows8_below {w w' : World} {a : Option Addr} {L : List (List F)} (h : Rows8 w a L) (hb : Below w.heap.size w w') : Rows8 w' a L := by
  rcases h with rfl | ⟨b, off, rfl, h⟩
  · exact .inl rfl
  · exact .inr ⟨b, off, rfl, fun j xs hj => by
      obtain ⟨a', cap', h1, h2⟩ := h j xs hj
      exact ⟨a', cap', cell_later hb h1, row8_below h2 hb⟩⟩
theorem run_copyAt (g o n dc : Nat) (a : Option Addr) (la ca : Nat) (zs xs : List F) (w : World) (ty : TypeId) (hla : la = xs.length) (hn : n = xs.length) (hle : o + xs.length ≤ zs.length)
    (hg : w.heap[g]? = some (.cells (vfs zs) 5 (0, 0))) (hx : Row8 w a xs) :
    (Builtin.copy_ #[23, 23] ty #[.slice (some ⟨g, o, none⟩) n dc, .slice a la ca]).run Tryz.prog w = .ok (goInt xs.length) (w.setRow g (vfs (zs.take o ++ xs ++ zs.drop (o + xs.length)))) := by
  have hs : (Tryz.prog.info? 5).map (·.size) = some 1 := by kernel_rfl
  subst hn hla
  rcases hx with rfl | ⟨b, off, rfl, hx⟩
  · rw [run_copy_none w _ _ _ _ _ _ _ _ _ _ Tryz.underlying23 hs (by simp)]
    simp only [List.length_nil, List.append_nil, Nat.add_zero, List.take_append_drop]
    rw [setRow_self w g _ _ _ hg]
    rfl
  · have := run_copy_row (P := Tryz.prog) w 23 23 ty 5 g o xs.length dc ⟨b, off, none⟩ xs.length ca (vfs zs) 5 (xs.map vf) Tryz.underlying23 hs hg
      (by show _ = min _ _; rw [List.length_map]; omega) (fun j v hv => by
        simp only [List.getElem?_map, Option.map_eq_some_iff] at hv
        obtain ⟨x, hx1, rfl⟩ := hv
        have hj : j < xs.length := (List.getElem?_eq_some_iff.1 hx1).1
        have e : at8 xs j = x := by simp [at8, hx1]
        have hadd : (⟨b, off, none⟩ : Addr).add j = ⟨b, off + j, none⟩ := by unfold Addr.add; split <;> simp_all
        rw [hadd, hx j hj, e]; rfl) (by simp [vfs_size]; omega) (fun v hv => by
        simp only [List.mem_map] at hv
        obtain ⟨x, _, rfl⟩ := hv
        rfl)
    rw [this]
    congr 2
    · simp
    · simp [vfs, List.map_drop, List.map_take]
theorem rof_row {k l c n : Nat} (hk : k < l) (hn : n = l * c) : rof 0 (k * c) n = k * c := by
  by_cases h : n = k * c
  · have h1 : k * c + c ≤ l * c := by
      have := Nat.mul_le_mul_right c (show k + 1 ≤ l from hk)
      rwa [Nat.succ_mul] at this
    have hc : c = 0 := by omega
    subst hc
    simp [rof]
  · rw [rof_room h, Nat.zero_add]
theorem flat_len {c : Nat} : ∀ {L : List (List F)}, (∀ xs ∈ L, xs.length = c) → L.flatten.length = L.length * c
  | [], _ => by simp
  | xs :: L, h => by
    rw [List.flatten_cons, List.length_append, flat_len (L := L) (fun x hx => h x (List.mem_cons_of_mem _ hx)), h xs List.mem_cons_self, List.length_cons, Nat.succ_mul, Nat.add_comm]
/-- the first k rows, noughts behind -/
def ofP (c : Nat) (L : List (List F)) (k : Nat) : List F := (L.take k).flatten ++ zeros ((L.length - k) * c)
theorem ofP_len {c k : Nat} {L : List (List F)} (h : ∀ xs ∈ L, xs.length = c) (hk : k ≤ L.length) : (ofP c L k).length = L.length * c := by
  rw [ofP, List.length_append, zeros_len, flat_len (c := c) (fun x hx => h x (List.mem_of_mem_take hx)), List.length_take, Nat.min_eq_left hk, ← Nat.add_mul]
  congr 1; omega
theorem ofP_zero (c : Nat) (L : List (List F)) : ofP c L 0 = zeros (L.length * c) := by simp [ofP]
theorem ofP_done (c : Nat) (L : List (List F)) : ofP c L L.length = L.flatten := by simp [ofP, zeros]
theorem zeros_drop (m n : Nat) : (zeros m).drop n = zeros (m - n) := by simp [zeros]
theorem ofP_step {c k : Nat} {L : List (List F)} {xs : List F} (h : ∀ xs ∈ L, xs.length = c) (hx : L[k]? = some xs) :
    (ofP c L k).take (k * c) ++ xs ++ (ofP c L k).drop (k * c + xs.length) = ofP c L (k + 1) := by
  have hk : k < L.length := (List.getElem?_eq_some_iff.1 hx).1
  have hl : (L.take k).flatten.length = k * c := by
    rw [flat_len (c := c) (fun x hx => h x (List.mem_of_mem_take hx)), List.length_take, Nat.min_eq_left (by omega)]
  have hxl : xs.length = c := h xs (List.mem_of_getElem? hx)
  have e1 : (ofP c L k).take (k * c) = (L.take k).flatten := by rw [ofP, List.take_left' hl]
  have e2 : (ofP c L k).drop (k * c + xs.length) = zeros ((L.length - (k + 1)) * c) := by
    rw [ofP, ← List.drop_drop, List.drop_left' hl, zeros_drop, hxl]
    congr 1
    rw [show L.length - k = (L.length - (k + 1)) + 1 from by omega, Nat.succ_mul]; omega
  have hd : L[k] = xs := (List.getElem?_eq_some_iff.1 hx).2
  rw [e1, e2, ofP, List.take_succ_eq_append_getElem hk, List.flatten_append, hd]
  simp
theorem grownBy_setRow {w w' : World} {g : Nat} (h : w.grownBy w' (some g)) (cs : Array Value) : w.grownBy (w'.setRow g cs) (some g) :=
  ⟨h.os, h.tape, h.output, by simpa [World.setRow] using h.size, fun k hk hne => (setRow_heap_other _ _ _ _ (fun e => hne (by rw [e]))).trans (h.block k hk hne)⟩
set_option maxHeartbeats 1000000 in
theorem of_F (c l cap : Nat) (a : Option Addr) (L : List (List F)) (w : World) (hc : c ≤ 64) (hl : l = L.length) (hl6 : l ≤ 64) (hL : ∀ xs ∈ L, xs.length = c) (hX : Rows8 w a L) :
    Calls Tryz.prog 73 #[.int .i64 c, .slice a l cap] w fun e w' => ∃ g n, e = .returned (.tuple #[.agg #[.int .i64 l, .int .i64 c, .slice (some ⟨g, 0, none⟩) n n], .nilIface]) ∧ n = l * c ∧ w.heap.size ≤ g ∧
      w'.heap[g]? = some (.cells (vfs L.flatten) 5 (0, 0)) ∧ Below w.heap.size w w' := by
  have HL : Hid _ := hl
  have HA : Hid _ := hL
  have HR : Hid (Rows8 w a L) := hX
  clear hl hL hX
  go_enter Tryz.func73, Tryz.ntmps73
  go_wp2_with fail
  refine Calls.mono (zero_F l c _ hl6 hc) ?_
  rintro e w2 ⟨g, n, rfl, hn, hg, hh, hb2⟩
  have z2 := hb2.size
  simp only [World.size_alloc] at z2 hg
  have z4 : w.heap.size < w2.heap.size := by omega
  have zg : g < w2.heap.size := ltHeap hh
  have HN : Hid _ := hn
  have HG : Hid _ := hh
  have HB' : Hid (Below w.heap.size w w2) := ((Below.refl w.heap.size w).alloc (Nat.le_refl _) _).trans (hb2.mono (by simp))
  have B1' : Hid _ := heap_later (heap_alloc_last w (.cells #[.int .i64 0, .int .i64 0, .slice none 0 0] 73)) hb2
  clear hn hh hb2
  go_wp2
  have B2 : Hid _ := heap_alloc_last w2 (.cells #[.int .i64 l, .int .i64 c, .slice (some ⟨g, 0, none⟩) n n] 73)
  have B1 : Hid ((w2.alloc (.cells #[.int .i64 l, .int .i64 c, .slice (some ⟨g, 0, none⟩) n n] 73)).heap[w.heap.size]? = some (.cells #[.int .i64 0, .int .i64 0, .slice none 0 0] 73 (0, 0))) :=
    (Below.heap_alloc _ _ _ z4).trans B1'.out
  have B3 : Hid ((w2.alloc (.cells #[.int .i64 l, .int .i64 c, .slice (some ⟨g, 0, none⟩) n n] 73)).heap[g]? = some (.cells (vfs (zeros (l * c))) 5 (0, 0))) := (Below.heap_alloc _ _ _ zg).trans HG.out
  have B4 : Hid (Below w.heap.size w (w2.alloc (.cells #[.int .i64 l, .int .i64 c, .slice (some ⟨g, 0, none⟩) n n] 73))) := HB'.out.alloc (by omega) _
  clear HG HB' B1'
  generalize hM : w2.heap.size = M at *
  generalize (w2.alloc (.cells #[.int .i64 l, .int .i64 c, .slice (some ⟨g, 0, none⟩) n n] 73)) = W3 at *
  clear hM
  go_loopw [23] (fun i wr => ∃ k : Nat, k ≤ l ∧ i = .int .i64 k ∧ W3.grownBy wr (some g) ∧ wr.heap[g]? = some (.cells (vfs (ofP c L k)) 5 (0, 0))) (fun i _ => l - (intOf i).toNat)
  case atStart => exact ⟨0, by omega, rfl, World.grownBy.refl _ _, by rw [ofP_zero, ← HL.out]; exact B3.out⟩
  case round =>
    obtain ⟨k, hk, rfl, hgb, hs⟩ := hrel
    by_cases hlt : k < l
    · have hkL : k < L.length := by rw [← HL.out]; exact hlt
      have hget : L[k]? = some L[k] := List.getElem?_eq_getElem hkL
      generalize L[k] = xs at hget
      have HGet : Hid _ := hget
      have hxl := HA.out xs (List.mem_of_getElem? hget)
      have HXL : Hid _ := hxl
      rcases HR.out with e0 | ⟨b, off, rfl, hrows⟩
      · rw [e0] at hkL; simp at hkL
      obtain ⟨a', cap', hc1, hr1⟩ := hrows k xs hget
      have hbw := below_grown B4.out hgb (by omega)
      have c0 := cell_later hbw hc1
      rw [hxl] at c0
      have HR1 : Hid (Row8 w a' xs) := hr1
      have k0 := grown_block hgb B2.out (by omega)
      have c1 := cellAt k0 0 _ rfl
      have c2 := cellAt k0 1 _ rfl
      have c3 := cellAt k0 2 _ rfl
      have HGB : Hid _ := hgb
      have HS : Hid _ := hs
      have HBW : Hid _ := hbw
      clear k0 hgb hs hc1 hr1 hrows hget hxl hbw
      go_wp2_with fail
      refine Calls.mono (rowOf_some l c k g 0 n n _ hl6 hc hlt HN.out (Nat.le_refl _)) ?_
      rintro e w5 ⟨rfl, hb5⟩
      rw [rof_row hlt HN.out]
      have hr5 := row8_below HR1.out (HBW.out.trans (hb5.mono HBW.out.size))
      have hs5 := heap_later HS.out hb5
      have hle : k * c + xs.length ≤ (ofP c L k).length := by
        have h1 := Nat.mul_le_mul_right c (show k + 1 ≤ l from hlt)
        rw [Nat.succ_mul] at h1
        rw [ofP_len HA.out (by omega), ← HL.out, HXL.out]; exact h1
      have hcp := fun ty => run_copyAt g (k * c) c (n - k * c) a' c cap' (ofP c L k) xs w5 ty HXL.out.symm HXL.out.symm hle hs5 hr5
      rw [ofP_step HA.out HGet.out] at hcp
      have HS5 : Hid _ := setRow_heap _ _ _ (vfs (ofP c L (k + 1))) _ _ hs5
      have HGB5 : Hid _ := grownBy_setRow (grown_below HGB.out hb5) (vfs (ofP c L (k + 1)))
      clear hs5 hb5 c0 c1 c2 c3 hr5
      go_wp2
      exact ⟨⟨k + 1, by omega, by go_num, HGB5.out, HS5.out⟩, by simp [intOf]; omega⟩
    · have e : k = l := by omega
      subst e
      have hd : ofP c L k = L.flatten := by rw [HL.out, ofP_done]
      rw [hd] at hs
      have k0 := grown_block hgb B2.out (by omega)
      have c1 := cellAt k0 0 _ rfl
      have c2 := cellAt k0 1 _ rfl
      have c3 := cellAt k0 2 _ rfl
      have k1 := grown_block hgb B1.out (by omega)
      have c4 := cellAt k1 0 _ rfl
      have c5 := cellAt k1 1 _ rfl
      have c6 := cellAt k1 2 _ rfl
      have d4 : wr.frozen? ⟨w.heap.size, 0, none⟩ = false := frozen_of_row _ _ _ _ _ k1
      have d5 : wr.frozen? ⟨w.heap.size, 1, none⟩ = false := frozen_of_row _ _ _ _ _ k1
      have d6 : wr.frozen? ⟨w.heap.size, 2, none⟩ = false := frozen_of_row _ _ _ _ _ k1
      have HGB : Hid _ := hgb
      have HS : Hid _ := hs
      clear k0 k1 hgb hs
      go_wp2
      refine bodyPost_ret (v := .tuple #[.agg #[.int .i64 k, .int .i64 c, .slice (some ⟨g, 0, none⟩) n n], .nilIface]) (by simp [results, Tryz.results73, go_sem, c4, c5, c6]) rfl ⟨g, n, rfl, HN.out, by omega, ?_, ?_⟩
      · rw [heap_setCell_other _ _ _ _ (by show g ≠ w.heap.size; omega), heap_setCell_other _ _ _ _ (by show g ≠ w.heap.size; omega), heap_setCell_other _ _ _ _ (by show g ≠ w.heap.size; omega)]
        exact HS.out
      · exact (((below_grown B4.out HGB.out (by omega)).setCell (by simp) _).setCell (by simp) _).setCell (by simp) _
end Go.Proofs.YtkoakingmnjdoaaGreatDoor
