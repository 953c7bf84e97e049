/- What the document's own Of and Row of package mat's chapter answer; nothing that was there turns. -/
import Derived.Test.YtagahiahhgafpaaDoorMatTake
namespace Go.Proofs.YtagahiahhgafpaaDoor
open Go.RowKit Gf
set_option linter.unusedVariables false
/-- bytes laid behind a list of one's own, whatever they are -/
theorem appendB {w : World} {B n m c : Nat} {v : Value} {zs ys : List F} {a : Option Addr} (ty : TypeId) (ho : w.ownsRow B 5 1 v n (zs.map vf)) (hm : m = ys.length) (hb : n + m ≤ 1000000) (hy : Row8 w a ys) (hnil : a = none → c = 0) (hB : B ≤ w.heap.size) :
    ∃ v' w', (Builtin.append_ #[22, 22] ty #[v, .slice a m c]).run Tryd.prog w = .ok v' w' ∧ w'.ownsRow B 5 1 v' (n + m) ((zs ++ ys).map vf) ∧ w.grownBy w' v.ownBlock := by
  obtain ⟨i, hi, h1, h2, h3⟩ := info8
  rcases hy with rfl | ⟨b, off, rfl, hy⟩
  · obtain rfl : m = 0 := hm
    cases a with
    | none =>
      obtain rfl := hnil rfl
      refine ⟨v, w, ?_, by simpa using ho, grownBy_refl _ _⟩
      rcases ho.2 with ⟨rfl, rfl⟩ | ⟨g, cap, cur, rfl, _, hg, hle, _⟩
      · simp [Builtin.append_, run_underlying Tryd.underlying22, sizeOf, typeInfo, hi, Builtin.lenOf, Builtin.firstCells]
      · simp [Builtin.append_, run_underlying Tryd.underlying22, sizeOf, typeInfo, hi, Builtin.lenOf, Builtin.firstCells, loadCells, hle, storeCells]
    | some ad =>
      obtain ⟨v', w', h4, h5, h6, _⟩ := run_append_own_at (P := Tryd.prog) w B 22 ty 5 i _ 1 1 Tryd.underlying22 hi h3 h1 h2 rfl (by decide) v n _ ho ad 0 c [] rfl (fun j u h => by simp at h) (fun u h => by cases h) (by simp only [maxLen]; omega) (by omega) hB
      exact ⟨v', w', h4, by simpa using h5, h6⟩
  · obtain ⟨v', w', h4, h5, h6, _⟩ := run_append_own_at (P := Tryd.prog) w B 22 ty 5 i _ 1 1 Tryd.underlying22 hi h3 h1 h2 rfl (by decide) v n _ ho ⟨b, off, none⟩ m c (ys.map vf) (by rw [List.length_map]; omega)
      (fun j u hv => by
        simp only [List.getElem?_map, Option.map_eq_some_iff] at hv
        obtain ⟨x, hx1, rfl⟩ := hv
        have hj : j < ys.length := (List.getElem?_eq_some_iff.1 hx1).1
        have e : at8 ys j = x := by simp [at8, hx1]
        have hadd : (⟨b, off, none⟩ : Addr).add j = ⟨b, off + j, none⟩ := by unfold Addr.add; split <;> simp_all
        rw [hadd, hy j hj, e]; rfl) (fun u hv => by
        simp only [List.mem_map] at hv
        obtain ⟨x, _, rfl⟩ := hv
        rfl) (by simp only [maxLen]; omega) (by omega) hB
    exact ⟨v', w', h4, by rw [List.map_append]; exact h5, h6⟩
theorem ownB_slice {w : World} {B n : Nat} {v : Value} {zs : List F} (ho : w.ownsRow B 5 1 v n (zs.map vf)) : ∃ a cap, v = .slice a n cap ∧ Row8 w a zs ∧ n = zs.length ∧ (a = none → cap = 0) := by
  have hl := ho.1
  rw [List.length_map] at hl
  rcases ho.2 with ⟨rfl, e⟩ | ⟨g, cap, cur, rfl, h2⟩
  · exact ⟨none, 0, by rw [e], .inl (List.eq_nil_of_length_eq_zero (by omega)), by omega, fun _ => rfl⟩
  · refine ⟨_, _, rfl, .inr ⟨g, 0, rfl, fun j hj => ?_⟩, by omega, fun h => by cases h⟩
    rw [Nat.zero_add, ho.cellAt j (by omega), List.getElem?_map, List.getElem?_eq_getElem hj]
    simp [at8, hj, vf]
theorem own_mono {w : World} {B B' size n : Nat} {v : Value} {e : TypeId} {xs : List Value} (h : w.ownsRow B e size v n xs) (hb : B' ≤ B) : w.ownsRow B' e size v n xs :=
  ⟨h.1, h.2.imp id fun ⟨g, cap, cur, h1, h2, h3⟩ => ⟨g, cap, cur, h1, Nat.le_trans hb h2, h3⟩⟩
set_option maxHeartbeats 1000000 in
theorem rof_F (c l cap : Nat) (a : Option Addr) (L : List (List F)) (w : World) (hc : c ≤ 64) (hl : l = L.length) (hl6 : l ≤ 64) (hL : ∀ xs ∈ L, xs.length = c) (hX : Rows8 w a L)
    (hcp : ∀ b off, a = some ⟨b, off, none⟩ → ∀ j n a' cap', w.cell? ⟨b, off + j, none⟩ = some (.slice a' n cap') → j < L.length → a' = none → cap' = 0) :
    Calls Tryd.prog 21 #[.int .i64 c, .slice a l cap] w fun e w' => ∃ a' n cap', e = .returned (.agg #[.int .i64 l, .int .i64 c, .slice a' n cap']) ∧ n = l * c ∧ Row8 w' a' L.flatten ∧ Below w.heap.size w w' := by
  have HL : Hid _ := hl
  have HA : Hid _ := hL
  have HR : Hid (Rows8 w a L) := hX
  have HC : Hid _ := hcp
  clear hl hL hX hcp
  go_enter Tryd.func21, Tryd.ntmps21
  go_wp2
  have hA := holds_new (holds_new (holds_nil w) #[.int .i64 0, .int .i64 0, .slice none 0 0] 24) #[.int .i64 l, .int .i64 c, .slice none 0 0] 24
  rw [World.size_alloc] at hA
  have B4 : Hid (Below w.heap.size w ((w.alloc (.cells #[.int .i64 0, .int .i64 0, .slice none 0 0] 24)).alloc (.cells #[.int .i64 l, .int .i64 c, .slice none 0 0] 24))) := ((Below.refl _ _).alloc (Nat.le_refl _) _).alloc (by simp) _
  have HH : Hid _ := hA
  have z0 : w.heap.size + 2 ≤ ((w.alloc (.cells #[.int .i64 0, .int .i64 0, .slice none 0 0] 24)).alloc (.cells #[.int .i64 l, .int .i64 c, .slice none 0 0] 24)).heap.size := by simp
  clear hA
  generalize ((w.alloc (.cells #[.int .i64 0, .int .i64 0, .slice none 0 0] 24)).alloc (.cells #[.int .i64 l, .int .i64 c, .slice none 0 0] 24)) = W at *
  go_loopw [14] (fun i wr => ∃ k : Nat, ∃ v : Value, k ≤ l ∧ i = .int .i64 k ∧ Below (w.heap.size + 1) W wr ∧ wr.heap[w.heap.size + 1]? = some (.cells #[.int .i64 l, .int .i64 c, v] 24 (0, 0)) ∧ wr.ownsRow (w.heap.size + 2) 5 1 v (k * c) ((L.take k).flatten.map vf)) (fun i _ => l - (intOf i).toNat)
  case atStart => exact ⟨0, .slice none 0 0, by omega, rfl, Below.refl _ _, holds_at HH.out 0 rfl, by simpa using World.ownsRow_nil _ _ _ _⟩
  case round =>
    obtain ⟨k, v, hk, rfl, hbw, hm, hown⟩ := hrel
    have zr := hbw.size
    obtain ⟨av, capv, rfl, hrv, hnv, hnn⟩ := ownB_slice hown
    have HBW : Hid _ := hbw
    have HM : Hid _ := hm
    by_cases hlt : k < l
    · have hkL : k < L.length := by rw [← HL.out]; exact hlt
      have hget : L[k]? = some L[k] := List.getElem?_eq_getElem hkL
      have e9 := hget
      generalize L[k] = xs at hget e9
      rcases HR.out with e0 | ⟨b, off, rfl, hrows⟩
      · rw [e0] at hkL; simp at hkL
      obtain ⟨a', cap', hc1, hr1⟩ := hrows k xs hget
      have hxl := HA.out xs (List.mem_of_getElem? hget)
      have hB0 : Below w.heap.size w wr := B4.out.trans (hbw.mono (by omega))
      have c0 := cell_later hB0 hc1
      rw [hxl] at c0
      have hcz := HC.out b off rfl k xs.length a' cap' hc1 hkL
      have hlk : k * c + c ≤ 4096 := by
        have h1 := Nat.mul_le_mul (show k + 1 ≤ 64 by omega) hc
        rw [Nat.succ_mul] at h1; omega
      obtain ⟨v', w6, hrun, ho6, hgr⟩ := appendB (m := c) (c := cap') 22 hown hxl.symm (by omega) (row8_below hr1 hB0) hcz (by omega)
      have hm6 : w6.heap[w.heap.size + 1]? = some (.cells #[.int .i64 l, .int .i64 c, .slice av (k * c) capv] 24 (0, 0)) := own_other hown hgr hm (by decide)
      have hb6 : Below (w.heap.size + 1) W w6 := below_own hbw (own_mono (B := w.heap.size + 2) hown (by omega)) hgr (by omega)
      obtain ⟨a6, cap6, rfl, h7, h8, h9⟩ := ownB_slice ho6
      clear h7 h8 h9
      have HRun : Hid _ := hrun
      have HO6 : Hid _ := ho6
      have HM6 : Hid _ := hm6
      have HB6 : Hid _ := hb6
      have c1 := cellAt hm 2 _ rfl
      have d1 := cellAt hm6 2 _ rfl
      have d2 : w6.frozen? ⟨w.heap.size + 1, 2, none⟩ = false := frozen_of_row _ _ _ _ _ hm6
      have HTk : Hid ((L.take k).flatten ++ xs = (L.take (k + 1)).flatten) := by
        show _ = _
        rw [List.take_succ_eq_append_getElem hkL, List.flatten_append]
        have : L[k] = xs := (List.getElem?_eq_some_iff.1 hget).2
        rw [this]; simp
      clear hown hm hbw hget e9 hrows hc1 hr1 hxl hB0 hcz hlk hrun ho6 hgr hm6 hb6 hrv hnv hnn
      go_wp2_with (at_builtin; refine wpList_append_run rfl _ _ 22 rfl _ _ _ _ rfl rfl HRun.out ?_)
      refine ⟨⟨k + 1, .slice a6 (k * c + c) cap6, by omega, by go_num, HB6.out.setCell (by simp) _, ?_, ?_⟩, by simp [intOf]; omega⟩
      · rw [heap_setCell_same _ _ _ _ _ _ HM6.out]; rfl
      · rw [← HTk.out, Nat.succ_mul]
        refine ⟨HO6.out.1, HO6.out.2.imp id fun ⟨g, cap, cur, h1, h2, h3, h4⟩ => ⟨g, cap, cur, h1, h2, ?_, h4⟩⟩
        rw [heap_setCell_other _ _ _ _ (by show g ≠ w.heap.size + 1; omega)]; exact h3
    · obtain rfl : k = l := by omega
      have hd : L.take k = L := List.take_of_length_le (by rw [HL.out]; exact Nat.le_refl _)
      rw [hd] at hrv
      have HRV : Hid _ := hrv
      have k1 := (hbw.block w.heap.size (by omega)).trans (holds_at HH.out 1 rfl)
      have c1 := cellAt hm 0 _ rfl
      have c2 := cellAt hm 1 _ rfl
      have c3 := cellAt hm 2 _ rfl
      have c4 := cellAt k1 0 _ rfl
      have c5 := cellAt k1 1 _ rfl
      have c6 := cellAt k1 2 _ rfl
      have d4 : wr.frozen? ⟨w.heap.size, 0, none⟩ = false := frozen_of_row _ _ _ _ _ k1
      have d5 : wr.frozen? ⟨w.heap.size, 1, none⟩ = false := frozen_of_row _ _ _ _ _ k1
      have d6 : wr.frozen? ⟨w.heap.size, 2, none⟩ = false := frozen_of_row _ _ _ _ _ k1
      have HO : Hid _ := hown
      have hB0 : Hid (Below w.heap.size w wr) := B4.out.trans (hbw.mono (by omega))
      have HK1 : Hid _ := k1
      clear hown hm hbw k1 hrv hnv hd
      go_wp2
      refine bodyPost_ret (v := .agg #[.int .i64 k, .int .i64 c, .slice av (k * c) capv]) (by simp [results, Tryd.results21, go_sem, c4, c5, c6]) rfl ⟨av, k * c, capv, rfl, rfl, ?_, ?_⟩
      · rcases HRV.out with e | ⟨b1, o1, e1, h1⟩
        · exact .inl e
        · refine .inr ⟨b1, o1, e1, fun j hj => ?_⟩
          have hne : b1 ≠ w.heap.size := by
            have := World.ownsRow.lt (w := wr) (base := w.heap.size + 2) (e := 5) (size := 1) HO.out b1 (by rw [e1]; rfl)
            omega
          rw [World.cell?_setCell_far _ _ _ _ (by show w.heap.size ≠ b1; omega), World.cell?_setCell_far _ _ _ _ (by show w.heap.size ≠ b1; omega), World.cell?_setCell_far _ _ _ _ (by show w.heap.size ≠ b1; omega)]
          exact h1 j hj
      · exact ((hB0.out.setCell (by simp) _).setCell (by simp) _).setCell (by simp) _
theorem rows_cap_later {w w' : World} {a : Option Addr} {L : List (List F)} (hX : Rows8 w a L) (hb : Below w.heap.size w w')
    (hcp : ∀ b off, a = some ⟨b, off, none⟩ → ∀ j n a' cap', w.cell? ⟨b, off + j, none⟩ = some (.slice a' n cap') → j < L.length → a' = none → cap' = 0) :
    ∀ b off, a = some ⟨b, off, none⟩ → ∀ j n a' cap', w'.cell? ⟨b, off + j, none⟩ = some (.slice a' n cap') → j < L.length → a' = none → cap' = 0 := by
  intro b off e j n a' cap' hc hj ha
  rcases hX with e0 | ⟨b2, off2, e2, hrows⟩
  · rw [e0] at hj; simp at hj
  · rw [e] at e2
    cases e2
    obtain ⟨a1, cap1, h1, _⟩ := hrows j _ (List.getElem?_eq_getElem hj)
    have h2 := cell_later hb h1
    rw [hc] at h2
    simp only [Option.some.injEq, Value.slice.injEq] at h2
    obtain ⟨q1, q2, q3⟩ := h2
    rw [q3]
    exact hcp b off e j _ a1 cap1 h1 hj (by rw [← q1]; exact ha)
end Go.Proofs.YtagahiahhgafpaaDoor
