/- How a list of lists of bytes comes in, with the bounds of its rooms: facts for the frames of the laws; nothing of the program is proved here. -/
import Derived.Test.YtbnjjmmpgpomiaaDoorOpenRows
namespace Go.Proofs.YtbnjjmmpgpomiaaDoor
open Go.ChangeShapes Go.WideShapes Go.ChangeAt Go.RowKit Gf Go.Joins
set_option linter.unusedVariables false
set_option maxRecDepth 20000
/-- a list of rows in memory, the rooms bounded -/
def RowsB (w : World) (a : Option Addr) (L : List (List F)) : Prop :=
  L = [] ∨ ∃ b off, a = some ⟨b, off, none⟩ ∧ ∀ j xs, L[j]? = some xs → ∃ a' cap', w.cell? ⟨b, off + j, none⟩ = some (.slice a' xs.length cap') ∧ Row8 w a' xs ∧ xs.length ≤ cap' ∧ cap' ≤ 140737488351232 ∧ (a' = none → cap' = 0)
theorem rowsB_rows {w : World} {a : Option Addr} {L : List (List F)} (h : RowsB w a L) : Rows8 w a L :=
  h.imp id fun ⟨b, off, e, h⟩ => ⟨b, off, e, fun j xs hj => by
    obtain ⟨a', cap', h1, h2, _⟩ := h j xs hj
    exact ⟨a', cap', h1, h2⟩⟩
theorem bytesSl : Tryd.prog.bytesOf 37 = 24 := by kernel_rfl
theorem weightsAll_in {H : Type} {P : Program} {e : TypeId} : ∀ {l : List (DataW H)} {d : DataW H}, d ∈ l → ∀ n ∈ d.weights P e, n ∈ DataW.weightsAll P e l
  | [], d, hd, _, _ => by cases hd
  | x :: l, d, hd, n, hn => by
    simp only [DataW.weightsAll, List.mem_append]
    rcases List.mem_cons.1 hd with rfl | h
    · exact .inl hn
    · exact .inr (weightsAll_in h n hn)
theorem openRowsB {H : Type} {enc : TypeId × Value → H} {W : World} {v : Value} {d : DataW H} {p : List MemPlace} {base : Nat} {ts : List TypeId} {ds : List (DataW H)} {j : Nat}
    (hv : Value.okWide Tryd.prog W .any base 39 v) (h : DataW.Trod enc Tryd.prog W 0 (fun _ => true) true 39 v d p)
    (hsz : (DataW.weightsEach Tryd.prog ts ds).all (· ≤ reachBytes) = true) (ht : ts[j]? = some 39) (hd : ds[j]? = some d) :
    ∃ a l cap L, v = .slice a l cap ∧ l = List.length L ∧ RowsB W a L ∧ l ≤ 5864062014634 := by
  obtain ⟨fuel, hf⟩ := h
  obtain ⟨a0, l0, c0, rfl⟩ := okWide_slice Tryd.underlying39 hv
  have hw : ∀ n ∈ DataW.weights Tryd.prog 39 d, n ≤ reachBytes := fun n hn => by simpa using List.all_eq_true.1 hsz _ (DataW.weights_mem_each ht hd n hn)
  rcases Deep.open_int_rows Tryd.underlying39 Tryd.underlying37 Tryd.underlying5 cellsSl cellsU8 hf with ⟨hcs, hx⟩ | ⟨ad, len, cap, A, L, C, Z, hcs, _, hl, hm, hx, hr⟩
  · simp [Value.cells] at hcs
    obtain ⟨rfl, rfl, rfl⟩ := hcs
    exact ⟨none, 0, 0, [], rfl, rfl, .inl rfl, by omega⟩
  · simp [Value.cells] at hcs
    obtain ⟨rfl, rfl, rfl⟩ := hcs
    simp only [Prod.mk.injEq] at hx
    rw [hx.1] at hw
    simp only [DataW.weights, Tryd.underlying39] at hw
    have hl9 : l0 ≤ 5864062014634 := by
      have := hw _ (List.mem_cons_self ..)
      rw [bytesSl] at this
      simp only [reachBytes, List.length_map, List.length_range] at this
      omega
    have hC : ∀ r, r < l0 → A r ≠ none → C r ≤ 140737488351232 := fun r hrl hne => by
      obtain ⟨_, _, _, h4, _⟩ := hr r (by omega)
      cases hA : A r with
      | none => exact absurd hA hne
      | some a9 =>
        have hmem : (Deep.intRow (H := H) .u8 (A r) (L r) (Z r)) ∈ (List.range l0).map fun r => Deep.intRow (H := H) .u8 (A r) (L r) (Z r) := List.mem_map.2 ⟨r, List.mem_range.2 hrl, rfl⟩
        have h9 := hw (((lits .u8 ((Z r).take (L r)) : List (DataW H)).length + (lits .u8 ((Z r).drop (L r)) : List (DataW H)).length) * Tryd.prog.bytesOf 5)
          (List.mem_cons_of_mem _ (List.mem_append_left _ (weightsAll_in hmem _ (by simp [Deep.intRow, hA, DataW.weights, Tryd.underlying37]))))
        rw [bytes8] at h9
        simp only [reachBytes, lits, List.length_map, List.length_take, List.length_drop] at h9
        omega
    refine ⟨some ad, l0, c0, (List.range l0).map fun r => ((Z r).take (L r)).map toF, rfl, by simp, ?_, hl9⟩
    by_cases h0 : l0 = 0
    · left; simp [h0]
    · right
      obtain ⟨b, off, rfl⟩ := addr_off (hr 0 (by omega)).1
      refine ⟨b, off, rfl, fun j xs hj => ?_⟩
      have hjl : j < l0 := by have := (List.getElem?_eq_some_iff.1 hj).1; simpa using this
      rw [List.getElem?_map, List.getElem?_range hjl] at hj
      obtain rfl := Option.some.inj hj
      obtain ⟨h1, h2, h3, h4, h5, h6, h7⟩ := hr j (by omega)
      rw [add_off] at h1
      have hlen : (((Z j).take (L j)).map toF).length = L j := by rw [List.length_map, List.length_take]; omega
      refine ⟨A j, C j, by rw [hlen]; exact h1, ?_, by rw [hlen]; exact h2, ?_, h6⟩
      · by_cases hL0 : L j = 0
        · left; simp [hL0]
        · right
          cases hA : A j with
          | none => have := h6 hA; omega
          | some ad' =>
            obtain ⟨_, h8⟩ := h7 ad' hA
            obtain ⟨b', off', rfl⟩ := addr_off (h8 0 (by omega))
            refine ⟨b', off', rfl, fun i hi => ?_⟩
            rw [hlen] at hi
            have hc := h8 i (by omega)
            rw [add_off] at hc
            rw [hc]
            have hb := bounds_u8 (h5 ((Z j).getD i 0) (by rw [getD_get _ _ _ (by omega)]; exact List.getElem_mem _))
            have e : ((at8 (((Z j).take (L j)).map toF) i).toNat : Int) = (Z j).getD i 0 := by
              unfold at8
              rw [getD_get _ _ _ (by rw [hlen]; exact hi)]
              simp only [List.getElem_map, List.getElem_take]
              rw [getD_get _ _ _ (by omega)] at hb ⊢
              exact val_toF hb.1 hb.2
            rw [e]
      · by_cases hA : A j = none
        · have := h6 hA; omega
        · exact hC j hjl hA
end Go.Proofs.YtbnjjmmpgpomiaaDoor
