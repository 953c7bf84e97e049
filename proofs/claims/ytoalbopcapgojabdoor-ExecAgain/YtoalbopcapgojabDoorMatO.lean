/- What Of and One of package mat answer, of all rows in form; nothing that was there turns. -/
import Derived.Test.YtoalbopcapgojabDoorMatA
namespace Go.Proofs.YtoalbopcapgojabDoor
open Go.RowKit Gf
set_option linter.unusedVariables false
set_option maxRecDepth 20000
/-- a list of rows in memory -/
def Rows8 (w : World) (a : Option Addr) (L : List (List F)) : Prop :=
  L = [] ∨ ∃ b off, a = some ⟨b, off, none⟩ ∧ ∀ j xs, L[j]? = some xs → ∃ a' cap', w.cell? ⟨b, off + j, none⟩ = some (.slice a' xs.length cap') ∧ Row8 w a' xs
theorem rows8_below {w w' : World} {a : Option Addr} {L : List (List F)} (h : Rows8 w a L) (hb : Below w.heap.size w w') : Rows8 w' a L := by
  rcases h with rfl | ⟨b, off, rfl, h⟩
  · exact .inl rfl
  · exact .inr ⟨b, off, rfl, fun j xs hj => by
      obtain ⟨a', cap', h1, h2⟩ := h j xs hj
      exact ⟨a', cap', cell_later hb h1, row8_below h2 hb⟩⟩
theorem run_copyAt (g o n dc : Nat) (a : Option Addr) (la ca : Nat) (zs xs : List F) (w : World) (ty : TypeId) (hla : la = xs.length) (hn : n = xs.length) (hle : o + xs.length ≤ zs.length)
    (hg : w.heap[g]? = some (.cells (vfs zs) 5 (0, 0))) (hx : Row8 w a xs) :
    (Builtin.copy_ #[26, 26] ty #[.slice (some ⟨g, o, none⟩) n dc, .slice a la ca]).run Tryd.prog w = .ok (goInt xs.length) (w.setRow g (vfs (zs.take o ++ xs ++ zs.drop (o + xs.length)))) := by
  have hs : (Tryd.prog.info? 5).map (·.size) = some 1 := by kernel_rfl
  subst hn hla
  rcases hx with rfl | ⟨b, off, rfl, hx⟩
  · rw [run_copy_none w _ _ _ _ _ _ _ _ _ _ Tryd.underlying26 hs (by simp)]
    simp only [List.length_nil, List.append_nil, Nat.add_zero, List.take_append_drop]
    rw [setRow_self w g _ _ _ hg]
    rfl
  · have := run_copy_row (P := Tryd.prog) w 26 26 ty 5 g o xs.length dc ⟨b, off, none⟩ xs.length ca (vfs zs) 5 (xs.map vf) Tryd.underlying26 hs hg
      (by show _ = min _ _; rw [List.length_map]; omega) (fun j v hv => by
        simp only [List.getElem?_map, Option.map_eq_some_iff] at hv
        obtain ⟨x, hx1, rfl⟩ := hv
        have hj : j < xs.length := (List.getElem?_eq_some_iff.1 hx1).1
        have e : at8 xs j = x := by simp [at8, hx1]
        have hadd : (⟨b, off, none⟩ : Addr).add j = ⟨b, off + j, none⟩ := by unfold Addr.add; split <;> simp_all
        rw [hadd, hx j hj, e]; rfl) (by simp [vfs_size]; omega) (fun v hv => by
        simp only [List.mem_map] at hv
        obtain ⟨x, _, rfl⟩ := hv
        rfl)
    rw [this]
    congr 2
    · simp
    · simp [vfs, List.map_drop, List.map_take]
theorem rof_row {k l c n : Nat} (hk : k < l) (hn : n = l * c) : rof 0 (k * c) n = k * c := by
  by_cases h : n = k * c
  · have h1 : k * c + c ≤ l * c := by
      have := Nat.mul_le_mul_right c (show k + 1 ≤ l from hk)
      rwa [Nat.succ_mul] at this
    have hc : c = 0 := by omega
    subst hc
    simp [rof]
  · rw [rof_room h, Nat.zero_add]
theorem flat_len {c : Nat} : ∀ {L : List (List F)}, (∀ xs ∈ L, xs.length = c) → L.flatten.length = L.length * c
  | [], _ => by simp
  | xs :: L, h => by
    rw [List.flatten_cons, List.length_append, flat_len (L := L) (fun x hx => h x (List.mem_cons_of_mem _ hx)), h xs List.mem_cons_self, List.length_cons, Nat.succ_mul, Nat.add_comm]
/-- the first k rows, noughts behind -/
def ofP (c : Nat) (L : List (List F)) (k : Nat) : List F := (L.take k).flatten ++ zeros ((L.length - k) * c)
theorem ofP_len {c k : Nat} {L : List (List F)} (h : ∀ xs ∈ L, xs.length = c) (hk : k ≤ L.length) : (ofP c L k).length = L.length * c := by
  rw [ofP, List.length_append, zeros_len, flat_len (c := c) (fun x hx => h x (List.mem_of_mem_take hx)), List.length_take, Nat.min_eq_left hk, ← Nat.add_mul]
  congr 1; omega
theorem ofP_zero (c : Nat) (L : List (List F)) : ofP c L 0 = zeros (L.length * c) := by simp [ofP]
theorem ofP_done (c : Nat) (L : List (List F)) : ofP c L L.length = L.flatten := by simp [ofP, zeros]
theorem zeros_drop (m n : Nat) : (zeros m).drop n = zeros (m - n) := by simp [zeros]
theorem ofP_step {c k : Nat} {L : List (List F)} {xs : List F} (h : ∀ xs ∈ L, xs.length = c) (hx : L[k]? = some xs) :
    (ofP c L k).take (k * c) ++ xs ++ (ofP c L k).drop (k * c + xs.length) = ofP c L (k + 1) := by
  have hk : k < L.length := (List.getElem?_eq_some_iff.1 hx).1
  have hl : (L.take k).flatten.length = k * c := by
    rw [flat_len (c := c) (fun x hx => h x (List.mem_of_mem_take hx)), List.length_take, Nat.min_eq_left (by omega)]
  have hxl : xs.length = c := h xs (List.mem_of_getElem? hx)
  have e1 : (ofP c L k).take (k * c) = (L.take k).flatten := by rw [ofP, List.take_left' hl]
  have e2 : (ofP c L k).drop (k * c + xs.length) = zeros ((L.length - (k + 1)) * c) := by
    rw [ofP, ← List.drop_drop, List.drop_left' hl, zeros_drop, hxl]
    congr 1
    rw [show L.length - k = (L.length - (k + 1)) + 1 from by omega, Nat.succ_mul]; omega
  have hd : L[k] = xs := (List.getElem?_eq_some_iff.1 hx).2
  rw [e1, e2, ofP, List.take_succ_eq_append_getElem hk, List.flatten_append, hd]
  simp
theorem grownBy_setRow {w w' : World} {g : Nat} (h : w.grownBy w' (some g)) (cs : Array Value) : w.grownBy (w'.setRow g cs) (some g) :=
  ⟨h.os, h.tape, h.output, by simpa [World.setRow] using h.size, fun k hk hne => (setRow_heap_other _ _ _ _ (fun e => hne (by rw [e]))).trans (h.block k hk hne)⟩
end Go.Proofs.YtoalbopcapgojabDoor
