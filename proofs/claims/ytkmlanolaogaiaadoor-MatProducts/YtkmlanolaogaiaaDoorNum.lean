/- What Num of package tesseranum answers of an error of package api, and of none: its number; nothing that was there turns. -/
import Derived.Test.YtkmlanolaogaiaaDoorErrs
namespace Go.Proofs.YtkmlanolaogaiaaDoor
open Go.RowKit Go.ChangeShapes
set_option linter.unusedVariables false
set_option maxRecDepth 20000
/-- the errors' variables, in the document's order -/
def gsNum : List Nat := [1, 0, 2, 3, 4, 5, 6, 7, 8, 9, 10, 11, 12, 13, 14, 15, 16, 17, 18, 19, 20, 21, 22, 23, 24]
theorem num_nil (w : World) : Calls Tryd.prog 36 #[.nilIface] w fun e w' => e = .returned (.int .i64 0) ∧ w = w' := by
  go_enter Tryd.func36, Tryd.ntmps36
  go_wp2
  go_ret
  exact ⟨rfl, rfl⟩
set_option maxHeartbeats 2000000 in
theorem num_fn (k : Nat) (a : Nat → Addr) (w : World) (hk : k < 25) (H : ∀ j, j < 25 → w.cell? ⟨gsNum.getD j 0, 0, none⟩ = some (errAt (a j))) (hne : ∀ j, j < 25 → j ≠ k → a k ≠ a j)
    (hh : ∀ j, j < 25 → ∃ c t, w.heap[(a j).block]? = some (.cells c t (0, 0))) :
    Calls Tryd.prog 36 #[.iface 95 (.pointer (some (a k)))] w fun e w' => e = .returned (.int .i64 ((k : Int) + 1)) ∧ Below w.heap.size w w' := by
  have c0 : w.cell? ⟨1, 0, none⟩ = some (.iface 95 (.pointer (some (a 0)))) := H 0 (by decide)
  have c1 : w.cell? ⟨0, 0, none⟩ = some (.iface 95 (.pointer (some (a 1)))) := H 1 (by decide)
  have c2 : w.cell? ⟨2, 0, none⟩ = some (.iface 95 (.pointer (some (a 2)))) := H 2 (by decide)
  have c3 : w.cell? ⟨3, 0, none⟩ = some (.iface 95 (.pointer (some (a 3)))) := H 3 (by decide)
  have c4 : w.cell? ⟨4, 0, none⟩ = some (.iface 95 (.pointer (some (a 4)))) := H 4 (by decide)
  have c5 : w.cell? ⟨5, 0, none⟩ = some (.iface 95 (.pointer (some (a 5)))) := H 5 (by decide)
  have c6 : w.cell? ⟨6, 0, none⟩ = some (.iface 95 (.pointer (some (a 6)))) := H 6 (by decide)
  have c7 : w.cell? ⟨7, 0, none⟩ = some (.iface 95 (.pointer (some (a 7)))) := H 7 (by decide)
  have c8 : w.cell? ⟨8, 0, none⟩ = some (.iface 95 (.pointer (some (a 8)))) := H 8 (by decide)
  have c9 : w.cell? ⟨9, 0, none⟩ = some (.iface 95 (.pointer (some (a 9)))) := H 9 (by decide)
  have c10 : w.cell? ⟨10, 0, none⟩ = some (.iface 95 (.pointer (some (a 10)))) := H 10 (by decide)
  have c11 : w.cell? ⟨11, 0, none⟩ = some (.iface 95 (.pointer (some (a 11)))) := H 11 (by decide)
  have c12 : w.cell? ⟨12, 0, none⟩ = some (.iface 95 (.pointer (some (a 12)))) := H 12 (by decide)
  have c13 : w.cell? ⟨13, 0, none⟩ = some (.iface 95 (.pointer (some (a 13)))) := H 13 (by decide)
  have c14 : w.cell? ⟨14, 0, none⟩ = some (.iface 95 (.pointer (some (a 14)))) := H 14 (by decide)
  have c15 : w.cell? ⟨15, 0, none⟩ = some (.iface 95 (.pointer (some (a 15)))) := H 15 (by decide)
  have c16 : w.cell? ⟨16, 0, none⟩ = some (.iface 95 (.pointer (some (a 16)))) := H 16 (by decide)
  have c17 : w.cell? ⟨17, 0, none⟩ = some (.iface 95 (.pointer (some (a 17)))) := H 17 (by decide)
  have c18 : w.cell? ⟨18, 0, none⟩ = some (.iface 95 (.pointer (some (a 18)))) := H 18 (by decide)
  have c19 : w.cell? ⟨19, 0, none⟩ = some (.iface 95 (.pointer (some (a 19)))) := H 19 (by decide)
  have c20 : w.cell? ⟨20, 0, none⟩ = some (.iface 95 (.pointer (some (a 20)))) := H 20 (by decide)
  have c21 : w.cell? ⟨21, 0, none⟩ = some (.iface 95 (.pointer (some (a 21)))) := H 21 (by decide)
  have c22 : w.cell? ⟨22, 0, none⟩ = some (.iface 95 (.pointer (some (a 22)))) := H 22 (by decide)
  have c23 : w.cell? ⟨23, 0, none⟩ = some (.iface 95 (.pointer (some (a 23)))) := H 23 (by decide)
  have c24 : w.cell? ⟨24, 0, none⟩ = some (.iface 95 (.pointer (some (a 24)))) := H 24 (by decide)
  clear H
  go_enter Tryd.func36, Tryd.ntmps36
  go_wp2
  clear c0 c1 c2 c3 c4 c5 c6 c7 c8 c9 c10 c11 c12 c13 c14 c15 c16 c17 c18 c19 c20 c21 c22 c23 c24
  have B0 : (w.alloc (.cells #[.iface 95 (.pointer (some (a 0))), .iface 95 (.pointer (some (a 1))), .iface 95 (.pointer (some (a 2))), .iface 95 (.pointer (some (a 3))), .iface 95 (.pointer (some (a 4))), .iface 95 (.pointer (some (a 5))), .iface 95 (.pointer (some (a 6))), .iface 95 (.pointer (some (a 7))), .iface 95 (.pointer (some (a 8))), .iface 95 (.pointer (some (a 9))), .iface 95 (.pointer (some (a 10))), .iface 95 (.pointer (some (a 11))), .iface 95 (.pointer (some (a 12))), .iface 95 (.pointer (some (a 13))), .iface 95 (.pointer (some (a 14))), .iface 95 (.pointer (some (a 15))), .iface 95 (.pointer (some (a 16))), .iface 95 (.pointer (some (a 17))), .iface 95 (.pointer (some (a 18))), .iface 95 (.pointer (some (a 19))), .iface 95 (.pointer (some (a 20))), .iface 95 (.pointer (some (a 21))), .iface 95 (.pointer (some (a 22))), .iface 95 (.pointer (some (a 23))), .iface 95 (.pointer (some (a 24)))] 28)).heap[w.heap.size]? = some (.cells ((List.range 25).map fun j => errAt (a j)).toArray 28 (0, 0)) := heap_alloc_last w _
  have HH : ∀ j, j < 25 → ∃ c t, (w.alloc (.cells #[.iface 95 (.pointer (some (a 0))), .iface 95 (.pointer (some (a 1))), .iface 95 (.pointer (some (a 2))), .iface 95 (.pointer (some (a 3))), .iface 95 (.pointer (some (a 4))), .iface 95 (.pointer (some (a 5))), .iface 95 (.pointer (some (a 6))), .iface 95 (.pointer (some (a 7))), .iface 95 (.pointer (some (a 8))), .iface 95 (.pointer (some (a 9))), .iface 95 (.pointer (some (a 10))), .iface 95 (.pointer (some (a 11))), .iface 95 (.pointer (some (a 12))), .iface 95 (.pointer (some (a 13))), .iface 95 (.pointer (some (a 14))), .iface 95 (.pointer (some (a 15))), .iface 95 (.pointer (some (a 16))), .iface 95 (.pointer (some (a 17))), .iface 95 (.pointer (some (a 18))), .iface 95 (.pointer (some (a 19))), .iface 95 (.pointer (some (a 20))), .iface 95 (.pointer (some (a 21))), .iface 95 (.pointer (some (a 22))), .iface 95 (.pointer (some (a 23))), .iface 95 (.pointer (some (a 24)))] 28)).heap[(a j).block]? = some (.cells c t (0, 0)) := fun j hj => by
    obtain ⟨c, t, h⟩ := hh j hj
    exact ⟨c, t, (Below.heap_alloc _ _ _ (ltHeap h)).trans h⟩
  have HB : Hid (Below w.heap.size w (w.alloc (.cells #[.iface 95 (.pointer (some (a 0))), .iface 95 (.pointer (some (a 1))), .iface 95 (.pointer (some (a 2))), .iface 95 (.pointer (some (a 3))), .iface 95 (.pointer (some (a 4))), .iface 95 (.pointer (some (a 5))), .iface 95 (.pointer (some (a 6))), .iface 95 (.pointer (some (a 7))), .iface 95 (.pointer (some (a 8))), .iface 95 (.pointer (some (a 9))), .iface 95 (.pointer (some (a 10))), .iface 95 (.pointer (some (a 11))), .iface 95 (.pointer (some (a 12))), .iface 95 (.pointer (some (a 13))), .iface 95 (.pointer (some (a 14))), .iface 95 (.pointer (some (a 15))), .iface 95 (.pointer (some (a 16))), .iface 95 (.pointer (some (a 17))), .iface 95 (.pointer (some (a 18))), .iface 95 (.pointer (some (a 19))), .iface 95 (.pointer (some (a 20))), .iface 95 (.pointer (some (a 21))), .iface 95 (.pointer (some (a 22))), .iface 95 (.pointer (some (a 23))), .iface 95 (.pointer (some (a 24)))] 28))) := (Below.refl _ _).alloc (Nat.le_refl _) _
  generalize (w.alloc (.cells #[.iface 95 (.pointer (some (a 0))), .iface 95 (.pointer (some (a 1))), .iface 95 (.pointer (some (a 2))), .iface 95 (.pointer (some (a 3))), .iface 95 (.pointer (some (a 4))), .iface 95 (.pointer (some (a 5))), .iface 95 (.pointer (some (a 6))), .iface 95 (.pointer (some (a 7))), .iface 95 (.pointer (some (a 8))), .iface 95 (.pointer (some (a 9))), .iface 95 (.pointer (some (a 10))), .iface 95 (.pointer (some (a 11))), .iface 95 (.pointer (some (a 12))), .iface 95 (.pointer (some (a 13))), .iface 95 (.pointer (some (a 14))), .iface 95 (.pointer (some (a 15))), .iface 95 (.pointer (some (a 16))), .iface 95 (.pointer (some (a 17))), .iface 95 (.pointer (some (a 18))), .iface 95 (.pointer (some (a 19))), .iface 95 (.pointer (some (a 20))), .iface 95 (.pointer (some (a 21))), .iface 95 (.pointer (some (a 22))), .iface 95 (.pointer (some (a 23))), .iface 95 (.pointer (some (a 24)))] 28)) = W1 at *
  clear hh
  go_loopw [36] (fun i wr => ∃ j : Nat, j ≤ k ∧ i = .int .i64 j ∧ wr = W1) (fun i _ => 25 - (intOf i).toNat)
  case atStart => exact ⟨0, by omega, rfl, rfl⟩
  case round =>
    obtain ⟨j, hj, rfl, rfl⟩ := hrel
    have hj25 : j < 25 := by omega
    have c0 : wr.cell? ⟨w.heap.size, j, none⟩ = some (.iface 95 (.pointer (some (a j)))) := cellAt B0 j _ (by
      simp only [List.getElem?_toArray, List.getElem?_map, List.getElem?_range hj25, Option.map_some, errAt])
    by_cases e : j = k
    · subst e
      have q := eq_same wr (a j)
      clear HH hne B0
      go_wp2
      go_ret
      exact ⟨rfl, HB.out⟩
    · obtain ⟨_, _, h1⟩ := HH k hk
      obtain ⟨_, _, h2⟩ := HH j hj25
      have q := eq_other (hne j hj25 e) h1 h2
      have hjk : j + 1 ≤ k := by omega
      clear HH hne B0 h1 h2
      go_wp2
      exact ⟨⟨j + 1, by omega, by go_num, trivial⟩, by simp [intOf]; omega⟩
theorem num_err {w : World} {es : List Addr} {k : Nat} {s : Addr} (h : ErrsAt w gsNum es) (hs : es[k]? = some s) :
    Calls Tryd.prog 36 #[errAt s] w fun e w' => e = .returned (.int .i64 ((k : Int) + 1)) ∧ Below w.heap.size w w' := by
  have hl : es.length = 25 := h.1.symm
  obtain ⟨hk, rfl⟩ := List.getElem?_eq_some_iff.1 hs
  have hget : ∀ j, (hj : j < 25) → es[j]? = some (es.getD j ⟨0, 0, none⟩) := fun j hj => by
    rw [List.getElem?_eq_getElem (by omega), List.getD_eq_getElem?_getD, List.getElem?_eq_getElem (by omega)]; rfl
  have hg : ∀ j, j < 25 → gsNum[j]? = some (gsNum.getD j 0) := fun j hj => by
    rw [List.getElem?_eq_getElem (by show j < 25; exact hj), List.getD_eq_getElem?_getD, List.getElem?_eq_getElem (by show j < 25; exact hj)]; rfl
  have hk25 : k < 25 := by omega
  have e0 : es[k] = es.getD k ⟨0, 0, none⟩ := by
    have := hget k hk25
    rw [List.getElem?_eq_getElem hk] at this
    exact Option.some.inj this
  have := num_fn k (fun j => es.getD j ⟨0, 0, none⟩) w hk25 (fun j hj => (h.2.2 j _ _ (hg j hj) (hget j hj)).1) (fun j hj hjk e => ?_) (fun j hj => (h.2.2 j _ _ (hg j hj) (hget j hj)).2)
  · rw [e0]; exact this
  · have e1 := hget k hk25
    have e2 := hget j hj
    rw [List.getElem?_eq_getElem (by omega)] at e1 e2
    have e3 : es[k] = es[j] := by rw [Option.some.inj e1, Option.some.inj e2]; exact e
    have hp := List.pairwise_iff_getElem.1 h.2.1
    rcases Nat.lt_or_gt_of_ne hjk with q | q
    · exact hp j k _ _ q e3.symm
    · exact hp k j _ _ q e3
end Go.Proofs.YtkmlanolaogaiaaDoor
