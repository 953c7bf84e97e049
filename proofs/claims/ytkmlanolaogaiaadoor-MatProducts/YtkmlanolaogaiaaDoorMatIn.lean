/- What the statements' own 'in' answers: a matrix with marked room behind its cells; nothing that was there turns. -/
import Derived.Test.YtkmlanolaogaiaaDoorMatSq
import Derived.Test.YtkmlanolaogaiaaDoorHolds
import Derived.Test.YtkmlanolaogaiaaDoorNumKept
import Derived.Test.YtkmlanolaogaiaaDoorRegHeld
namespace Go.Proofs.YtkmlanolaogaiaaDoor
open Go.RowKit Gf
set_option linter.unusedVariables false
set_option maxRecDepth 20000
set_option maxHeartbeats 1000000 in
theorem in_F (r c : Int) (l cap : Nat) (a : Option Addr) (xs : List F) (w : World) (hl : l = xs.length) (hm : l ≤ 140737488351232) (hX : Row8 w a xs) (hnil : a = none → cap = 0) :
    Calls Tryd.prog 7 #[.agg #[.int .i64 r, .int .i64 c, .slice a l cap]] w fun e w' => ∃ g, e = .returned (.agg #[.int .i64 r, .int .i64 c, .slice (some ⟨g, 0, none⟩) l (l + 6)]) ∧ w.heap.size ≤ g ∧
      w'.heap[g]? = some (.cells (vfs (xs ++ marks)) 5 (0, 0)) ∧ Below w.heap.size w w' := by
  have HL : Hid _ := hl
  have HR : Hid (Row8 w a xs) := hX
  have HN : Hid _ := hnil
  clear hl hX hnil
  have k0 := heap_alloc2_old w (.cells #[.int .i64 r, .int .i64 c, .slice a l cap] 24) (.cells #[.int .i64 0, .int .i64 0, .slice none 0 0] 24)
  have k1 := heap_alloc2_new w (.cells #[.int .i64 r, .int .i64 c, .slice a l cap] 24) (.cells #[.int .i64 0, .int .i64 0, .slice none 0 0] 24)
  go_enter Tryd.func7, Tryd.ntmps7
  go_wp2
  have HB : Hid (Below w.heap.size w ((w.alloc (.cells #[.int .i64 r, .int .i64 c, .slice a l cap] 24)).alloc (.cells #[.int .i64 0, .int .i64 0, .slice none 0 0] 24))) := ((Below.refl _ _).alloc (Nat.le_refl _) _).alloc (by simp) _
  have HR2 : Hid _ := row8_alloc (row8_alloc HR.out (.cells #[.int .i64 r, .int .i64 c, .slice a l cap] 24)) (.cells #[.int .i64 0, .int .i64 0, .slice none 0 0] 24)
  have hsz : w.heap.size < ((w.alloc (.cells #[.int .i64 r, .int .i64 c, .slice a l cap] 24)).alloc (.cells #[.int .i64 0, .int .i64 0, .slice none 0 0] 24)).heap.size := by simp; omega
  generalize ((w.alloc (.cells #[.int .i64 r, .int .i64 c, .slice a l cap] 24)).alloc (.cells #[.int .i64 0, .int .i64 0, .slice none 0 0] 24)) = W at *
  have c0 := boxB (B := w.heap.size + 1) k0 (by omega) 0 _ rfl
  have c1 := boxB (B := w.heap.size + 1) k0 (by omega) 1 _ rfl
  have c2 := boxB (B := w.heap.size + 1) k0 (by omega) 2 _ rfl
  have hR : Below (w.heap.size + 1) W W := Below.refl _ _
  have z1 := ltHeap k1
  clear hsz HR2
  go_region_held3 (fun w' => Below (w.heap.size + 1) W w') (first | assumption | (refine Below.drew ?_; assumption) | exact ((hB5.setCell (by simp) _).setCell (by simp) _).setCell (by simp) _) ((go_at_call 31; refine Calls.mono (bytes_F a l cap xs _ HL.out hm (row8_below HR.out (HB.out.trans (Below.mono ‹Below (w.heap.size + 1) W _› (by omega)))) HN.out) ?_; rintro e w5 ⟨g, rfl, hg, hb, hh⟩; have hB5 : Below (w.heap.size + 1) W w5 := Below.trans ‹Below (w.heap.size + 1) W _› (Below.mono hb (Nat.le_of_lt z1)); have k9 := (hb.block _ z1).trans k1; have d0 := cellAt k9 0 _ rfl; have d1 := cellAt k9 1 _ rfl; have d2 := cellAt k9 2 _ rfl; have f0 : w5.frozen? ⟨w.heap.size + 1, 0, none⟩ = false := frozen_of_row _ _ _ _ _ k9; have f1 : w5.frozen? ⟨w.heap.size + 1, 1, none⟩ = false := frozen_of_row _ _ _ _ _ k9; have f2 : w5.frozen? ⟨w.heap.size + 1, 2, none⟩ = false := frozen_of_row _ _ _ _ _ k9; have HH : Hid _ := hh; clear hh; have hg' : W.heap.size ≤ g := hg; have hQ : True := trivial))
  go_wp2
  refine bodyPost_ret (v := .agg #[.int .i64 r, .int .i64 c, .slice (some ⟨g, 0, none⟩) l (l + 6)]) (by simp [results, Tryd.results7, go_sem, d0, d1, d2]) rfl ⟨g, rfl, by omega, ?_, ?_⟩
  · rw [heap_setCell_other _ _ _ _ (by show g ≠ w.heap.size + 1; omega), heap_setCell_other _ _ _ _ (by show g ≠ w.heap.size + 1; omega), heap_setCell_other _ _ _ _ (by show g ≠ w.heap.size + 1; omega)]
    exact HH.out
  · exact HB.out.trans (Below.mono ‹Below (w.heap.size + 1) W (World.setCell _ _ _)› (by omega))
end Go.Proofs.YtkmlanolaogaiaaDoor
