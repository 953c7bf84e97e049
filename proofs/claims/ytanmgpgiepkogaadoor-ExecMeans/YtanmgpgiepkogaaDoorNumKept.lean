/- What the statements' own look at a copy's marked room answers: true where list and room stand; nothing that was there turns. -/
import Derived.Test.YtanmgpgiepkogaaDoorNumBytes
import Derived.Test.YtanmgpgiepkogaaDoorRegHeld
namespace Go.Proofs.YtanmgpgiepkogaaDoor
open Go.RowKit Gf
set_option linter.unusedVariables false
set_option maxRecDepth 20000
theorem marks_at : ∀ k < 6, (at8 marks k).toNat = 201 + k := by decide +kernel
theorem conv_keep8 {w : World} {a : Option Addr} {la ca : Nat} {xs : List F} (hla : la = xs.length) (hx : ∀ w', Below w.heap.size w w' → Row8 w' a xs) :
    ∀ w', Below w.heap.size w w' → (convert 31 9 (.slice a la ca)).run Tryd.prog w' = .ok (.string (str8 xs)) w' := fun w' hb => conv8 hla (hx w' hb)
theorem row8_front {w : World} {g : Nat} {xs ys : List F} {t : TypeId} {fr : Nat × Nat} (h : w.heap[g]? = some (.cells (vfs (xs ++ ys)) t fr)) : Row8 w (some ⟨g, 0, none⟩) xs := by
  refine .inr ⟨g, 0, rfl, fun j hj => ?_⟩
  rw [cell_of_row _ _ _ _ _ _ h, Nat.zero_add, vfs_get _ j (by rw [List.length_append]; omega)]
  simp [at8, hj, List.getElem?_append_left]
set_option maxHeartbeats 1000000 in
theorem kept_F (g n cb : Nat) (b : Option Addr) (xs : List F) (w : World) (hn : n = xs.length) (hb : n ≤ 140737488351232) (hcb : n ≤ cb)
    (hg : w.heap[g]? = some (.cells (vfs (xs ++ marks)) 5 (0, 0))) (hx : Row8 w b xs) :
    Calls Tryd.prog 32 #[.slice (some ⟨g, 0, none⟩) n (n + 6), .slice b n cb] w fun e w' => e = .returned (.bool true) ∧ Below w.heap.size w w' := by
  have kA := conv_keep8 (ca := n + 6) hn (row_keep (row8_front hg))
  have kB := conv_keep8 (ca := cb) hn (row_keep hx)
  have HC : Hid (∀ k, k < 6 → ∀ w', Below w.heap.size w w' → w'.cell? ⟨g, n + k, none⟩ = some (.int .u8 (201 + (k : Int)))) := fun k hk w' hw => by
    have hlt := (Array.getElem?_eq_some_iff.1 hg).1
    rw [cell_of_row w' g (n + k) _ _ _ ((hw.block g hlt).trans hg), vfs_get _ _ (by rw [List.length_append]; show n + k < xs.length + 6; omega)]
    have e : at8 (xs ++ marks) (n + k) = at8 marks k := by
      simp only [at8, List.getD_eq_getElem?_getD]
      rw [List.getElem?_append_right (by omega), show n + k - xs.length = k from by omega]
    rw [e, marks_at k hk]
    rfl
  have p0 : (0 : Int) ≤ (n : Int) := by omega
  have p1 : n ≤ n + 6 := by omega
  have p2 : (n : Int) ≤ (n : Int) + 6 := by omega
  have hR : Below w.heap.size w w := Below.refl _ _
  have tg : decide ((n : Int) + 6 < (n : Int) + 6) = false := by simp
  have tw : IntKind.i64.wrap ((n : Int) + 6) = (n : Int) + 6 := by rw [IntKind.wrap_i64]; omega
  clear hn hg hx
  go_enter Tryd.func32, Tryd.ntmps32
  go_wp2
  go_region_held3 (fun w' => Below w.heap.size w w') (first | assumption | (refine Below.drew ?_; assumption)) (fail)
  go_wp2
  clear kA kB
  go_loop [6] (fun i => ∃ k : Nat, k ≤ 6 ∧ i = .int .i64 k) (fun i => 6 - (intOf i).toNat)
  case atStart => exact ⟨0, by omega, rfl⟩
  case round =>
    obtain ⟨k, hk, rfl⟩ := hrel
    by_cases hlt : k < 6
    · have c1 := HC.out k hlt _ ‹Below w.heap.size w _›
      go_wp2
      exact ⟨⟨k + 1, by omega, by go_num⟩, by simp [intOf]; omega⟩
    · go_wp2
      go_ret
      exact ⟨rfl, ‹Below w.heap.size w _›⟩
end Go.Proofs.YtanmgpgiepkogaaDoor
