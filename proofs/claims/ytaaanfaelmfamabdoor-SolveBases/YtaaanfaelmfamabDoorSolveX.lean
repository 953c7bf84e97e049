/- What Solve answers of lists of another length, and what Express answers. -/
import Derived.Test.YtaaanfaelmfamabDoorSolveG
namespace Go.Proofs.YtaaanfaelmfamabDoor
open Go.RowKit Gf
set_option linter.unusedVariables false
set_option maxRecDepth 20000
theorem SolOf.congr {A B : Mt} {r c : Nat} {v x : Nat → F} (h : SolOf A r c v x) (e : ∀ i, i < r → ∀ j, j < c → A i j = B i j) : SolOf B r c v x :=
  ⟨fun i hi => (h.sol i hi).trans (sumF_congr fun l hl => by rw [e i hi l hl]), fun l hl hn => h.off l hl (by rw [pivL_congr e]; exact hn)⟩
theorem Dep.congr {A B : Mt} {n c : Nat} {b : Nat → F} (h : Dep A n c b) (e : ∀ i, i < n → ∀ j, j < c → A i j = B i j) : Dep B n c b := by
  obtain ⟨x, hx⟩ := h
  exact ⟨x, fun i hi => (hx i hi).trans (sumF_congr fun l hl => by rw [e i hi l hl])⟩
/-- the answer of Solve or Express where the arguments don't fit -/
def noSol (s : Addr) : Value := .tuple #[.slice none 0 0, .bool false, errAt s]
theorem FormOk.nat {r c : Int} {l : Nat} (h : FormOk r c l) : ∃ r' c' : Nat, r = r' ∧ c = c' ∧ r' ≤ 64 ∧ c' ≤ 64 ∧ l = r' * c' := by
  obtain ⟨h0, h1, h2, h3, h4⟩ := h
  obtain ⟨r', rfl⟩ := Int.eq_ofNat_of_zero_le h0
  obtain ⟨c', rfl⟩ := Int.eq_ofNat_of_zero_le h2
  exact ⟨r', c', rfl, rfl, by omega, by omega, by exact_mod_cast h4⟩
theorem solve_bad (r c : Int) (l cap lv cv : Nat) (a b : Option Addr) (w : World) (s : Addr) (hs : w.cell? ⟨0, 0, none⟩ = some (errAt s)) (h : ¬ (FormOk r c l ∧ (lv : Int) = r)) :
    Calls Tryd.prog 26 #[.agg #[.int .i64 r, .int .i64 c, .slice a l cap], .slice b lv cv] w fun e w' => e = .returned (noSol s) ∧ Below w.heap.size w w' := by
  have HS : Hid _ := cell?_alloc_old (.cells #[.int .i64 r, .int .i64 c, .slice a l cap] 24) hs
  have hal := ((Below.refl w.heap.size w).alloc (Nat.le_refl _) (.cells #[.int .i64 r, .int .i64 c, .slice a l cap] 24))
  have HE : Hid (Calls Tryd.prog 17 #[.agg #[.int .i64 r, .int .i64 c, .slice a l cap], .agg #[.int .i64 lv, .int .i64 1, .slice b lv cv]] (w.alloc (.cells #[.int .i64 r, .int .i64 c, .slice a l cap] 24)) fun e w' =>
      e = .returned (.tuple #[.slice none 0 0, .slice none 0 0, errAt s]) ∧ Below (w.alloc (.cells #[.int .i64 r, .int .i64 c, .slice a l cap] 24)).heap.size (w.alloc (.cells #[.int .i64 r, .int .i64 c, .slice a l cap] 24)) w') := by
    by_cases hf : FormOk r c l
    · obtain ⟨r', c', rfl, rfl, h1, h2, h3⟩ := hf.nat
      exact eliminated_odd r' c' lv 1 l cap lv cv a b _ s HS.out h1 h2 h3 (fun e => h ⟨hf, e.symm⟩)
    · exact eliminated_bad r c lv 1 l cap lv cv a b _ s HS.out hf
  clear h hs HS
  unfold noSol
  go_enter Tryd.func26, Tryd.ntmps26
  go_wp2_with fail
  refine Calls.mono HE.out ?_
  rintro e w2 ⟨rfl, hb2⟩
  have HW2 : Hid (Below w.heap.size w w2) := hal.trans (hb2.mono (by simp))
  clear hb2 hal HE
  unfold errAt at *
  go_wp2
  refine bodyPost_ret (v := .tuple #[.slice none 0 0, .bool false, .iface 75 (.pointer (some s))]) (by simp [results, Tryd.results26, go_sem]) rfl ⟨rfl, HW2.out⟩
set_option maxHeartbeats 4000000 in
theorem express_F (r c l cap lv cv : Nat) (a b : Option Addr) (xs vs : List F) (w : World) (hr : r ≤ 64) (hc : c ≤ 64) (hl : l = r * c) (hx : xs.length = r * c) (hcap : l ≤ cap) (hX : Row8 w a xs)
    (hlv : lv = c) (hv : vs.length = c) (hcv : lv ≤ cv) (hV : Row8 w b vs) (hnb : b = none → cv = 0) :
    Calls Tryd.prog 14 #[.agg #[.int .i64 r, .int .i64 c, .slice a l cap], .slice b lv cv] w fun e w' =>
      (∃ g x, e = .returned (.tuple #[.slice (some ⟨g, 0, none⟩) r r, .bool true, .nilIface]) ∧ w.heap.size ≤ g ∧ w'.heap[g]? = some (.cells (vfs (rowF r x)) 5 (0, 0)) ∧ SolOf (tr (cellF c xs)) c r (at8 vs) x ∧ Below w.heap.size w w') ∨
      (e = .returned (.tuple #[.slice none 0 0, .bool false, .nilIface]) ∧ ¬ Dep (tr (cellF c xs)) c r (at8 vs) ∧ Below w.heap.size w w') := by
  have HL : Hid _ := hl
  have HX : Hid _ := hx
  have HV : Hid _ := hv
  have HLV : Hid _ := hlv
  have HRX : Hid (Row8 w a xs) := hX
  have HRV : Hid (Row8 w b vs) := hV
  have HNB : Hid _ := hnb
  clear hl hx hX hv hV hnb hlv
  go_enter Tryd.func14, Tryd.ntmps14
  go_wp2_with fail
  refine Calls.mono (transpose_F r c l cap a xs _ hr hc HL.out HX.out hcap (row8_alloc HRX.out _)) ?_
  rintro e w2 ⟨g, n, rfl, hn, hg, hh, hb2⟩
  have HW2 : Hid (Below w.heap.size w w2) := ((Below.refl w.heap.size w).alloc (Nat.le_refl _) _).trans (hb2.mono (by simp))
  have HN : Hid _ := hn
  have hA := holds_new (holds_cons (holds_nil w2) hh) #[.int .i64 c, .int .i64 r, .slice (some ⟨g, 0, none⟩) n n] 24
  have c1 := cellAt (holds_at hA 0 rfl) 0 _ rfl
  have c2 := cellAt (holds_at hA 0 rfl) 1 _ rfl
  have c3 := cellAt (holds_at hA 0 rfl) 2 _ rfl
  have HA : Hid _ := hA
  have HW3 : Hid (Below w.heap.size w (w2.alloc (.cells #[.int .i64 c, .int .i64 r, .slice (some ⟨g, 0, none⟩) n n] 24))) := HW2.out.alloc HW2.out.size _
  clear hn hh hb2 hA HW2
  go_wp2_with fail
  refine Calls.mono (solve_F c r n n lv cv (some ⟨g, 0, none⟩) b (trM r c xs) vs _ hc hr HN.out (by simp [trM, grid_len]) (Nat.le_refl _) (holds_row HA.out 1 rfl) (fun h => by cases h) HLV.out HV.out hcv (row8_below HRV.out HW3.out) HNB.out) ?_
  rintro e w3 (⟨g3, x, rfl, hg3, hh3, hsol, hb3⟩ | ⟨rfl, hno, hb3⟩)
  · have HW4 : Hid (Below w.heap.size w w3) := HW3.out.trans (hb3.mono HW3.out.size)
    have HSOL : Hid _ := hsol.congr cellF_tr
    have HH3 : Hid _ := hh3
    have hgg : w.heap.size ≤ g3 := Nat.le_trans HW3.out.size hg3
    clear hb3 hsol hh3 hg3
    go_wp2
    exact bodyPost_ret (v := .tuple #[.slice (some ⟨g3, 0, none⟩) r r, .bool true, .nilIface]) (by simp [results, Tryd.results14, go_sem]) rfl (.inl ⟨g3, x, rfl, hgg, HH3.out, HSOL.out, HW4.out⟩)
  · have HW4 : Hid (Below w.heap.size w w3) := HW3.out.trans (hb3.mono HW3.out.size)
    have HNO : Hid (¬ Dep (tr (cellF c xs)) c r (at8 vs)) := fun hd => hno (hd.congr fun i hi j hj => (cellF_tr i hi j hj).symm)
    clear hb3 hno
    go_wp2
    exact bodyPost_ret (v := .tuple #[.slice none 0 0, .bool false, .nilIface]) (by simp [results, Tryd.results14, go_sem]) rfl (.inr ⟨rfl, HNO.out, HW4.out⟩)
set_option maxHeartbeats 2000000 in
theorem express_bad (r c : Int) (l cap lv cv : Nat) (a b : Option Addr) (w : World) (s : Addr) (hs : w.cell? ⟨0, 0, none⟩ = some (errAt s)) (h : ¬ FormOk r c l) :
    Calls Tryd.prog 14 #[.agg #[.int .i64 r, .int .i64 c, .slice a l cap], .slice b lv cv] w fun e w' => e = .returned (noSol s) ∧ Below w.heap.size w w' := by
  have H : Hid _ := h
  have HS : Hid _ := cell?_alloc_old (.cells #[.int .i64 r, .int .i64 c, .slice a l cap] 24) hs
  clear h hs
  unfold noSol
  go_enter Tryd.func14, Tryd.ntmps14
  go_wp2_with fail
  refine Calls.mono (transpose_bad r c a l cap _ s HS.out H.out) ?_
  rintro e w2 ⟨rfl, hb2⟩
  have HW2 : Hid (Below w.heap.size w w2) := ((Below.refl w.heap.size w).alloc (Nat.le_refl _) _).trans (hb2.mono (by simp))
  unfold errAt at *
  clear hb2
  go_wp2
  exact bodyPost_ret (v := .tuple #[.slice none 0 0, .bool false, .iface 75 (.pointer (some s))]) (by simp [results, Tryd.results14, go_sem]) rfl ⟨rfl, HW2.out.alloc HW2.out.size _⟩
set_option maxHeartbeats 2000000 in
theorem express_odd (r c l cap lv cv : Nat) (a b : Option Addr) (xs : List F) (w : World) (s : Addr) (hs : w.cell? ⟨0, 0, none⟩ = some (errAt s)) (hr : r ≤ 64) (hc : c ≤ 64) (hl : l = r * c) (hx : xs.length = r * c) (hcap : l ≤ cap) (hX : Row8 w a xs) (h : lv ≠ c) :
    Calls Tryd.prog 14 #[.agg #[.int .i64 r, .int .i64 c, .slice a l cap], .slice b lv cv] w fun e w' => e = .returned (noSol s) ∧ Below w.heap.size w w' := by
  have HS : Hid _ := hs
  have HL : Hid _ := hl
  have HX : Hid _ := hx
  have HRX : Hid (Row8 w a xs) := hX
  clear hs hl hx hX
  unfold noSol
  go_enter Tryd.func14, Tryd.ntmps14
  go_wp2_with fail
  refine Calls.mono (transpose_F r c l cap a xs _ hr hc HL.out HX.out hcap (row8_alloc HRX.out _)) ?_
  rintro e w2 ⟨g, n, rfl, hn, hg, hh, hb2⟩
  have HW2 : Hid (Below w.heap.size w w2) := ((Below.refl w.heap.size w).alloc (Nat.le_refl _) _).trans (hb2.mono (by simp))
  have hA := holds_new (holds_cons (holds_nil w2) hh) #[.int .i64 c, .int .i64 r, .slice (some ⟨g, 0, none⟩) n n] 24
  have c1 := cellAt (holds_at hA 0 rfl) 0 _ rfl
  have c2 := cellAt (holds_at hA 0 rfl) 1 _ rfl
  have c3 := cellAt (holds_at hA 0 rfl) 2 _ rfl
  have HW3 : Hid (Below w.heap.size w (w2.alloc (.cells #[.int .i64 c, .int .i64 r, .slice (some ⟨g, 0, none⟩) n n] 24))) := HW2.out.alloc HW2.out.size _
  clear hn hh hb2 hA HW2
  go_wp2_with fail
  refine Calls.mono (solve_bad c r n n lv cv (some ⟨g, 0, none⟩) b _ s (cell_later HW3.out HS.out) (fun hh => h (by omega))) ?_
  rintro e w3 ⟨he3, hb3⟩
  unfold noSol at he3
  subst he3
  have HW4 : Hid (Below w.heap.size w w3) := HW3.out.trans (hb3.mono HW3.out.size)
  unfold errAt at *
  clear hb3
  go_wp2
  refine bodyPost_ret (v := .tuple #[.slice none 0 0, .bool false, .iface 75 (.pointer (some s))]) (by simp [results, Tryd.results14, go_sem]) rfl ?_
  exact ⟨rfl, HW4.out⟩
end Go.Proofs.YtaaanfaelmfamabDoor
