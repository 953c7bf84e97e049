/- The document's own answers for elimination: a matrix's span, what is a combination, the rank. -/
import Derived.Test.YtmlpijlcpeoeaaaDoorSpanA
import Derived.Test.YtmlpijlcpeoeaaaDoorPlacesK
namespace Go.Proofs.YtmlpijlcpeoeaaaDoor
open Go.RowKit Gf
set_option linter.unusedVariables false
set_option maxRecDepth 20000
set_option maxHeartbeats 4000000 in
theorem rexpress_F (A : Mt) (B SB c n t : Nat) (vR vM vF vB : Value) (fr fm : Nat → Option Addr × Nat) (V : Mt) (Ms : Nat → List F) (f bs : List Nat) (a : Option Addr) (l cap : Nat) (xs : List F) (w : World)
    (hS : SpanW w B SB c n t t t t vR vM vF vB fr fm V Ms f bs) (hSO : SpanOf A c n t V (madeF Ms) (f.getD · 0)) (hc : c ≤ 64) (hn : n ≤ 64) (hl : l = c) (hx : xs.length = c) (hX : Row8 w a xs) (hnil : a = none → cap = 0) :
    Calls Tryd.prog 64 #[.pointer (some ⟨SB, 0, none⟩), .slice a l cap] w fun e w' =>
      (∃ g x, e = .returned (.tuple #[.slice (some ⟨g, 0, none⟩) n n, .bool true]) ∧ w.heap.size ≤ g ∧ w'.heap[g]? = some (.cells (vfs (rowF n x)) 5 (0, 0)) ∧ SolOf (tr A) c n (at8 xs) x ∧ Below w.heap.size w w') ∨
      (e = .returned (.tuple #[.slice none 0 0, .bool false]) ∧ ¬ Dep (tr A) c n (at8 xs) ∧ Below w.heap.size w w') := by
  have ht : t ≤ n := by rw [hSO.len]; exact pivL_le _ _ _
  have HSO : Hid _ := hSO
  have HS : Hid _ := hS
  have HR : Hid _ := rest_F B SB c n t vR vM vF vB fr fm V Ms f bs a l cap xs w hS hc hn (by omega) hSO.lt hl hx hX hnil
  clear hS hSO hl hx hX hnil
  go_enter Tryd.func64, Tryd.ntmps64
  go_wp2_with fail
  refine Calls.mono HR.out ?_
  rintro e w1 ⟨g1, cap1, g2, cap2, rfl, hw, hu, hg1, hg2, hb⟩
  generalize hWW : wN V (f.getD · 0) (at8 xs) t = WW at *
  generalize hUU : uN V (madeF Ms) (f.getD · 0) (at8 xs) t = UU at *
  have HWW : Hid _ := hWW
  have HUU : Hid _ := hUU
  have HS1 : Hid _ := HS.out.below hb
  have HB1 : Hid _ := hb
  have HW1 : Hid _ := hw
  have HU1 : Hid _ := hu
  clear hWW hUU hb hu HR HS
  go_wp2
  go_loopw [19] (fun i wr => ∃ k : Nat, k ≤ c ∧ i = .int .i64 k ∧ wr = w1 ∧ ∀ j, j < k → WW j = 0) (fun i _ => c - (intOf i).toNat)
  case atStart => exact ⟨0, by omega, rfl, rfl, fun j h => by omega⟩
  case round =>
    obtain ⟨k, hk, rfl, rfl, hz⟩ := hrel
    have HZ : Hid _ := hz
    clear hz
    by_cases hlt : k < c
    · have c1 := (has8_cell hw (j := k) (by rw [rowF_len]; exact hlt)).1
      rw [at8_rowF hlt] at c1
      by_cases hzero : WW k = 0
      · rw [hzero] at c1
        clear hw
        go_wp2
        exact ⟨⟨k + 1, by omega, by go_num, by first | rfl | trivial, fun j hj => by
          by_cases e : j = k
          · rw [e]; exact hzero
          · exact HZ.out j (by omega)⟩, by simp [intOf]; omega⟩
      · have hnz : ((WW k).toNat : Int) ≠ 0 := by
          intro e; exact hzero (F.val_eq_zero.1 (by omega))
        clear hw
        go_wp2
        exact bodyPost_ret (v := .tuple #[.slice none 0 0, .bool false]) (by simp [results, Tryd.results64, go_sem]) rfl (.inr ⟨rfl, fun hd => hzero (by rw [← HWW.out]; exact HSO.out.rest_zero hd k hlt), HB1.out⟩)
    · obtain rfl : k = c := by omega
      have c1 := cellAt HS1.out.box 4 _ rfl
      have hmk := run_make8 n (by omega)
      have hcp := run_copy8 wr.heap.size n n (some ⟨g2, 0, none⟩) n cap2 (zeros n) (rowF n UU) (wr.alloc (.cells (vfs (zeros n)) 5)) 3 (zeros_len _).symm (rowF_len _ _).symm (by rw [rowF_len, zeros_len]; exact Nat.le_refl _) (heap_alloc_last wr _) (row8_alloc (row8_has HU1.out) _)
      have e1 : rowF n UU ++ (zeros n).drop (rowF n UU).length = rowF n UU := by
        rw [rowF_len, zeros_drop, Nat.sub_self]; simp [zeros]
      rw [e1, World.setRow_alloc_new] at hcp
      have HCP : Hid _ := hcp
      have HM : Hid _ := heap_alloc_last wr (.cells (vfs (rowF n UU)) 5)
      have HB2 : Hid (Below w.heap.size w (wr.alloc (.cells (vfs (rowF n UU)) 5))) := HB1.out.alloc HB1.out.size _
      have hsz := HB1.out.size
      have hcp := HCP.out
      clear hw e1
      go_wp2
      refine bodyPost_ret (v := .tuple #[.slice (some ⟨wr.heap.size, 0, none⟩) n n, .bool true]) (by simp [results, Tryd.results64, go_sem]) rfl (.inl ⟨wr.heap.size, UU, rfl, hsz, HM.out, ⟨fun j hj => ?_, fun l hl hn => ?_⟩, HB2.out⟩)
      · rw [← HUU.out]
        exact HSO.out.rest_dep (fun j hj => by rw [HWW.out]; exact HZ.out j hj) j hj
      · rw [← HUU.out]
        exact HSO.out.offs (at8 xs) t (Nat.le_refl _) l hl hn
/-- the rows of a matrix as lists' cells: 0 behind their end -/
def rowsF (c : Nat) (xs : List F) : Mt := fun i => at8 (rowAt c xs i)
theorem rowsF_cell {c : Nat} {xs : List F} {i j : Nat} (hj : j < c) : rowsF c xs i j = cellF c xs i j := at8_rowAt hj
theorem tr_rowsF {c r : Nat} {xs : List F} : ∀ i, i < c → ∀ j, j < r → tr (rowsF c xs) i j = tr (cellF c xs) i j := fun i hi j _ => rowsF_cell hi
set_option maxHeartbeats 4000000 in
theorem rof_F (r c l cap : Nat) (a : Option Addr) (xs : List F) (w : World) (hr : r ≤ 64) (hc : c ≤ 64) (hl : l = r * c) (hx : xs.length = r * c) (hcap : l ≤ cap) (hX : Row8 w a xs) (hnil : a = none → cap = 0) :
    Calls Tryd.prog 63 #[.agg #[.int .i64 r, .int .i64 c, .slice a l cap]] w fun e w' => ∃ SB t vR vM vF vB fr fm V Ms f, e = .returned (.pointer (some ⟨SB, 0, none⟩)) ∧ w.heap.size ≤ SB ∧
      SpanW w' w.heap.size SB c r t t t t vR vM vF vB fr fm V Ms f (pivL (tr (rowsF c xs)) c r) ∧ SpanOf (rowsF c xs) c r t V (madeF Ms) (f.getD · 0) ∧ Below w.heap.size w w' := by
  have HL : Hid _ := hl
  have HX : Hid _ := hx
  have HRX : Hid (Row8 w a xs) := hX
  have HNA : Hid _ := hnil
  have hA := holds_new (holds_new (holds_nil w) #[.int .i64 r, .int .i64 c, .slice a l cap] 65) #[.int .i64 c, .slice none 0 0, .slice none 0 0, .slice none 0 0, .int .i64 0, .slice none 0 0] 121
  rw [World.size_alloc] at hA
  have HA : Hid _ := hA
  have hB : Below w.heap.size w ((w.alloc (.cells #[.int .i64 r, .int .i64 c, .slice a l cap] 65)).alloc (.cells #[.int .i64 c, .slice none 0 0, .slice none 0 0, .slice none 0 0, .int .i64 0, .slice none 0 0] 121)) := ((Below.refl w.heap.size w).alloc (Nat.le_refl _) _).alloc (by simp) _
  have HB : Hid _ := hB
  clear hl hx hX hnil hA hB
  go_enter Tryd.func63, Tryd.ntmps63
  go_wp2
  generalize hW0 : ((w.alloc (.cells #[.int .i64 r, .int .i64 c, .slice a l cap] 65)).alloc (.cells #[.int .i64 c, .slice none 0 0, .slice none 0 0, .slice none 0 0, .int .i64 0, .slice none 0 0] 121)) = W0 at *
  clear hW0
  go_loopw [4] (fun i wr => ∃ k : Nat, k ≤ r ∧ i = .int .i64 k ∧ wr.heap[w.heap.size]? = some (.cells #[.int .i64 r, .int .i64 c, .slice a l cap] 65 (0, 0)) ∧ Below w.heap.size w wr ∧ Below (w.heap.size + 1) W0 wr ∧ ∃ t vR vM vF vB fr fm V Ms f,
    SpanW wr (w.heap.size + 1) (w.heap.size + 1) c k t t t t vR vM vF vB fr fm V Ms f (pivL (tr (rowsF c xs)) c k) ∧ SpanOf (rowsF c xs) c k t V (madeF Ms) (f.getD · 0)) (fun i _ => r - (intOf i).toNat)
  case atStart =>
    refine ⟨0, by omega, rfl, holds_at HA.out 1 rfl, HB.out, Below.refl _ _, 0, _, _, _, _, fun _ => (none, 0), fun _ => (none, 0), fun _ _ => 0, fun _ => [], [], ⟨holds_at HA.out 0 rfl, ⟨rfl, .inl ⟨rfl, rfl⟩⟩, ⟨rfl, .inl ⟨rfl, rfl⟩⟩, ⟨rfl, .inl ⟨rfl, rfl⟩⟩, ⟨by simp [pivL, natV], .inl ⟨rfl, rfl⟩⟩, rfl, by simp [pivL], fun i h => by omega, fun i h => by omega, fun i h => by omega, .inl rfl, .inl rfl, .inl rfl, .inl rfl⟩, SpanOf.start _ _ _ _ _⟩
  case round =>
    obtain ⟨k, hk, rfl, hbox, hbw, hb0, t, vR, vM, vF, vB, fr, fm, V, Ms, f, hsp, hso⟩ := hrel
    have c1 := cellAt hbox 0 _ rfl
    have HBOX : Hid _ := hbox
    have HBW : Hid _ := hbw
    have HB0 : Hid _ := hb0
    have HSP : Hid _ := hsp
    have HSO : Hid _ := hso
    have hsz := hsp.box
    have zz := ltHeap hsz
    clear hbox hbw hb0 hsp hso hsz
    by_cases hlt : k < r
    · have c2 := cellAt HBOX.out 1 _ rfl
      have c3 := cellAt HBOX.out 2 _ rfl
      go_wp2_with fail
      refine Calls.mono (rrow_F r c k l cap a xs _ hr hc hlt HL.out HX.out hcap (row8_below HRX.out HBW.out) HNA.out) ?_
      rintro e w2 ⟨g2, cap2, rfl, hg2, hh2, hb2⟩
      have hS2 := HSP.out.below hb2
      have HS2 : Hid _ := hS2
      have HBX2 : Hid _ := heap_later HBOX.out hb2
      have HB2 : Hid _ := hb2
      have HH2 : Hid _ := row8_has hh2
      have hsz2 := hb2.size
      have HRL : Hid ((rowAt c xs k).length = c) := rowAt_len HX.out hlt
      clear hS2 hb2 hh2 c1 c2 c3
      go_wp2_with fail
      refine Calls.mono (radd_F (rowsF c xs) (w.heap.size + 1) (w.heap.size + 1) c k t vR vM vF vB fr fm V Ms f (some ⟨g2, 0, none⟩) cap2 (rowAt c xs k) _ HS2.out HSO.out rfl hc (by omega) HRL.out HH2.out (fun h => by cases h) (by omega) (Nat.le_refl _)) ?_
      rintro e w3 ⟨rfl, hb3, t', vR', vM', vF', vB', fr', fm', V', Ms', f', hsp3, hso3⟩
      have HB3 : Hid (Below w.heap.size w w3) := (HBW.out.trans (HB2.out.mono HBW.out.size)).trans (hb3.mono (by omega))
      have HB03 : Hid (Below (w.heap.size + 1) W0 w3) := (HB0.out.trans (HB2.out.mono (by omega))).trans hb3
      have HBX3 : Hid _ := (hb3.block w.heap.size (by omega)).trans HBX2.out
      have HSP3 : Hid _ := hsp3
      have HSO3 : Hid _ := hso3
      clear hb3 hsp3 hso3
      go_wp2
      exact ⟨⟨k + 1, by omega, by go_num, HBX3.out, HB3.out, HB03.out, t', vR', vM', vF', vB', fr', fm', V', Ms', f', HSP3.out, HSO3.out⟩, by simp [intOf]; omega⟩
    · obtain rfl : k = r := by omega
      go_wp2
      go_ret
      have h := HSP.out
      exact ⟨w.heap.size + 1, t, vR, vM, vF, vB, fr, fm, V, Ms, f, rfl, by omega, ⟨h.box, own_lower h.rows (by omega), own_lower h.made (by omega), own_lower h.firsts (by omega), own_lower h.basis (by omega), h.fl, h.bl, h.rowT, h.madeT, h.ml, h.ne1, h.ne2, h.ne3, h.ne4⟩, HSO.out, HBW.out⟩
end Go.Proofs.YtmlpijlcpeoeaaaDoor
