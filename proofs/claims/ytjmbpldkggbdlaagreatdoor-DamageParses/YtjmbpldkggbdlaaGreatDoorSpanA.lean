/- The document's own span: one row more. -/
import Derived.Test.YtjmbpldkggbdlaaGreatDoorSpanP
import Derived.Deep.DeepCutAuto
namespace Go.Proofs.YtjmbpldkggbdlaaGreatDoor
open Go.RowKit Gf
set_option linter.unusedVariables false
set_option maxRecDepth 20000
theorem SpanOf.congrF {A V V' U U' : Mt} {c n t : Nat} {f f' : Nat → Nat} (h : SpanOf A c n t V U f) (hV : ∀ i, i < t → ∀ j, j < c → V i j = V' i j) (hU : ∀ i, i < t → ∀ l, l < n → U i l = U' i l) (hf : ∀ i, i < t → f i = f' i) : SpanOf A c n t V' U' f' := by
  refine ⟨fun i hi j hj => ?_, fun i hi => ?_, fun i k hik hk => ?_, fun i hi => ?_, fun i hi l hl hn => ?_, h.len, fun i hi => ?_⟩
  · rw [← hV i hi j hj, h.made i hi j hj]; exact sumF_congr fun l hl => by rw [hU i hi l hl]
  · rw [← hf i hi, ← hV i hi _ (h.lt i hi)]; exact h.one i hi
  · rw [← hf i (by omega), ← hV k hk _ (h.lt i (by omega))]; exact h.zero i k hik hk
  · rw [← hf i hi]; exact h.lt i hi
  · rw [← hU i hi l hl]; exact h.off i hi l hl hn
  · obtain ⟨x, hx⟩ := h.all i hi
    exact ⟨x, fun j hj => by rw [hx j hj]; exact sumF_congr fun k hk => by rw [hV k hk j hj]⟩
set_option maxHeartbeats 16000000 in
theorem radd_F (A : Mt) (B SB c n t : Nat) (vR vM vF vB : Value) (fr fm : Nat → Option Addr × Nat) (V : Mt) (Ms : Nat → List F) (f : List Nat) (a : Option Addr) (cap : Nat) (xs : List F) (w : World)
    (hS : SpanW w B SB c n t t t t vR vM vF vB fr fm V Ms f (pivL (tr A) c n)) (hSO : SpanOf A c n t V (madeF Ms) (f.getD · 0)) (hrow : at8 xs = A n) (hc : c ≤ 64) (hn : n < 64) (hx : xs.length = c) (hX : Row8 w a xs) (hnil : a = none → cap = 0) (hBw : B ≤ w.heap.size) (hSB : B ≤ SB) :
    Calls Tryz.prog 107 #[.pointer (some ⟨SB, 0, none⟩), .slice a c cap] w fun e w' => e = .returned (.tuple #[]) ∧ Below B w w' ∧ ∃ t' vR' vM' vF' vB' fr' fm' V' Ms' f',
      SpanW w' B SB c (n + 1) t' t' t' t' vR' vM' vF' vB' fr' fm' V' Ms' f' (pivL (tr A) c (n + 1)) ∧ SpanOf A c (n + 1) t' V' (madeF Ms') (f'.getD · 0) := by
  have ht : t ≤ n := by rw [hSO.len]; exact pivL_le _ _ _
  have HSO : Hid _ := hSO
  have HS : Hid _ := hS
  have HFL : Hid _ := hS.fl
  have HMN : Hid (∀ i, i < t → madeF Ms i n = 0) := fun i hi => at8_over (hS.ml i hi)
  obtain ⟨aR, cR, rfl⟩ := own_shape hS.rows
  obtain ⟨aM, cM, rfl⟩ := own_shape hS.made
  obtain ⟨aF, cF, rfl⟩ := own_shape hS.firsts
  obtain ⟨aB, cB, rfl⟩ := own_shape hS.basis
  have hrest := rest_F B SB c n t _ _ _ _ fr fm V Ms f _ a c cap xs w hS hc (by omega) (by omega) hSO.lt rfl hx hX hnil
  rw [hrow] at hrest
  have HREST : Hid _ := hrest
  clear hS hSO hrest hx hX hnil hrow
  go_enter Tryz.func107, Tryz.ntmps107
  go_wp2_with fail
  refine Calls.mono HREST.out ?_
  rintro e w1 ⟨g1, cap1, g2, cap2, rfl, hw, hu, hg1, hg2, hb⟩
  have hS1 := HS.out.below hb
  have c4 := cellAt hS1.box 4 _ rfl
  have d4 : w1.frozen? ⟨SB, 4, none⟩ = false := frozen_of_row _ _ _ _ _ hS1.box
  obtain ⟨hK, hS2⟩ := hS1.count
  have hB2 : Below B w (w1.setCell ⟨SB, 4, none⟩ (.int .i64 ((n : Int) + 1))) := (hb.mono hBw).setCell hSB _
  have HSP2 : Hid _ := hS2
  have HBB2 : Hid _ := hB2
  have HWV : Hid (Row8T (w1.setCell ⟨SB, 4, none⟩ (.int .i64 ((n : Int) + 1))) (some ⟨g1, 0, none⟩) (rowF c (wN V (f.getD · 0) (A n) t))) := hK _ _ (has8_T hw)
  have HUU : Hid (Row8T (w1.setCell ⟨SB, 4, none⟩ (.int .i64 ((n : Int) + 1))) (some ⟨g2, 0, none⟩) (rowF n (uN V (madeF Ms) (f.getD · 0) (A n) t))) := hK _ _ (has8_T hu)
  have hBW2 : B ≤ (w1.setCell ⟨SB, 4, none⟩ (.int .i64 ((n : Int) + 1))).heap.size := Nat.le_trans hBw hB2.size
  clear hw hu hb hS1 hK hS2 hB2 hg1 hg2 HREST HS
  go_wp2
  clear c4 d4
  generalize (w1.setCell ⟨SB, 4, none⟩ (.int .i64 ((n : Int) + 1))) = W2 at *
  generalize hWW : wN V (f.getD · 0) (A n) t = WW at *
  generalize hUU : uN V (madeF Ms) (f.getD · 0) (A n) t = UU at *
  have HWW : Hid _ := hWW
  have HUUe : Hid _ := hUU
  clear hWW hUU
  go_loopw [7, 8] (fun s i wr => ∃ k : Nat, ∃ x : Int, k ≤ c ∧ i = .int .i64 ((k : Int) - 1) ∧ s = .int .i64 x ∧ wr = W2 ∧ ((x = -1 ∧ ∀ j, k ≤ j → j < c → WW j = 0) ∨ ∃ p : Nat, x = p ∧ p < c ∧ WW p ≠ 0)) (fun _ i _ => (intOf i + 1).toNat)
  case atStart => exact ⟨c, -1, Nat.le_refl _, rfl, rfl, rfl, .inl ⟨rfl, fun j h1 h2 => by omega⟩⟩
  case round =>
    obtain ⟨k, x, hk, rfl, rfl, rfl, hx⟩ := hrel
    have HXX : Hid _ := hx
    clear hx
    by_cases hk0 : k = 0
    · subst hk0
      rcases HXX.out with ⟨rfl, hz⟩ | ⟨p, rfl, hpc, hpz⟩
      · have HZ : Hid _ := hz
        clear hz
        go_wp2
        have hz2 : ∀ j, j < c → wN V (f.getD · 0) (A n) t j = 0 := fun j hj => by rw [HWW.out]; exact HZ.out j (Nat.zero_le _) hj
        exact ⟨rfl, .tuple #[], by simp [results, Tryz.results107, go_sem], rfl, HBB2.out, ⟨t, _, _, _, _, fr, fm, V, Ms, f, by rw [HSO.out.piv_no hz2]; exact HSP2.out, HSO.out.add_no hz2 HMN.out⟩⟩
      · have hpz : wN V (f.getD · 0) (A n) t p ≠ 0 := by rw [HWW.out]; exact hpz
        have HPZ : Hid _ := hpz
        clear HXX
        obtain ⟨g3, cap3, w3, hrun3, hh3, hg3, hor3⟩ := append8_any (n := 0) (m := n) (c := cap2) 61 (has8_empty (heap_alloc_last wr (.cells #[] 5))) rfl (rowF_len n UU).symm (by omega) (row8_below HUU.out.row8 ((Below.refl _ _).alloc (Nat.le_refl _) _)) (fun h => by cases h)
        rw [Nat.zero_add] at hrun3
        rw [List.nil_append] at hh3
        have hal3 : Below wr.heap.size wr (wr.alloc (.cells #[] 5)) := (Below.refl _ _).alloc (Nat.le_refl _) _
        have hb3 : Below wr.heap.size wr w3 := grownBy_below hal3 hg3 (Nat.le_refl _) hal3.size
        have hg3' : wr.heap.size ≤ g3 := by
          rcases hor3 with e | e
          · omega
          · rw [World.size_alloc] at e; omega
        have hal4 : Below w3.heap.size w3 (w3.alloc (.cells #[.int .u8 1] 5)) := (Below.refl _ _).alloc (Nat.le_refl _) _
        have h1r : Row8 (w3.alloc (.cells #[.int .u8 1] 5)) (some ⟨w3.heap.size, 0, none⟩) [1] := row8_own (show (w3.alloc (.cells #[.int .u8 1] 5)).heap[w3.heap.size]? = some (.cells (vfs [1]) 5 (0, 0)) from heap_alloc_last w3 _)
        obtain ⟨g4, cap4, w4, hrun4, hh4, hg4, hor4⟩ := append8_any (n := n) (m := 1) (c := 1) 61 (has8_below hh3 hal4) (rowF_len n UU).symm rfl (by omega) h1r (fun h => by cases h)
        have hb4 : Below wr.heap.size wr w4 := grownBy_below (hb3.trans (hal4.mono hb3.size)) hg4 hg3' (Nat.le_trans hb3.size hal4.size)
        have HR3 : Hid _ := hrun3
        have HR4 : Hid _ := hrun4
        obtain ⟨us, hus⟩ : ∃ us, us = rowF n UU ++ [1] := ⟨_, rfl⟩
        rw [← hus] at hh4
        have HUS : Hid (us = rowF n (uN V (madeF Ms) (f.getD · 0) (A n) t) ++ [1]) := by rw [HUUe.out]; exact hus
        have HUL : Hid (us.length = n + 1) := by show us.length = n + 1; rw [hus, List.length_append, rowF_len]; rfl
        have HU5 : Hid (Row8T w4 (some ⟨g4, 0, none⟩) us) := has8_T hh4
        have HSP5 : Hid (SpanW w4 B SB c (n + 1) t t t t _ _ _ _ fr fm V Ms f (pivL (tr A) c n)) := HSP2.out.below hb4
        have HW5 : Hid (Row8T w4 (some ⟨g1, 0, none⟩) (rowF c WW)) := row8T_below HWV.out hb4
        have HBB : Hid (Below B w w4) := HBB2.out.trans (hb4.mono hBW2)
        have hBW5 : B ≤ w4.heap.size := Nat.le_trans hBW2 hb4.size
        obtain ⟨bq, oq, eq, _, hcq⟩ := row8_cell HW5.out.row8 (j := p) (by rw [rowF_len]; exact hpc)
        cases eq
        have cp := hcq p (by rw [rowF_len]; exact hpc)
        rw [at8_rowF hpc, Nat.zero_add] at cp
        rw [HWW.out] at hpz
        clear hrun3 hh3 hg3 hor3 hal3 hb3 hg3' hal4 h1r hrun4 hh4 hg4 hor4 hb4 hus hcq HUU HSP2 HWV HBB2 hBW2
        go_wp2_with (first | (at_builtin; refine wpList_append_run rfl _ _ 61 rfl _ _ _ _ rfl rfl HR3.out ?_) | (at_builtin; refine wpList_append_run rfl _ _ 61 rfl _ _ _ _ rfl rfl HR4.out ?_))
        refine Calls.mono (rinv_yes hpz _) ?_
        rintro e w5 ⟨rfl, hw5⟩
        subst hw5
        have hpz := HPZ.out
        have HBN : Hid _ := hBW5
        clear cp HR3 HR4
        go_upto_region 12 with fail
        generalize w4 = W5 at *
        go_cut [] (fun wx => ∃ g8 cap8 a8 m8, SpanW wx B SB c (n + 1) (t + 1) t t t (.slice (some ⟨g8, 0, none⟩) (t + 1) cap8) (.slice aM t cM) (.slice aF t cF) (.slice aB t cB) (fun i => if i = t then (a8, m8) else fr i) fm (fun i => if i = t then (fun j => gm (inv (WW p)) (WW j)) else V i) Ms f (pivL (tr A) c n) ∧ Row8T wx (some ⟨g4, 0, none⟩) us ∧ Below B W5 wx)
        case first =>
          refine wp_region_noPanic ?_
          refine wp_region_held_drew (S := fun u => Below B W5 u) (by kernel_rfl) ?_ (fun hHeld => ?_)
          · exact (Below.refl B W5).drew
          refine wpAnyH_take (i := 0) (oi := { dst := some 56, op := Op.move (Operand.tmp 0), type := 119, pos := "ref.go:53", after := #[], guard := none }) (v := ?_) rfl (by kernel_rfl) (by kernel_rfl) (by kernel_rfl) (fun _ _ _ h => h) (Or.inl ⟨by rfl, ?_⟩) hHeld ?_
          rotate_left
          · intro u hSw
            go_simp
            try with_reducible rfl
          try simp only [Act.put, List.setIfInBounds_toArray, List.set_cons_zero, List.set_cons_succ]
          refine wpAnyH_take (i := 1) (oi := { dst := some 57, op := Op.move (Operand.tmp 0), type := 119, pos := "ref.go:53", after := #[], guard := none }) (v := ?_) rfl (by kernel_rfl) (by kernel_rfl) (by kernel_rfl) (fun _ _ _ h => h) (Or.inl ⟨by rfl, ?_⟩) hHeld ?_
          rotate_left
          · intro u hSw
            go_simp
            try with_reducible rfl
          try simp only [Act.put, List.setIfInBounds_toArray, List.set_cons_zero, List.set_cons_succ]
          refine wpAnyH_take (i := 2) (oi := { dst := some 58, op := Op.nilCheck (Operand.tmp 57), type := 0, pos := "ref.go:53", after := #[{ on := 1, ground := Ground.data }], guard := none }) (v := ?_) rfl (by kernel_rfl) (by kernel_rfl) (by kernel_rfl) (fun _ _ _ h => h) (Or.inl ⟨by rfl, ?_⟩) hHeld ?_
          rotate_left
          · intro u hSw
            go_simp
            try with_reducible rfl
          try simp only [Act.put, List.setIfInBounds_toArray, List.set_cons_zero, List.set_cons_succ]
          refine wpAnyH_take (i := 3) (oi := { dst := some 59, op := Op.fieldAddr 118 (Operand.tmp 58) 1, type := 0, pos := "ref.go:53", after := #[{ on := 2, ground := Ground.data }], guard := none }) (v := ?_) rfl (by kernel_rfl) (by kernel_rfl) (by kernel_rfl) (fun _ _ _ h => h) (Or.inl ⟨by rfl, ?_⟩) hHeld ?_
          rotate_left
          · intro u hSw
            go_simp
            try with_reducible rfl
          try simp only [Act.put, List.setIfInBounds_toArray, List.set_cons_zero, List.set_cons_succ]
          refine wpAnyH_take (i := 5) (oi := { dst := some 61, op := Op.move (Operand.tmp 9), type := 5, pos := "ref.go:53", after := #[], guard := none }) (v := ?_) rfl (by kernel_rfl) (by kernel_rfl) (by kernel_rfl) (fun _ _ _ h => h) (Or.inl ⟨by rfl, ?_⟩) hHeld ?_
          rotate_left
          · intro u hSw
            go_simp
            try with_reducible rfl
          try simp only [Act.put, List.setIfInBounds_toArray, List.set_cons_zero, List.set_cons_succ]
          refine wpAnyH_take (i := 6) (oi := { dst := some 62, op := Op.move (Operand.tmp 4), type := 61, pos := "ref.go:53", after := #[], guard := none }) (v := ?_) rfl (by kernel_rfl) (by kernel_rfl) (by kernel_rfl) (fun _ _ _ h => h) (Or.inl ⟨by rfl, ?_⟩) hHeld ?_
          rotate_left
          · intro u hSw
            go_simp
            try with_reducible rfl
          try simp only [Act.put, List.setIfInBounds_toArray, List.set_cons_zero, List.set_cons_succ]
          refine wpAnyH_ready (rs := [4, 7]) (by kernel_rfl) (by simp) ?_
          refine AllReadyH.cons (o := { dst := some 60, op := Op.load 83 (Operand.tmp 59), type := 83, pos := "ref.go:53", after := #[{ on := 3, ground := Ground.data }], guard := none }) rfl (fun K hK => ?_) (AllReadyH.cons (o := { dst := some 63, op := Op.call { callee := Callee.value (Operand.func 123), args := #[Operand.const (Value.slice none 0 0), Operand.tmp 61, Operand.tmp 62], argTypes := #[61, 5, 61] }, type := 61, pos := "ref.go:53", after := #[{ on := 5, ground := Ground.data }, { on := 6, ground := Ground.data }], guard := none }) rfl (fun K hK => ?_) AllReadyH.nil)
          · have cL := cellAt HSP5.out.box 1 _ rfl
            go_simp
            refine hK.out _ _ ?_ (fun hHeld => ?_)
            · exact (Below.refl B W5).drew
            clear hK K
            try simp only [Act.put, List.setIfInBounds_toArray, List.set_cons_zero, List.set_cons_succ]
            clear cL
            refine wpAnyH_ready (rs := [7]) (by kernel_rfl) (by simp) ?_
            refine AllReadyH.cons (o := { dst := some 63, op := Op.call { callee := Callee.value (Operand.func 123), args := #[Operand.const (Value.slice none 0 0), Operand.tmp 61, Operand.tmp 62], argTypes := #[61, 5, 61] }, type := 61, pos := "ref.go:53", after := #[{ on := 5, ground := Ground.data }, { on := 6, ground := Ground.data }], guard := none }) rfl (fun K hK => ?_) AllReadyH.nil
            go_simp
            refine Calls.mono (rscaled_F _ none (some ⟨g1, 0, none⟩) 0 0 c cap1 [] (rowF c WW) _ rfl (rowF_len _ _).symm (by omega) (by omega) (.inl rfl) HW5.out.row8) ?_
            rintro e w6 ⟨g6, cap6, rfl, hg6, hb6, hh6⟩
            rw [scaled_none] at hh6 ⊢
            rw [rowF_len]
            have hS6 : Below B W5 w6 := (Below.refl B W5).drew.trans (hb6.mono hBW5)
            have hsz6 : B ≤ w6.heap.size := Nat.le_trans hBW5 hb6.size
            have hsp6 : Hid _ := HSP5.out.drew.below hb6
            have hsp7 : Hid _ := hsp6.out.below ((Below.refl _ _).alloc (Nat.le_refl _) (.cells #[.slice (some ⟨g6, 0, none⟩) c cap6] 61))
            have hS7 : Hid (Below B W5 (w6.alloc (.cells #[.slice (some ⟨g6, 0, none⟩) c cap6] 61))) := hS6.alloc hsz6 _
            have hK7 : Keeps W5 (w6.alloc (.cells #[.slice (some ⟨g6, 0, none⟩) c cap6] 61)) := fun a xs h => row8T_below (row8T_below (show Row8T W5.drew a xs from h) hb6) ((Below.refl _ _).alloc (Nat.le_refl _) _)
            obtain ⟨g8, cap8, w8, hrun, hc8, hf8, hb8, hb9, hK8, hsp8⟩ := hsp7.out.push_rows 83 (cellAt (heap_alloc_last w6 _) 0 _ rfl) (row8T_below (has8_T hh6) ((Below.refl _ _).alloc (Nat.le_refl _) _)) (by simp; omega) hSB (by omega)
            have HRun : Hid _ := hrun
            have hc8 : Hid _ := hc8
            have hf8 : Hid _ := hf8
            have hS8 : Hid (Below B W5 w8) := hS7.out.trans hb8
            have hS9 : Hid (Below B W5 (w8.setCell ⟨SB, 1, none⟩ (.slice (some ⟨g8, 0, none⟩) (t + 1) cap8))) := hS7.out.trans hb9
            have hK9 : Hid (Keeps W5 (w8.setCell ⟨SB, 1, none⟩ (.slice (some ⟨g8, 0, none⟩) (t + 1) cap8))) := fun a xs h => hK8 _ _ (hK7 a xs h)
            have hsp9 : Hid _ := hsp8
            clear hb6 hh6 hrun hb8 hb9 hK7 hK8 hsp8 hsz6 hg6
            go_wp2_with fail
            refine hK.out _ _ ?_ (fun hHeld => ?_)
            · exact hS6
            clear hK K
            try simp only [Act.put, List.setIfInBounds_toArray, List.set_cons_zero, List.set_cons_succ]
            refine wpAnyH_ready (rs := [8]) (by kernel_rfl) (by simp) ?_
            refine AllReadyH.cons (o := { dst := some 64, op := Op.buildSlice 83 1 #[(0, Operand.tmp 63)], type := 83, pos := "ref.go:53", after := #[{ on := 7, ground := Ground.data }], guard := none }) rfl (fun K hK => ?_) AllReadyH.nil
            go_simp
            go_wp2_with fail
            refine hK.out _ _ ?_ (fun hHeld => ?_)
            · exact hS7.out
            clear hK K
            try simp only [Act.put, List.setIfInBounds_toArray, List.set_cons_zero, List.set_cons_succ]
            refine wpAnyH_ready (rs := [9]) (by kernel_rfl) (by simp) ?_
            refine AllReadyH.cons (o := { dst := some 65, op := Op.call { callee := Callee.builtin Builtin.append, args := #[Operand.tmp 60, Operand.tmp 64], argTypes := #[83, 83] }, type := 83, pos := "ref.go:53", after := #[{ on := 4, ground := Ground.data }, { on := 8, ground := Ground.data }, { on := 7, ground := Ground.chain }], guard := none }) rfl (fun K hK => ?_) AllReadyH.nil
            refine wanted_append_run3 rfl _ _ 83 rfl _ _ _ _ rfl rfl HRun.out ?_
            refine hK.out _ _ ?_ (fun hHeld => ?_)
            · exact hS8.out
            clear hK K
            try simp only [Act.put, List.setIfInBounds_toArray, List.set_cons_zero, List.set_cons_succ]
            refine wpAnyH_take (i := 10) (oi := { dst := some 66, op := Op.nilCheck (Operand.tmp 56), type := 0, pos := "ref.go:53", after := #[{ on := 0, ground := Ground.data }, { on := 0, ground := Ground.phase }, { on := 1, ground := Ground.phase }, { on := 2, ground := Ground.phase }, { on := 3, ground := Ground.phase }, { on := 4, ground := Ground.phase }, { on := 5, ground := Ground.phase }, { on := 6, ground := Ground.phase }, { on := 7, ground := Ground.phase }, { on := 8, ground := Ground.phase }, { on := 9, ground := Ground.phase }], guard := none }) (v := ?_) rfl (by kernel_rfl) (by kernel_rfl) (by kernel_rfl) (fun _ _ _ h => h) (Or.inl ⟨by rfl, ?_⟩) hHeld ?_
            rotate_left
            · intro u hSw
              go_simp
              try with_reducible rfl
            try simp only [Act.put, List.setIfInBounds_toArray, List.set_cons_zero, List.set_cons_succ]
            refine wpAnyH_take (i := 11) (oi := { dst := some 67, op := Op.fieldAddr 118 (Operand.tmp 66) 1, type := 0, pos := "ref.go:53", after := #[{ on := 10, ground := Ground.data }, { on := 0, ground := Ground.phase }, { on := 1, ground := Ground.phase }, { on := 2, ground := Ground.phase }, { on := 3, ground := Ground.phase }, { on := 4, ground := Ground.phase }, { on := 5, ground := Ground.phase }, { on := 6, ground := Ground.phase }, { on := 7, ground := Ground.phase }, { on := 8, ground := Ground.phase }, { on := 9, ground := Ground.phase }], guard := none }) (v := ?_) rfl (by kernel_rfl) (by kernel_rfl) (by kernel_rfl) (fun _ _ _ h => h) (Or.inl ⟨by rfl, ?_⟩) hHeld ?_
            rotate_left
            · intro u hSw
              go_simp
              try with_reducible rfl
            try simp only [Act.put, List.setIfInBounds_toArray, List.set_cons_zero, List.set_cons_succ]
            have cS := hc8.out
            have fS := hf8.out
            refine wpAnyH_ready (rs := [12]) (by kernel_rfl) (by simp) ?_
            refine AllReadyH.cons (o := { dst := none, op := Op.store 83 (Operand.tmp 67) (Operand.tmp 65), type := 0, pos := "ref.go:53", after := #[{ on := 11, ground := Ground.data }, { on := 9, ground := Ground.data }, { on := 9, ground := Ground.chain }, { on := 0, ground := Ground.phase }, { on := 1, ground := Ground.phase }, { on := 2, ground := Ground.phase }, { on := 3, ground := Ground.phase }, { on := 4, ground := Ground.phase }, { on := 5, ground := Ground.phase }, { on := 6, ground := Ground.phase }, { on := 7, ground := Ground.phase }, { on := 8, ground := Ground.phase }, { on := 9, ground := Ground.phase }], guard := none }) rfl (fun K hK => ?_) AllReadyH.nil
            go_simp
            refine hK.out _ _ ?_ (fun hHeld => ?_)
            · exact hS9.out
            clear hK K
            try simp only [Act.put, List.setIfInBounds_toArray, List.set_cons_zero, List.set_cons_succ]
            refine wpAnyH_done (by kernel_rfl) ?_ _
            refine NoPanic.normal ?_
            clear cS fS
            go_wp2
            go_meet
            exact Exists.intro g8 (Exists.intro cap8 (Exists.intro _ (Exists.intro _ (And.intro hsp9.out (And.intro (hK9.out _ _ HU5.out) hS9.out)))))
          · go_simp
            refine Calls.mono (rscaled_F _ none (some ⟨g1, 0, none⟩) 0 0 c cap1 [] (rowF c WW) _ rfl (rowF_len _ _).symm (by omega) (by omega) (.inl rfl) HW5.out.row8) ?_
            rintro e w6 ⟨g6, cap6, rfl, hg6, hb6, hh6⟩
            rw [scaled_none] at hh6 ⊢
            rw [rowF_len]
            have hS6 : Below B W5 w6 := (Below.refl B W5).drew.trans (hb6.mono hBW5)
            have hsz6 : B ≤ w6.heap.size := Nat.le_trans hBW5 hb6.size
            have hsp6 : Hid _ := HSP5.out.drew.below hb6
            have hsp7 : Hid _ := hsp6.out.below ((Below.refl _ _).alloc (Nat.le_refl _) (.cells #[.slice (some ⟨g6, 0, none⟩) c cap6] 61))
            have hS7 : Hid (Below B W5 (w6.alloc (.cells #[.slice (some ⟨g6, 0, none⟩) c cap6] 61))) := hS6.alloc hsz6 _
            have hK7 : Keeps W5 (w6.alloc (.cells #[.slice (some ⟨g6, 0, none⟩) c cap6] 61)) := fun a xs h => row8T_below (row8T_below (show Row8T W5.drew a xs from h) hb6) ((Below.refl _ _).alloc (Nat.le_refl _) _)
            obtain ⟨g8, cap8, w8, hrun, hc8, hf8, hb8, hb9, hK8, hsp8⟩ := hsp7.out.push_rows 83 (cellAt (heap_alloc_last w6 _) 0 _ rfl) (row8T_below (has8_T hh6) ((Below.refl _ _).alloc (Nat.le_refl _) _)) (by simp; omega) hSB (by omega)
            have HRun : Hid _ := hrun
            have hc8 : Hid _ := hc8
            have hf8 : Hid _ := hf8
            have hS8 : Hid (Below B W5 w8) := hS7.out.trans hb8
            have hS9 : Hid (Below B W5 (w8.setCell ⟨SB, 1, none⟩ (.slice (some ⟨g8, 0, none⟩) (t + 1) cap8))) := hS7.out.trans hb9
            have hK9 : Hid (Keeps W5 (w8.setCell ⟨SB, 1, none⟩ (.slice (some ⟨g8, 0, none⟩) (t + 1) cap8))) := fun a xs h => hK8 _ _ (hK7 a xs h)
            have hsp9 : Hid _ := hsp8
            clear hb6 hh6 hrun hb8 hb9 hK7 hK8 hsp8 hsz6 hg6
            go_wp2_with fail
            refine hK.out _ _ ?_ (fun hHeld => ?_)
            · exact hS6
            clear hK K
            try simp only [Act.put, List.setIfInBounds_toArray, List.set_cons_zero, List.set_cons_succ]
            refine wpAnyH_ready (rs := [4, 8]) (by kernel_rfl) (by simp) ?_
            refine AllReadyH.cons (o := { dst := some 60, op := Op.load 83 (Operand.tmp 59), type := 83, pos := "ref.go:53", after := #[{ on := 3, ground := Ground.data }], guard := none }) rfl (fun K hK => ?_) (AllReadyH.cons (o := { dst := some 64, op := Op.buildSlice 83 1 #[(0, Operand.tmp 63)], type := 83, pos := "ref.go:53", after := #[{ on := 7, ground := Ground.data }], guard := none }) rfl (fun K hK => ?_) AllReadyH.nil)
            · have cL := cellAt hsp6.out.box 1 _ rfl
              go_simp
              refine hK.out _ _ ?_ (fun hHeld => ?_)
              · exact hS6
              clear hK K
              try simp only [Act.put, List.setIfInBounds_toArray, List.set_cons_zero, List.set_cons_succ]
              clear cL
              refine wpAnyH_ready (rs := [8]) (by kernel_rfl) (by simp) ?_
              refine AllReadyH.cons (o := { dst := some 64, op := Op.buildSlice 83 1 #[(0, Operand.tmp 63)], type := 83, pos := "ref.go:53", after := #[{ on := 7, ground := Ground.data }], guard := none }) rfl (fun K hK => ?_) AllReadyH.nil
              go_simp
              go_wp2_with fail
              refine hK.out _ _ ?_ (fun hHeld => ?_)
              · exact hS7.out
              clear hK K
              try simp only [Act.put, List.setIfInBounds_toArray, List.set_cons_zero, List.set_cons_succ]
              refine wpAnyH_ready (rs := [9]) (by kernel_rfl) (by simp) ?_
              refine AllReadyH.cons (o := { dst := some 65, op := Op.call { callee := Callee.builtin Builtin.append, args := #[Operand.tmp 60, Operand.tmp 64], argTypes := #[83, 83] }, type := 83, pos := "ref.go:53", after := #[{ on := 4, ground := Ground.data }, { on := 8, ground := Ground.data }, { on := 7, ground := Ground.chain }], guard := none }) rfl (fun K hK => ?_) AllReadyH.nil
              refine wanted_append_run3 rfl _ _ 83 rfl _ _ _ _ rfl rfl HRun.out ?_
              refine hK.out _ _ ?_ (fun hHeld => ?_)
              · exact hS8.out
              clear hK K
              try simp only [Act.put, List.setIfInBounds_toArray, List.set_cons_zero, List.set_cons_succ]
              refine wpAnyH_take (i := 10) (oi := { dst := some 66, op := Op.nilCheck (Operand.tmp 56), type := 0, pos := "ref.go:53", after := #[{ on := 0, ground := Ground.data }, { on := 0, ground := Ground.phase }, { on := 1, ground := Ground.phase }, { on := 2, ground := Ground.phase }, { on := 3, ground := Ground.phase }, { on := 4, ground := Ground.phase }, { on := 5, ground := Ground.phase }, { on := 6, ground := Ground.phase }, { on := 7, ground := Ground.phase }, { on := 8, ground := Ground.phase }, { on := 9, ground := Ground.phase }], guard := none }) (v := ?_) rfl (by kernel_rfl) (by kernel_rfl) (by kernel_rfl) (fun _ _ _ h => h) (Or.inl ⟨by rfl, ?_⟩) hHeld ?_
              rotate_left
              · intro u hSw
                go_simp
                try with_reducible rfl
              try simp only [Act.put, List.setIfInBounds_toArray, List.set_cons_zero, List.set_cons_succ]
              refine wpAnyH_take (i := 11) (oi := { dst := some 67, op := Op.fieldAddr 118 (Operand.tmp 66) 1, type := 0, pos := "ref.go:53", after := #[{ on := 10, ground := Ground.data }, { on := 0, ground := Ground.phase }, { on := 1, ground := Ground.phase }, { on := 2, ground := Ground.phase }, { on := 3, ground := Ground.phase }, { on := 4, ground := Ground.phase }, { on := 5, ground := Ground.phase }, { on := 6, ground := Ground.phase }, { on := 7, ground := Ground.phase }, { on := 8, ground := Ground.phase }, { on := 9, ground := Ground.phase }], guard := none }) (v := ?_) rfl (by kernel_rfl) (by kernel_rfl) (by kernel_rfl) (fun _ _ _ h => h) (Or.inl ⟨by rfl, ?_⟩) hHeld ?_
              rotate_left
              · intro u hSw
                go_simp
                try with_reducible rfl
              try simp only [Act.put, List.setIfInBounds_toArray, List.set_cons_zero, List.set_cons_succ]
              have cS := hc8.out
              have fS := hf8.out
              refine wpAnyH_ready (rs := [12]) (by kernel_rfl) (by simp) ?_
              refine AllReadyH.cons (o := { dst := none, op := Op.store 83 (Operand.tmp 67) (Operand.tmp 65), type := 0, pos := "ref.go:53", after := #[{ on := 11, ground := Ground.data }, { on := 9, ground := Ground.data }, { on := 9, ground := Ground.chain }, { on := 0, ground := Ground.phase }, { on := 1, ground := Ground.phase }, { on := 2, ground := Ground.phase }, { on := 3, ground := Ground.phase }, { on := 4, ground := Ground.phase }, { on := 5, ground := Ground.phase }, { on := 6, ground := Ground.phase }, { on := 7, ground := Ground.phase }, { on := 8, ground := Ground.phase }, { on := 9, ground := Ground.phase }], guard := none }) rfl (fun K hK => ?_) AllReadyH.nil
              go_simp
              refine hK.out _ _ ?_ (fun hHeld => ?_)
              · exact hS9.out
              clear hK K
              try simp only [Act.put, List.setIfInBounds_toArray, List.set_cons_zero, List.set_cons_succ]
              refine wpAnyH_done (by kernel_rfl) ?_ _
              refine NoPanic.normal ?_
              clear cS fS
              go_wp2
              go_meet
              exact Exists.intro g8 (Exists.intro cap8 (Exists.intro _ (Exists.intro _ (And.intro hsp9.out (And.intro (hK9.out _ _ HU5.out) hS9.out)))))
            · go_simp
              go_wp2_with fail
              refine hK.out _ _ ?_ (fun hHeld => ?_)
              · exact hS7.out
              clear hK K
              try simp only [Act.put, List.setIfInBounds_toArray, List.set_cons_zero, List.set_cons_succ]
              refine wpAnyH_ready (rs := [4]) (by kernel_rfl) (by simp) ?_
              refine AllReadyH.cons (o := { dst := some 60, op := Op.load 83 (Operand.tmp 59), type := 83, pos := "ref.go:53", after := #[{ on := 3, ground := Ground.data }], guard := none }) rfl (fun K hK => ?_) AllReadyH.nil
              have cL := cellAt hsp7.out.box 1 _ rfl
              go_simp
              refine hK.out _ _ ?_ (fun hHeld => ?_)
              · exact hS7.out
              clear hK K
              try simp only [Act.put, List.setIfInBounds_toArray, List.set_cons_zero, List.set_cons_succ]
              clear cL
              refine wpAnyH_ready (rs := [9]) (by kernel_rfl) (by simp) ?_
              refine AllReadyH.cons (o := { dst := some 65, op := Op.call { callee := Callee.builtin Builtin.append, args := #[Operand.tmp 60, Operand.tmp 64], argTypes := #[83, 83] }, type := 83, pos := "ref.go:53", after := #[{ on := 4, ground := Ground.data }, { on := 8, ground := Ground.data }, { on := 7, ground := Ground.chain }], guard := none }) rfl (fun K hK => ?_) AllReadyH.nil
              refine wanted_append_run3 rfl _ _ 83 rfl _ _ _ _ rfl rfl HRun.out ?_
              refine hK.out _ _ ?_ (fun hHeld => ?_)
              · exact hS8.out
              clear hK K
              try simp only [Act.put, List.setIfInBounds_toArray, List.set_cons_zero, List.set_cons_succ]
              refine wpAnyH_take (i := 10) (oi := { dst := some 66, op := Op.nilCheck (Operand.tmp 56), type := 0, pos := "ref.go:53", after := #[{ on := 0, ground := Ground.data }, { on := 0, ground := Ground.phase }, { on := 1, ground := Ground.phase }, { on := 2, ground := Ground.phase }, { on := 3, ground := Ground.phase }, { on := 4, ground := Ground.phase }, { on := 5, ground := Ground.phase }, { on := 6, ground := Ground.phase }, { on := 7, ground := Ground.phase }, { on := 8, ground := Ground.phase }, { on := 9, ground := Ground.phase }], guard := none }) (v := ?_) rfl (by kernel_rfl) (by kernel_rfl) (by kernel_rfl) (fun _ _ _ h => h) (Or.inl ⟨by rfl, ?_⟩) hHeld ?_
              rotate_left
              · intro u hSw
                go_simp
                try with_reducible rfl
              try simp only [Act.put, List.setIfInBounds_toArray, List.set_cons_zero, List.set_cons_succ]
              refine wpAnyH_take (i := 11) (oi := { dst := some 67, op := Op.fieldAddr 118 (Operand.tmp 66) 1, type := 0, pos := "ref.go:53", after := #[{ on := 10, ground := Ground.data }, { on := 0, ground := Ground.phase }, { on := 1, ground := Ground.phase }, { on := 2, ground := Ground.phase }, { on := 3, ground := Ground.phase }, { on := 4, ground := Ground.phase }, { on := 5, ground := Ground.phase }, { on := 6, ground := Ground.phase }, { on := 7, ground := Ground.phase }, { on := 8, ground := Ground.phase }, { on := 9, ground := Ground.phase }], guard := none }) (v := ?_) rfl (by kernel_rfl) (by kernel_rfl) (by kernel_rfl) (fun _ _ _ h => h) (Or.inl ⟨by rfl, ?_⟩) hHeld ?_
              rotate_left
              · intro u hSw
                go_simp
                try with_reducible rfl
              try simp only [Act.put, List.setIfInBounds_toArray, List.set_cons_zero, List.set_cons_succ]
              have cS := hc8.out
              have fS := hf8.out
              refine wpAnyH_ready (rs := [12]) (by kernel_rfl) (by simp) ?_
              refine AllReadyH.cons (o := { dst := none, op := Op.store 83 (Operand.tmp 67) (Operand.tmp 65), type := 0, pos := "ref.go:53", after := #[{ on := 11, ground := Ground.data }, { on := 9, ground := Ground.data }, { on := 9, ground := Ground.chain }, { on := 0, ground := Ground.phase }, { on := 1, ground := Ground.phase }, { on := 2, ground := Ground.phase }, { on := 3, ground := Ground.phase }, { on := 4, ground := Ground.phase }, { on := 5, ground := Ground.phase }, { on := 6, ground := Ground.phase }, { on := 7, ground := Ground.phase }, { on := 8, ground := Ground.phase }, { on := 9, ground := Ground.phase }], guard := none }) rfl (fun K hK => ?_) AllReadyH.nil
              go_simp
              refine hK.out _ _ ?_ (fun hHeld => ?_)
              · exact hS9.out
              clear hK K
              try simp only [Act.put, List.setIfInBounds_toArray, List.set_cons_zero, List.set_cons_succ]
              refine wpAnyH_done (by kernel_rfl) ?_ _
              refine NoPanic.normal ?_
              clear cS fS
              go_wp2
              go_meet
              exact Exists.intro g8 (Exists.intro cap8 (Exists.intro _ (Exists.intro _ (And.intro hsp9.out (And.intro (hK9.out _ _ HU5.out) hS9.out)))))

        case rest =>
          obtain ⟨gR, cR8, aR8, mR8, hsp6, hu6, hs6⟩ := hcut
          have HSP6 : Hid (SpanW wc B SB c (n + 1) (t + 1) t t t _ _ _ _ _ fm _ Ms f (pivL (tr A) c n)) := hsp6
          have HU6 : Hid (Row8T wc (some ⟨g4, 0, none⟩) us) := hu6
          have HS6 : Hid (Below B W5 wc) := hs6
          have hBW6 : B ≤ wc.heap.size := Nat.le_trans hBW5 hs6.size
          clear hsp6 hu6 hs6 HU5 HW5 HSP5
          generalize wc = W6 at *
          go_upto_region 13 with fail
          go_cut [] (fun wx => ∃ g8 cap8 a8 m8, SpanW wx B SB c (n + 1) (t + 1) (t + 1) t t (.slice (some ⟨gR, 0, none⟩) (t + 1) cR8) (.slice (some ⟨g8, 0, none⟩) (t + 1) cap8) (.slice aF t cF) (.slice aB t cB) (fun i => if i = t then (aR8, mR8) else fr i) (fun i => if i = t then (a8, m8) else fm i) (fun i => if i = t then (fun j => gm (inv (WW p)) (WW j)) else V i) (fun i => if i = t then scaled (inv (WW p)) [] us else Ms i) f (pivL (tr A) c n) ∧ Below B W6 wx)
          case first =>
            refine wp_region_noPanic ?_
            refine wp_region_held_drew (S := fun u => Below B W6 u) (by kernel_rfl) ?_ (fun hHeld => ?_)
            · exact (Below.refl B W6).drew
            refine wpAnyH_take (i := 0) (oi := { dst := some 68, op := Op.move (Operand.tmp 0), type := 119, pos := "ref.go:54", after := #[], guard := none }) (v := ?_) rfl (by kernel_rfl) (by kernel_rfl) (by kernel_rfl) (fun _ _ _ h => h) (Or.inl ⟨by rfl, ?_⟩) hHeld ?_
            rotate_left
            · intro u hSw
              go_simp
              try with_reducible rfl
            try simp only [Act.put, List.setIfInBounds_toArray, List.set_cons_zero, List.set_cons_succ]
            refine wpAnyH_take (i := 1) (oi := { dst := some 69, op := Op.move (Operand.tmp 0), type := 119, pos := "ref.go:54", after := #[], guard := none }) (v := ?_) rfl (by kernel_rfl) (by kernel_rfl) (by kernel_rfl) (fun _ _ _ h => h) (Or.inl ⟨by rfl, ?_⟩) hHeld ?_
            rotate_left
            · intro u hSw
              go_simp
              try with_reducible rfl
            try simp only [Act.put, List.setIfInBounds_toArray, List.set_cons_zero, List.set_cons_succ]
            refine wpAnyH_take (i := 2) (oi := { dst := some 70, op := Op.nilCheck (Operand.tmp 69), type := 0, pos := "ref.go:54", after := #[{ on := 1, ground := Ground.data }], guard := none }) (v := ?_) rfl (by kernel_rfl) (by kernel_rfl) (by kernel_rfl) (fun _ _ _ h => h) (Or.inl ⟨by rfl, ?_⟩) hHeld ?_
            rotate_left
            · intro u hSw
              go_simp
              try with_reducible rfl
            try simp only [Act.put, List.setIfInBounds_toArray, List.set_cons_zero, List.set_cons_succ]
            refine wpAnyH_take (i := 3) (oi := { dst := some 71, op := Op.fieldAddr 118 (Operand.tmp 70) 2, type := 0, pos := "ref.go:54", after := #[{ on := 2, ground := Ground.data }], guard := none }) (v := ?_) rfl (by kernel_rfl) (by kernel_rfl) (by kernel_rfl) (fun _ _ _ h => h) (Or.inl ⟨by rfl, ?_⟩) hHeld ?_
            rotate_left
            · intro u hSw
              go_simp
              try with_reducible rfl
            try simp only [Act.put, List.setIfInBounds_toArray, List.set_cons_zero, List.set_cons_succ]
            refine wpAnyH_take (i := 5) (oi := { dst := some 73, op := Op.move (Operand.tmp 9), type := 5, pos := "ref.go:54", after := #[], guard := none }) (v := ?_) rfl (by kernel_rfl) (by kernel_rfl) (by kernel_rfl) (fun _ _ _ h => h) (Or.inl ⟨by rfl, ?_⟩) hHeld ?_
            rotate_left
            · intro u hSw
              go_simp
              try with_reducible rfl
            try simp only [Act.put, List.setIfInBounds_toArray, List.set_cons_zero, List.set_cons_succ]
            refine wpAnyH_take (i := 6) (oi := { dst := some 74, op := Op.move (Operand.tmp 5), type := 61, pos := "ref.go:54", after := #[], guard := none }) (v := ?_) rfl (by kernel_rfl) (by kernel_rfl) (by kernel_rfl) (fun _ _ _ h => h) (Or.inl ⟨by rfl, ?_⟩) hHeld ?_
            rotate_left
            · intro u hSw
              go_simp
              try with_reducible rfl
            try simp only [Act.put, List.setIfInBounds_toArray, List.set_cons_zero, List.set_cons_succ]
            refine wpAnyH_ready (rs := [4, 7]) (by kernel_rfl) (by simp) ?_
            refine AllReadyH.cons (o := { dst := some 72, op := Op.load 83 (Operand.tmp 71), type := 83, pos := "ref.go:54", after := #[{ on := 3, ground := Ground.data }], guard := none }) rfl (fun K hK => ?_) (AllReadyH.cons (o := { dst := some 75, op := Op.call { callee := Callee.value (Operand.func 123), args := #[Operand.const (Value.slice none 0 0), Operand.tmp 73, Operand.tmp 74], argTypes := #[61, 5, 61] }, type := 61, pos := "ref.go:54", after := #[{ on := 5, ground := Ground.data }, { on := 6, ground := Ground.data }], guard := none }) rfl (fun K hK => ?_) AllReadyH.nil)
            · have cL := cellAt HSP6.out.box 2 _ rfl
              go_simp
              refine hK.out _ _ ?_ (fun hHeld => ?_)
              · exact (Below.refl B W6).drew
              clear hK K
              try simp only [Act.put, List.setIfInBounds_toArray, List.set_cons_zero, List.set_cons_succ]
              clear cL
              refine wpAnyH_ready (rs := [7]) (by kernel_rfl) (by simp) ?_
              refine AllReadyH.cons (o := { dst := some 75, op := Op.call { callee := Callee.value (Operand.func 123), args := #[Operand.const (Value.slice none 0 0), Operand.tmp 73, Operand.tmp 74], argTypes := #[61, 5, 61] }, type := 61, pos := "ref.go:54", after := #[{ on := 5, ground := Ground.data }, { on := 6, ground := Ground.data }], guard := none }) rfl (fun K hK => ?_) AllReadyH.nil
              go_simp
              refine Calls.mono (rscaled_F _ none (some ⟨g4, 0, none⟩) 0 0 (n + 1) cap4 [] us _ rfl HUL.out.symm (by omega) (by omega) (.inl rfl) HU6.out.row8) ?_
              rintro e w6 ⟨g6, cap6, rfl, hg6, hb6, hh6⟩
              have hlen : (scaled (inv (WW p)) [] us).length = n + 1 := by rw [scaled_len, HUL.out]; simp
              have hS6 : Below B W6 w6 := (Below.refl B W6).drew.trans (hb6.mono hBW6)
              have hsz6 : B ≤ w6.heap.size := Nat.le_trans hBW6 hb6.size
              have hsp6 : Hid _ := HSP6.out.drew.below hb6
              have hsp7 : Hid _ := hsp6.out.below ((Below.refl _ _).alloc (Nat.le_refl _) (.cells #[.slice (some ⟨g6, 0, none⟩) (scaled (inv (WW p)) [] us).length cap6] 61))
              have hS7 : Hid (Below B W6 (w6.alloc (.cells #[.slice (some ⟨g6, 0, none⟩) (scaled (inv (WW p)) [] us).length cap6] 61))) := hS6.alloc hsz6 _
              obtain ⟨g8, cap8, w8, hrun, hc8, hf8, hb8, hb9, hK8, hsp8⟩ := hsp7.out.push_made 83 (cellAt (heap_alloc_last w6 _) 0 _ rfl) (row8T_below (has8_T hh6) ((Below.refl _ _).alloc (Nat.le_refl _) _)) (Nat.le_of_eq hlen) (by simp; omega) hSB (by omega)
              have HRun : Hid _ := hrun
              have hc8 : Hid _ := hc8
              have hf8 : Hid _ := hf8
              have hS8 : Hid (Below B W6 w8) := hS7.out.trans hb8
              have hS9 : Hid (Below B W6 (w8.setCell ⟨SB, 2, none⟩ (.slice (some ⟨g8, 0, none⟩) (t + 1) cap8))) := hS7.out.trans hb9
              have hsp9 : Hid _ := hsp8
              clear hb6 hh6 hrun hb8 hb9 hK8 hsp8 hsz6 hg6 hlen
              go_wp2_with fail
              refine hK.out _ _ ?_ (fun hHeld => ?_)
              · exact hS6
              clear hK K
              try simp only [Act.put, List.setIfInBounds_toArray, List.set_cons_zero, List.set_cons_succ]
              refine wpAnyH_ready (rs := [8]) (by kernel_rfl) (by simp) ?_
              refine AllReadyH.cons (o := { dst := some 76, op := Op.buildSlice 83 1 #[(0, Operand.tmp 75)], type := 83, pos := "ref.go:54", after := #[{ on := 7, ground := Ground.data }], guard := none }) rfl (fun K hK => ?_) AllReadyH.nil
              go_simp
              go_wp2_with fail
              refine hK.out _ _ ?_ (fun hHeld => ?_)
              · exact hS7.out
              clear hK K
              try simp only [Act.put, List.setIfInBounds_toArray, List.set_cons_zero, List.set_cons_succ]
              refine wpAnyH_ready (rs := [9]) (by kernel_rfl) (by simp) ?_
              refine AllReadyH.cons (o := { dst := some 77, op := Op.call { callee := Callee.builtin Builtin.append, args := #[Operand.tmp 72, Operand.tmp 76], argTypes := #[83, 83] }, type := 83, pos := "ref.go:54", after := #[{ on := 4, ground := Ground.data }, { on := 8, ground := Ground.data }, { on := 7, ground := Ground.chain }], guard := none }) rfl (fun K hK => ?_) AllReadyH.nil
              refine wanted_append_run3 rfl _ _ 83 rfl _ _ _ _ rfl rfl HRun.out ?_
              refine hK.out _ _ ?_ (fun hHeld => ?_)
              · exact hS8.out
              clear hK K
              try simp only [Act.put, List.setIfInBounds_toArray, List.set_cons_zero, List.set_cons_succ]
              refine wpAnyH_take (i := 10) (oi := { dst := some 78, op := Op.nilCheck (Operand.tmp 68), type := 0, pos := "ref.go:54", after := #[{ on := 0, ground := Ground.data }, { on := 0, ground := Ground.phase }, { on := 1, ground := Ground.phase }, { on := 2, ground := Ground.phase }, { on := 3, ground := Ground.phase }, { on := 4, ground := Ground.phase }, { on := 5, ground := Ground.phase }, { on := 6, ground := Ground.phase }, { on := 7, ground := Ground.phase }, { on := 8, ground := Ground.phase }, { on := 9, ground := Ground.phase }], guard := none }) (v := ?_) rfl (by kernel_rfl) (by kernel_rfl) (by kernel_rfl) (fun _ _ _ h => h) (Or.inl ⟨by rfl, ?_⟩) hHeld ?_
              rotate_left
              · intro u hSw
                go_simp
                try with_reducible rfl
              try simp only [Act.put, List.setIfInBounds_toArray, List.set_cons_zero, List.set_cons_succ]
              refine wpAnyH_take (i := 11) (oi := { dst := some 79, op := Op.fieldAddr 118 (Operand.tmp 78) 2, type := 0, pos := "ref.go:54", after := #[{ on := 10, ground := Ground.data }, { on := 0, ground := Ground.phase }, { on := 1, ground := Ground.phase }, { on := 2, ground := Ground.phase }, { on := 3, ground := Ground.phase }, { on := 4, ground := Ground.phase }, { on := 5, ground := Ground.phase }, { on := 6, ground := Ground.phase }, { on := 7, ground := Ground.phase }, { on := 8, ground := Ground.phase }, { on := 9, ground := Ground.phase }], guard := none }) (v := ?_) rfl (by kernel_rfl) (by kernel_rfl) (by kernel_rfl) (fun _ _ _ h => h) (Or.inl ⟨by rfl, ?_⟩) hHeld ?_
              rotate_left
              · intro u hSw
                go_simp
                try with_reducible rfl
              try simp only [Act.put, List.setIfInBounds_toArray, List.set_cons_zero, List.set_cons_succ]
              have cS := hc8.out
              have fS := hf8.out
              refine wpAnyH_ready (rs := [12]) (by kernel_rfl) (by simp) ?_
              refine AllReadyH.cons (o := { dst := none, op := Op.store 83 (Operand.tmp 79) (Operand.tmp 77), type := 0, pos := "ref.go:54", after := #[{ on := 11, ground := Ground.data }, { on := 9, ground := Ground.data }, { on := 9, ground := Ground.chain }, { on := 0, ground := Ground.phase }, { on := 1, ground := Ground.phase }, { on := 2, ground := Ground.phase }, { on := 3, ground := Ground.phase }, { on := 4, ground := Ground.phase }, { on := 5, ground := Ground.phase }, { on := 6, ground := Ground.phase }, { on := 7, ground := Ground.phase }, { on := 8, ground := Ground.phase }, { on := 9, ground := Ground.phase }], guard := none }) rfl (fun K hK => ?_) AllReadyH.nil
              go_simp
              refine hK.out _ _ ?_ (fun hHeld => ?_)
              · exact hS9.out
              clear hK K
              try simp only [Act.put, List.setIfInBounds_toArray, List.set_cons_zero, List.set_cons_succ]
              refine wpAnyH_done (by kernel_rfl) ?_ _
              refine NoPanic.normal ?_
              clear cS fS
              go_wp2
              go_meet
              exact Exists.intro g8 (Exists.intro cap8 (Exists.intro _ (Exists.intro _ (And.intro hsp9.out hS9.out))))
            · go_simp
              refine Calls.mono (rscaled_F _ none (some ⟨g4, 0, none⟩) 0 0 (n + 1) cap4 [] us _ rfl HUL.out.symm (by omega) (by omega) (.inl rfl) HU6.out.row8) ?_
              rintro e w6 ⟨g6, cap6, rfl, hg6, hb6, hh6⟩
              have hlen : (scaled (inv (WW p)) [] us).length = n + 1 := by rw [scaled_len, HUL.out]; simp
              have hS6 : Below B W6 w6 := (Below.refl B W6).drew.trans (hb6.mono hBW6)
              have hsz6 : B ≤ w6.heap.size := Nat.le_trans hBW6 hb6.size
              have hsp6 : Hid _ := HSP6.out.drew.below hb6
              have hsp7 : Hid _ := hsp6.out.below ((Below.refl _ _).alloc (Nat.le_refl _) (.cells #[.slice (some ⟨g6, 0, none⟩) (scaled (inv (WW p)) [] us).length cap6] 61))
              have hS7 : Hid (Below B W6 (w6.alloc (.cells #[.slice (some ⟨g6, 0, none⟩) (scaled (inv (WW p)) [] us).length cap6] 61))) := hS6.alloc hsz6 _
              obtain ⟨g8, cap8, w8, hrun, hc8, hf8, hb8, hb9, hK8, hsp8⟩ := hsp7.out.push_made 83 (cellAt (heap_alloc_last w6 _) 0 _ rfl) (row8T_below (has8_T hh6) ((Below.refl _ _).alloc (Nat.le_refl _) _)) (Nat.le_of_eq hlen) (by simp; omega) hSB (by omega)
              have HRun : Hid _ := hrun
              have hc8 : Hid _ := hc8
              have hf8 : Hid _ := hf8
              have hS8 : Hid (Below B W6 w8) := hS7.out.trans hb8
              have hS9 : Hid (Below B W6 (w8.setCell ⟨SB, 2, none⟩ (.slice (some ⟨g8, 0, none⟩) (t + 1) cap8))) := hS7.out.trans hb9
              have hsp9 : Hid _ := hsp8
              clear hb6 hh6 hrun hb8 hb9 hK8 hsp8 hsz6 hg6 hlen
              go_wp2_with fail
              refine hK.out _ _ ?_ (fun hHeld => ?_)
              · exact hS6
              clear hK K
              try simp only [Act.put, List.setIfInBounds_toArray, List.set_cons_zero, List.set_cons_succ]
              refine wpAnyH_ready (rs := [4, 8]) (by kernel_rfl) (by simp) ?_
              refine AllReadyH.cons (o := { dst := some 72, op := Op.load 83 (Operand.tmp 71), type := 83, pos := "ref.go:54", after := #[{ on := 3, ground := Ground.data }], guard := none }) rfl (fun K hK => ?_) (AllReadyH.cons (o := { dst := some 76, op := Op.buildSlice 83 1 #[(0, Operand.tmp 75)], type := 83, pos := "ref.go:54", after := #[{ on := 7, ground := Ground.data }], guard := none }) rfl (fun K hK => ?_) AllReadyH.nil)
              · have cL := cellAt hsp6.out.box 2 _ rfl
                go_simp
                refine hK.out _ _ ?_ (fun hHeld => ?_)
                · exact hS6
                clear hK K
                try simp only [Act.put, List.setIfInBounds_toArray, List.set_cons_zero, List.set_cons_succ]
                clear cL
                refine wpAnyH_ready (rs := [8]) (by kernel_rfl) (by simp) ?_
                refine AllReadyH.cons (o := { dst := some 76, op := Op.buildSlice 83 1 #[(0, Operand.tmp 75)], type := 83, pos := "ref.go:54", after := #[{ on := 7, ground := Ground.data }], guard := none }) rfl (fun K hK => ?_) AllReadyH.nil
                go_simp
                go_wp2_with fail
                refine hK.out _ _ ?_ (fun hHeld => ?_)
                · exact hS7.out
                clear hK K
                try simp only [Act.put, List.setIfInBounds_toArray, List.set_cons_zero, List.set_cons_succ]
                refine wpAnyH_ready (rs := [9]) (by kernel_rfl) (by simp) ?_
                refine AllReadyH.cons (o := { dst := some 77, op := Op.call { callee := Callee.builtin Builtin.append, args := #[Operand.tmp 72, Operand.tmp 76], argTypes := #[83, 83] }, type := 83, pos := "ref.go:54", after := #[{ on := 4, ground := Ground.data }, { on := 8, ground := Ground.data }, { on := 7, ground := Ground.chain }], guard := none }) rfl (fun K hK => ?_) AllReadyH.nil
                refine wanted_append_run3 rfl _ _ 83 rfl _ _ _ _ rfl rfl HRun.out ?_
                refine hK.out _ _ ?_ (fun hHeld => ?_)
                · exact hS8.out
                clear hK K
                try simp only [Act.put, List.setIfInBounds_toArray, List.set_cons_zero, List.set_cons_succ]
                refine wpAnyH_take (i := 10) (oi := { dst := some 78, op := Op.nilCheck (Operand.tmp 68), type := 0, pos := "ref.go:54", after := #[{ on := 0, ground := Ground.data }, { on := 0, ground := Ground.phase }, { on := 1, ground := Ground.phase }, { on := 2, ground := Ground.phase }, { on := 3, ground := Ground.phase }, { on := 4, ground := Ground.phase }, { on := 5, ground := Ground.phase }, { on := 6, ground := Ground.phase }, { on := 7, ground := Ground.phase }, { on := 8, ground := Ground.phase }, { on := 9, ground := Ground.phase }], guard := none }) (v := ?_) rfl (by kernel_rfl) (by kernel_rfl) (by kernel_rfl) (fun _ _ _ h => h) (Or.inl ⟨by rfl, ?_⟩) hHeld ?_
                rotate_left
                · intro u hSw
                  go_simp
                  try with_reducible rfl
                try simp only [Act.put, List.setIfInBounds_toArray, List.set_cons_zero, List.set_cons_succ]
                refine wpAnyH_take (i := 11) (oi := { dst := some 79, op := Op.fieldAddr 118 (Operand.tmp 78) 2, type := 0, pos := "ref.go:54", after := #[{ on := 10, ground := Ground.data }, { on := 0, ground := Ground.phase }, { on := 1, ground := Ground.phase }, { on := 2, ground := Ground.phase }, { on := 3, ground := Ground.phase }, { on := 4, ground := Ground.phase }, { on := 5, ground := Ground.phase }, { on := 6, ground := Ground.phase }, { on := 7, ground := Ground.phase }, { on := 8, ground := Ground.phase }, { on := 9, ground := Ground.phase }], guard := none }) (v := ?_) rfl (by kernel_rfl) (by kernel_rfl) (by kernel_rfl) (fun _ _ _ h => h) (Or.inl ⟨by rfl, ?_⟩) hHeld ?_
                rotate_left
                · intro u hSw
                  go_simp
                  try with_reducible rfl
                try simp only [Act.put, List.setIfInBounds_toArray, List.set_cons_zero, List.set_cons_succ]
                have cS := hc8.out
                have fS := hf8.out
                refine wpAnyH_ready (rs := [12]) (by kernel_rfl) (by simp) ?_
                refine AllReadyH.cons (o := { dst := none, op := Op.store 83 (Operand.tmp 79) (Operand.tmp 77), type := 0, pos := "ref.go:54", after := #[{ on := 11, ground := Ground.data }, { on := 9, ground := Ground.data }, { on := 9, ground := Ground.chain }, { on := 0, ground := Ground.phase }, { on := 1, ground := Ground.phase }, { on := 2, ground := Ground.phase }, { on := 3, ground := Ground.phase }, { on := 4, ground := Ground.phase }, { on := 5, ground := Ground.phase }, { on := 6, ground := Ground.phase }, { on := 7, ground := Ground.phase }, { on := 8, ground := Ground.phase }, { on := 9, ground := Ground.phase }], guard := none }) rfl (fun K hK => ?_) AllReadyH.nil
                go_simp
                refine hK.out _ _ ?_ (fun hHeld => ?_)
                · exact hS9.out
                clear hK K
                try simp only [Act.put, List.setIfInBounds_toArray, List.set_cons_zero, List.set_cons_succ]
                refine wpAnyH_done (by kernel_rfl) ?_ _
                refine NoPanic.normal ?_
                clear cS fS
                go_wp2
                go_meet
                exact Exists.intro g8 (Exists.intro cap8 (Exists.intro _ (Exists.intro _ (And.intro hsp9.out hS9.out))))
              · go_simp
                go_wp2_with fail
                refine hK.out _ _ ?_ (fun hHeld => ?_)
                · exact hS7.out
                clear hK K
                try simp only [Act.put, List.setIfInBounds_toArray, List.set_cons_zero, List.set_cons_succ]
                refine wpAnyH_ready (rs := [4]) (by kernel_rfl) (by simp) ?_
                refine AllReadyH.cons (o := { dst := some 72, op := Op.load 83 (Operand.tmp 71), type := 83, pos := "ref.go:54", after := #[{ on := 3, ground := Ground.data }], guard := none }) rfl (fun K hK => ?_) AllReadyH.nil
                have cL := cellAt hsp7.out.box 2 _ rfl
                go_simp
                refine hK.out _ _ ?_ (fun hHeld => ?_)
                · exact hS7.out
                clear hK K
                try simp only [Act.put, List.setIfInBounds_toArray, List.set_cons_zero, List.set_cons_succ]
                clear cL
                refine wpAnyH_ready (rs := [9]) (by kernel_rfl) (by simp) ?_
                refine AllReadyH.cons (o := { dst := some 77, op := Op.call { callee := Callee.builtin Builtin.append, args := #[Operand.tmp 72, Operand.tmp 76], argTypes := #[83, 83] }, type := 83, pos := "ref.go:54", after := #[{ on := 4, ground := Ground.data }, { on := 8, ground := Ground.data }, { on := 7, ground := Ground.chain }], guard := none }) rfl (fun K hK => ?_) AllReadyH.nil
                refine wanted_append_run3 rfl _ _ 83 rfl _ _ _ _ rfl rfl HRun.out ?_
                refine hK.out _ _ ?_ (fun hHeld => ?_)
                · exact hS8.out
                clear hK K
                try simp only [Act.put, List.setIfInBounds_toArray, List.set_cons_zero, List.set_cons_succ]
                refine wpAnyH_take (i := 10) (oi := { dst := some 78, op := Op.nilCheck (Operand.tmp 68), type := 0, pos := "ref.go:54", after := #[{ on := 0, ground := Ground.data }, { on := 0, ground := Ground.phase }, { on := 1, ground := Ground.phase }, { on := 2, ground := Ground.phase }, { on := 3, ground := Ground.phase }, { on := 4, ground := Ground.phase }, { on := 5, ground := Ground.phase }, { on := 6, ground := Ground.phase }, { on := 7, ground := Ground.phase }, { on := 8, ground := Ground.phase }, { on := 9, ground := Ground.phase }], guard := none }) (v := ?_) rfl (by kernel_rfl) (by kernel_rfl) (by kernel_rfl) (fun _ _ _ h => h) (Or.inl ⟨by rfl, ?_⟩) hHeld ?_
                rotate_left
                · intro u hSw
                  go_simp
                  try with_reducible rfl
                try simp only [Act.put, List.setIfInBounds_toArray, List.set_cons_zero, List.set_cons_succ]
                refine wpAnyH_take (i := 11) (oi := { dst := some 79, op := Op.fieldAddr 118 (Operand.tmp 78) 2, type := 0, pos := "ref.go:54", after := #[{ on := 10, ground := Ground.data }, { on := 0, ground := Ground.phase }, { on := 1, ground := Ground.phase }, { on := 2, ground := Ground.phase }, { on := 3, ground := Ground.phase }, { on := 4, ground := Ground.phase }, { on := 5, ground := Ground.phase }, { on := 6, ground := Ground.phase }, { on := 7, ground := Ground.phase }, { on := 8, ground := Ground.phase }, { on := 9, ground := Ground.phase }], guard := none }) (v := ?_) rfl (by kernel_rfl) (by kernel_rfl) (by kernel_rfl) (fun _ _ _ h => h) (Or.inl ⟨by rfl, ?_⟩) hHeld ?_
                rotate_left
                · intro u hSw
                  go_simp
                  try with_reducible rfl
                try simp only [Act.put, List.setIfInBounds_toArray, List.set_cons_zero, List.set_cons_succ]
                have cS := hc8.out
                have fS := hf8.out
                refine wpAnyH_ready (rs := [12]) (by kernel_rfl) (by simp) ?_
                refine AllReadyH.cons (o := { dst := none, op := Op.store 83 (Operand.tmp 79) (Operand.tmp 77), type := 0, pos := "ref.go:54", after := #[{ on := 11, ground := Ground.data }, { on := 9, ground := Ground.data }, { on := 9, ground := Ground.chain }, { on := 0, ground := Ground.phase }, { on := 1, ground := Ground.phase }, { on := 2, ground := Ground.phase }, { on := 3, ground := Ground.phase }, { on := 4, ground := Ground.phase }, { on := 5, ground := Ground.phase }, { on := 6, ground := Ground.phase }, { on := 7, ground := Ground.phase }, { on := 8, ground := Ground.phase }, { on := 9, ground := Ground.phase }], guard := none }) rfl (fun K hK => ?_) AllReadyH.nil
                go_simp
                refine hK.out _ _ ?_ (fun hHeld => ?_)
                · exact hS9.out
                clear hK K
                try simp only [Act.put, List.setIfInBounds_toArray, List.set_cons_zero, List.set_cons_succ]
                refine wpAnyH_done (by kernel_rfl) ?_ _
                refine NoPanic.normal ?_
                clear cS fS
                go_wp2
                go_meet
                exact Exists.intro g8 (Exists.intro cap8 (Exists.intro _ (Exists.intro _ (And.intro hsp9.out hS9.out))))

          case rest =>
            obtain ⟨gM, cM8, aM8, mM8, hsp7, hs7⟩ := hcut
            have HSP7 : Hid (SpanW wc B SB c (n + 1) (t + 1) (t + 1) t t _ _ _ _ _ _ _ _ f (pivL (tr A) c n)) := hsp7
            have HS7 : Hid (Below B W5 wc) := HS6.out.trans hs7
            clear hsp7 hs7 HS6 HSP6 HU6 hBW6
            generalize wc = W7 at *
            have hBW7 : B ≤ W7.heap.size := Nat.le_trans HBN.out HS7.out.size
            obtain ⟨gf, cf, wf, hrunf, hcf, hff, hbf, hspf⟩ := (HSP7.out.below ((Below.refl _ _).alloc (Nat.le_refl _) (.cells #[.int .i64 p] 3))).push_first 22 (cellAt (heap_alloc_last W7 _) 0 _ rfl) (by simp; omega) hSB (by omega)
            have hSf : Below B W7 (wf.setCell ⟨SB, 3, none⟩ (.slice (some ⟨gf, 0, none⟩) (t + 1) cf)) := ((Below.refl B W7).alloc hBW7 _).trans hbf
            have hBWf : B ≤ (wf.setCell ⟨SB, 3, none⟩ (.slice (some ⟨gf, 0, none⟩) (t + 1) cf)).heap.size := Nat.le_trans hBW7 hSf.size
            obtain ⟨gb, cb, wb, hrunb, hcb, hfb, hbb, hspb⟩ := (hspf.below ((Below.refl _ _).alloc (Nat.le_refl _) (.cells #[.int .i64 n] 3))).push_basis 22 (cellAt (heap_alloc_last (wf.setCell ⟨SB, 3, none⟩ (.slice (some ⟨gf, 0, none⟩) (t + 1) cf)) _) 0 _ rfl) (by rw [World.size_alloc]; omega) hSB (by omega)
            have hSb : Below B W7 (wb.setCell ⟨SB, 5, none⟩ (.slice (some ⟨gb, 0, none⟩) (t + 1) cb)) := (hSf.alloc hBWf _).trans hbb
            have k3 : W7.cell? ⟨SB, 3, none⟩ = some (.slice aF t cF) := cellAt HSP7.out.box 3 _ rfl
            have k5 : (wf.setCell ⟨SB, 3, none⟩ (.slice (some ⟨gf, 0, none⟩) (t + 1) cf)).cell? ⟨SB, 5, none⟩ = some (.slice aB t cB) := cellAt hspf.box 5 _ rfl
            have HSPB : Hid _ := hspb
            have HSB : Hid _ := HS7.out.trans hSb
            have HRF : Hid _ := hrunf
            have HRB : Hid _ := hrunb
            clear hspf hspb hrunf hrunb hSf hbf hbb hBWf hSb
            go_upto_region 15 with (at_builtin; refine wpList_append_run rfl _ _ 22 rfl _ _ _ _ rfl rfl HRF.out ?_)
            clear HRF k3 hcf hff
            generalize (wf.setCell ⟨SB, 3, none⟩ (.slice (some ⟨gf, 0, none⟩) (t + 1) cf)) = W9 at *
            go_wp2_with (at_builtin; refine wpList_append_run rfl _ _ 22 rfl _ _ _ _ rfl rfl HRB.out ?_)
            refine ⟨rfl, .tuple #[], by simp [results, Tryz.results107, go_sem], rfl, HBB.out.trans HSB.out, ⟨t + 1, _, _, _, _, _, _, _, _, _, by rw [HSO.out.piv_yes hpc hpz]; exact HSPB.out, ?_⟩⟩
            · have := HSO.out.add_yes hpc hpz HMN.out
              refine SpanOf.congrF this (fun i hi j hj => ?_) (fun i hi j hj => ?_) (fun i hi => ?_)
              · simp only [addV, HWW.out]
              · by_cases e : i = t
                · subst e
                  simp only [addU, madeF, if_true, HWW.out]
                  rw [at8_scaled, at8_nil, F.zero_add]
                  congr 1
                  rw [HUS.out]
                  by_cases h1 : j < n
                  · rw [if_pos h1, at8_left (by rw [rowF_len]; exact h1), at8_rowF h1]
                  · rw [if_neg h1, if_pos (by omega), at8_right (by rw [rowF_len]; omega), rowF_len, show j - n = 0 by omega]; rfl
                · simp only [addU, madeF, e, if_false]
              · simp only [addf]
                have hfl := HFL.out
                by_cases e : i = t
                · rw [if_pos e]; simp [List.getD, e, ← hfl]
                · rw [if_neg e]; simp only [List.getD]; rw [List.getElem?_append_left (by omega)]

    · obtain ⟨k', rfl⟩ : ∃ k', k = k' + 1 := ⟨k - 1, by omega⟩
      have e1 : (((k' + 1 : Nat) : Int) - 1) = (k' : Int) := by omega
      rw [e1]
      clear e1
      obtain ⟨bq, oq, eq, _, hcq⟩ := row8_cell HWV.out.row8 (j := k') (by rw [rowF_len]; omega)
      cases eq
      have cp := hcq k' (by rw [rowF_len]; omega)
      rw [at8_rowF (by omega), Nat.zero_add] at cp
      clear hcq
      by_cases hz : WW k' = 0
      · rw [hz] at cp
        go_wp2
        refine ⟨⟨k', x, by omega, by go_num, by first | rfl | trivial, by first | rfl | trivial, ?_⟩, by simp [intOf]⟩
        rcases HXX.out with ⟨h1, h2⟩ | h1
        · exact .inl ⟨h1, fun j h3 h4 => by
            by_cases e : j = k'
            · rw [e]; exact hz
            · exact h2 j (by omega) h4⟩
        · exact .inr h1
      · have hnz : ((WW k').toNat : Int) ≠ 0 := by
          intro e; exact hz (F.val_eq_zero.1 (by omega))
        go_wp2
        exact ⟨⟨k', k', by omega, by go_num, by first | rfl | trivial, by first | rfl | trivial, .inr ⟨k', rfl, by omega, hz⟩⟩, by simp [intOf]⟩
end Go.Proofs.YtjmbpldkggbdlaaGreatDoor
