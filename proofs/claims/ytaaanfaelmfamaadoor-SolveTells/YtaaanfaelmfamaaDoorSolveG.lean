/- What Solve and Express of package solve answer, of all matrices and lists. -/
import Derived.Test.YtaaanfaelmfamaaDoorSolveF
namespace Go.Proofs.YtaaanfaelmfamaaDoor
open Go.RowKit Gf
set_option linter.unusedVariables false
set_option maxRecDepth 20000
/-- the solution of a reduced matrix, as far as the first k pivots go -/
def solX (c : Nat) (p : List Nat) (R : Mt) (k : Nat) : List F := rowF c (onF (p.getD · 0) (fun i => R i c) k)
theorem solX_len (c : Nat) (p : List Nat) (R : Mt) (k : Nat) : (solX c p R k).length = c := rowF_len _ _
theorem solX_zero (c : Nat) (p : List Nat) (R : Mt) : zeros c = solX c p R 0 := rowF_eq (zeros_len _) fun j _ => at8_zeros _ _
theorem solX_step {c k j : Nat} {p : List Nat} (R : Mt) (hp : p.Pairwise (· < ·)) (hk : p[k]? = some j) (hj : j < c) : (solX c p R k).set j (R k c) = solX c p R (k + 1) := by
  have hkl := (List.getElem?_eq_some_iff.1 hk).1
  have hg : p.getD k 0 = j := by simp [List.getD, hk]
  refine rowF_eq (by rw [List.length_set, solX_len]) fun l hl => ?_
  have h1 : at8 (solX c p R k) l = onF (p.getD · 0) (fun i => R i c) k l := at8_rowF hl
  have h2 : at8 ((solX c p R k).set j (R k c)) l = if l = j then R k c else at8 (solX c p R k) l := by
    simp only [at8, List.getD, List.getElem?_set, solX_len]
    by_cases e : j = l
    · subst e; simp [hl]
    · simp [e, show ¬ l = j from fun h => e h.symm]
  rw [h2, h1]
  simp only [onF, sumF, hg]
  by_cases e : l = j
  · subst e
    rw [if_pos rfl, if_pos rfl, sumF_none, F.zero_add]
    intro i hi
    have hil : i < p.length := by omega
    have := List.pairwise_iff_getElem.1 hp i k hil hkl hi
    have e1 : p[k] = l := by rw [List.getElem?_eq_getElem hkl] at hk; exact Option.some.inj hk
    rw [if_neg]
    simp only [List.getD, List.getElem?_eq_getElem hil, Option.getD_some]
    omega
  · rw [if_neg e, if_neg (fun h => e h.symm), F.add_zero]
theorem natV_at {p : List Nat} {k j : Nat} (h : p[k]? = some j) : (natV p)[k]? = some (.int .i64 j) := by simp [natV, h]
/-- what Solve tells where there is a solution: the only one that is 0 off the pivots -/
structure SolOf (A : Mt) (r c : Nat) (v x : Nat → F) : Prop where
  sol : ∀ i, i < r → v i = sumF (fun l => gm (A i l) (x l)) c
  off : ∀ l, l < c → l ∉ pivL A r c → x l = 0
theorem SolOf.same {A : Mt} {r c : Nat} {v x y : Nat → F} (h : SolOf A r c v x) (k : SolOf A r c v y) : ∀ l, l < c → x l = y l :=
  sols_eq h.off k.off fun i hi => (h.sol i hi).symm.trans (k.sol i hi)
theorem own_nat {w : World} {B cp k j : Nat} {av : Option Addr} {p : List Nat} (ho : w.ownsRow B 3 1 (.slice av p.length cp) p.length (natV p)) (hk : p[k]? = some j) : ∃ g, av = some ⟨g, 0, none⟩ ∧ g < w.heap.size ∧ w.cell? ⟨g, k, none⟩ = some (.int .i64 j) := by
  have hkl := (List.getElem?_eq_some_iff.1 hk).1
  rcases ho.2 with ⟨e, e0⟩ | ⟨g, cap, cur, e, h1, h2, h3⟩
  · omega
  · cases e
    refine ⟨g, rfl, ltHeap h2, ?_⟩
    rw [ho.cellAt k (by omega), natV_at hk]
set_option maxHeartbeats 8000000 in
theorem solve_F (r c l cap lv cv : Nat) (a b : Option Addr) (xs vs : List F) (w : World) (hr : r ≤ 64) (hc : c ≤ 64) (hl : l = r * c) (hx : xs.length = r * c) (hcap : l ≤ cap) (hX : Row8 w a xs) (hnil : a = none → cap = 0)
    (hlv : lv = r) (hv : vs.length = r) (hcv : lv ≤ cv) (hV : Row8 w b vs) (hnb : b = none → cv = 0) :
    Calls Tryd.prog 38 #[.agg #[.int .i64 r, .int .i64 c, .slice a l cap], .slice b lv cv] w fun e w' =>
      (∃ g x, e = .returned (.tuple #[.slice (some ⟨g, 0, none⟩) c c, .bool true, .nilIface]) ∧ w.heap.size ≤ g ∧ w'.heap[g]? = some (.cells (vfs (rowF c x)) 5 (0, 0)) ∧ SolOf (cellF c xs) r c (at8 vs) x ∧ Below w.heap.size w w') ∨
      (e = .returned (.tuple #[.slice none 0 0, .bool false, .nilIface]) ∧ ¬ Dep (cellF c xs) r c (at8 vs) ∧ Below w.heap.size w w') := by
  subst hlv
  have HL : Hid _ := hl
  have HX : Hid _ := hx
  have HV : Hid _ := hv
  have HRX : Hid (Row8 w a xs) := hX
  have HRV : Hid (Row8 w b vs) := hV
  have HNA : Hid _ := hnil
  have HNB : Hid _ := hnb
  clear hl hx hX hnil hv hV hnb
  go_enter Tryd.func38, Tryd.ntmps38
  go_wp2_with fail
  have hal := ((Below.refl w.heap.size w).alloc (Nat.le_refl _) (.cells #[.int .i64 lv, .int .i64 c, .slice a l cap] 24))
  refine Calls.mono (eliminated_F lv c 1 l cap lv cv a b xs vs _ hr hc (by omega) HL.out HX.out hcap (row8_below HRX.out hal) HNA.out (by omega) (by rw [HV.out]; omega) hcv (row8_below HRV.out hal) HNB.out) ?_
  rintro e w2 ⟨M, av, cp, p, f', R', rfl, hM, hown, hrw, hred, hin, hback, hb2⟩
  have hA := holds_later (holds_new (holds_nil w) #[.int .i64 lv, .int .i64 c, .slice a l cap] 24) hb2
  have HW2 : Hid (Below w.heap.size w w2) := hal.trans (hb2.mono (by simp))
  have eA : ∀ i, i < lv → ∀ j, j < c → augL c 1 xs vs i j = cellF c xs i j := fun i hi j hj => by simp [augL, cellF, hj]
  have eV : ∀ i, augL c 1 xs vs i c = at8 vs i := fun i => by simp [augL]
  have hp : p = pivL (cellF c xs) lv c := (hred.eq hin hback (by omega)).trans (pivL_congr eA)
  have hplen := hred.len
  have c1 := cellAt (holds_at hA 0 rfl) 1 _ rfl
  have HA : Hid _ := hA
  have H1 : Hid _ := hown
  have H2 : Hid _ := hrw
  have H3 : Hid _ := hred
  have H4 : Hid _ := hin
  have H5 : Hid _ := hback
  have HP : Hid _ := hp
  have EA : Hid _ := eA
  have EV : Hid _ := eV
  clear hA hown hrw hred hin hback hb2 hp eA eV hal
  have hmk := run_make8 c (by omega)
  by_cases hfull : p.length = lv
  · subst hfull
    have HZ : Hid (∀ i, p.length ≤ i → i < p.length → R' i c = 0) := fun i h1 h2 => by omega
    go_wp2
    go_loopw [33] (fun i wr => i = .int .i64 0 ∧ wr = w2) (fun _ _ => 0)
    case atStart => exact ⟨rfl, rfl⟩
    case round =>
      obtain ⟨rfl, hwr⟩ := hrel
      subst hwr
      have hA3 := holds_alloc HA.out (.cells (vfs (zeros c)) 5)
      have HA3 : Hid _ := hA3
      have HM3 : Hid ((wr.alloc (.cells (vfs (zeros c)) 5)).heap[wr.heap.size]? = some (.cells (vfs (solX c p R' 0)) 5 (0, 0))) := by
        show _ = _
        rw [← solX_zero c p R']; exact heap_alloc_last wr _
      have HW3 : Hid (Below w.heap.size w (wr.alloc (.cells (vfs (zeros c)) 5))) := HW2.out.alloc HW2.out.size _
      have HRW3 : Hid _ := H2.out.below ((Below.refl _ _).alloc (Nat.le_refl _) (.cells (vfs (zeros c)) 5))
      have HO3 : Hid _ := World.ownsRow.alloc H1.out (.cells (vfs (zeros c)) 5)
      have zM := ltHeap H2.out.blk
      have zB := ltHeap (holds_at HA.out 0 rfl)
      have zW := HW2.out.size
      have HGN : Hid (∀ (k j g : Nat), p[k]? = some j → av = some ⟨g, 0, none⟩ → g < wr.heap.size) := fun k j g h e => by
        obtain ⟨g', e', hg', _⟩ := own_nat H1.out h
        rw [e] at e'; cases e'; exact hg'
      have HBN : Hid (∀ (k bo oo mo : Nat), k < p.length → f' k = (some ⟨bo, oo, none⟩, mo) → bo < wr.heap.size) := fun k bo oo mo h e => by
        obtain ⟨bo', oo', mo', e', _, _, h', _, _⟩ := H2.out.get h (show c < c + 1 by omega)
        rw [e] at e'; cases e'; exact h'
      clear hA3
      go_wp2
      clear hmk
      generalize hN : wr.heap.size = N at *
      generalize (wr.alloc (.cells (vfs (zeros c)) 5)) = W3 at *
      clear hN c1
      go_loopw [49] (fun i wr => ∃ k : Nat, k ≤ p.length ∧ i = .int .i64 k ∧ W3.grownBy wr (some N) ∧ wr.heap[N]? = some (.cells (vfs (solX c p R' k)) 5 (0, 0))) (fun i _ => p.length - (intOf i).toNat)
      case atStart => exact ⟨0, by omega, rfl, World.grownBy.refl _ _, HM3.out⟩
      case round =>
        obtain ⟨k, hk, rfl, hgb, hs⟩ := hrel
        have HGB : Hid _ := hgb
        have HS : Hid _ := hs
        by_cases hlt : k < p.length
        · obtain ⟨j, hj⟩ : ∃ j, p[k]? = some j := ⟨_, List.getElem?_eq_getElem hlt⟩
          have hjc := H3.out.lt k j hj
          have HJ : Hid _ := hj
          obtain ⟨g, rfl, hg, c2⟩ := own_nat HO3.out hj
          obtain ⟨bo, oo, mo, hfo, hmo, hboM, hbo, c3, c4⟩ := HRW3.out.get (Nat.lt_of_lt_of_le hlt hplen) (show c < c + 1 by omega)
          have c5 := cellAt (grown_block hgb (holds_at HA3.out 0 rfl) (by omega)) 1 _ rfl
          have hgN : g ≠ N := Nat.ne_of_lt (HGN.out k j g hj rfl)
          have hboN : bo ≠ N := Nat.ne_of_lt (HBN.out k bo oo mo (Nat.lt_of_lt_of_le hlt hplen) hfo)
          have c2' : wr.cell? ⟨g, k, none⟩ = some (.int .i64 j) := by rw [← c2]; simp only [World.cell?, hgb.block g hg (by simpa using hgN)]
          have c3' : wr.cell? ⟨M, k, none⟩ = some (.slice (some ⟨bo, oo, none⟩) (c + 1) mo) := by rw [← c3]; simp only [World.cell?, hgb.block M (ltHeap HRW3.out.blk) (by simp; omega)]
          have c4' : wr.cell? ⟨bo, oo + c, none⟩ = some (.int .u8 ((R' k c).toNat : Int)) := by rw [← c4]; simp only [World.cell?, hgb.block bo hbo (by simpa using hboN)]
          have c6 : wr.cell? ⟨N, j, none⟩ = some (.int .u8 ((at8 (solX c p R' k) j).toNat : Int)) := cellAt hs j _ (vfs_get _ _ (by rw [solX_len]; exact hjc))
          have d6 : wr.frozen? ⟨N, j, none⟩ = false := frozen_of_row _ _ _ _ _ hs
          have HT : Hid _ := solX_step R' H3.out.up hj hjc
          clear hgb hs hj hfo c2 c3 c4 hg
          go_wp2
          go_region
          go_wp2
          refine ⟨⟨k + 1, by omega, by go_num, grownBy_drew (grownBy_setCell HGB.out _), ?_⟩, by simp [intOf]; omega⟩
          show (wr.setCell _ _).heap[N]? = _
          rw [heap_setCell_same _ _ _ _ _ _ HS.out, vfs_set, HT.out]
        · obtain rfl : k = p.length := by omega
          clear hgb hs
          go_wp2
          refine bodyPost_ret (v := .tuple #[.slice (some ⟨N, 0, none⟩) c c, .bool true, .nilIface]) (by simp [results, Tryd.results38, go_sem]) rfl (.inl ⟨N, _, rfl, by omega, HS.out, ⟨fun i hi => ?_, fun l hl hn => ?_⟩, below_grown HW3.out HGB.out (by omega)⟩)
          · have := H3.out.solve H5.out HZ.out i hi
            rw [EV.out] at this
            rw [this]
            exact sumF_congr fun j hj => by rw [EA.out i hi j hj]
          · rw [← HP.out] at hn
            exact onF_off (Nat.le_refl _) hn
  · go_wp2
    go_loopw [33] (fun i wr => ∃ k : Nat, p.length + k ≤ lv ∧ i = .int .i64 k ∧ wr = w2 ∧ ∀ i, p.length ≤ i → i < p.length + k → R' i c = 0) (fun i _ => lv - (intOf i).toNat)
    case atStart => exact ⟨0, by omega, rfl, rfl, fun i h1 h2 => by omega⟩
    case round =>
      obtain ⟨k0, hk0, rfl, hwr, hz⟩ := hrel
      subst hwr
      by_cases hlt0 : p.length + k0 < lv
      · obtain ⟨bo, oo, mo, hfo, hmo, hboM, hbo, c3, c4⟩ := H2.out.get hlt0 (show c < c + 1 by omega)
        have HZ0 : Hid _ := hz
        clear hz hfo
        by_cases hzero : R' (p.length + k0) c = 0
        · rw [hzero] at c4
          go_wp2
          exact ⟨⟨k0 + 1, by omega, by go_num, by first | rfl | trivial, fun i h1 h2 => by
            by_cases e : i = p.length + k0
            · rw [e]; exact hzero
            · exact HZ0.out i h1 (by omega)⟩, by simp [intOf]; omega⟩
        · have hnz : ((R' (p.length + k0) c).toNat : Int) ≠ 0 := by
            intro e; exact hzero (F.val_eq_zero.1 (by omega))
          go_wp2
          refine bodyPost_ret (v := .tuple #[.slice none 0 0, .bool false, .nilIface]) (by simp [results, Tryd.results38, go_sem]) rfl (.inr ⟨rfl, ?_, HW2.out⟩)
          have hno := H3.out.solve_no H4.out (Nat.le_add_right _ _) hlt0 hzero
          intro hd
          obtain ⟨x, hx⟩ := hd
          refine hno ⟨x, fun i hi => ?_⟩
          show augL c 1 xs vs i c = _
          rw [EV.out, hx i hi]
          exact sumF_congr fun j hj => by rw [EA.out i hi j hj]
      · have e0 : p.length + k0 = lv := by omega
        have HZ : Hid (∀ i, p.length ≤ i → i < lv → R' i c = 0) := fun i h1 h2 => hz i h1 (by omega)
        clear hz
        have hA3 := holds_alloc HA.out (.cells (vfs (zeros c)) 5)
        have HA3 : Hid _ := hA3
        have HM3 : Hid ((wr.alloc (.cells (vfs (zeros c)) 5)).heap[wr.heap.size]? = some (.cells (vfs (solX c p R' 0)) 5 (0, 0))) := by
          show _ = _
          rw [← solX_zero c p R']; exact heap_alloc_last wr _
        have HW3 : Hid (Below w.heap.size w (wr.alloc (.cells (vfs (zeros c)) 5))) := HW2.out.alloc HW2.out.size _
        have HRW3 : Hid _ := H2.out.below ((Below.refl _ _).alloc (Nat.le_refl _) (.cells (vfs (zeros c)) 5))
        have HO3 : Hid _ := World.ownsRow.alloc H1.out (.cells (vfs (zeros c)) 5)
        have zM := ltHeap H2.out.blk
        have zB := ltHeap (holds_at HA.out 0 rfl)
        have zW := HW2.out.size
        have HGN : Hid (∀ (k j g : Nat), p[k]? = some j → av = some ⟨g, 0, none⟩ → g < wr.heap.size) := fun k j g h e => by
          obtain ⟨g', e', hg', _⟩ := own_nat H1.out h
          rw [e] at e'; cases e'; exact hg'
        have HBN : Hid (∀ (k bo oo mo : Nat), k < lv → f' k = (some ⟨bo, oo, none⟩, mo) → bo < wr.heap.size) := fun k bo oo mo h e => by
          obtain ⟨bo', oo', mo', e', _, _, h', _, _⟩ := H2.out.get h (show c < c + 1 by omega)
          rw [e] at e'; cases e'; exact h'
        clear hA3
        go_wp2
        clear hmk
        generalize hN : wr.heap.size = N at *
        generalize (wr.alloc (.cells (vfs (zeros c)) 5)) = W3 at *
        clear hN c1
        go_loopw [49] (fun i wr => ∃ k : Nat, k ≤ p.length ∧ i = .int .i64 k ∧ W3.grownBy wr (some N) ∧ wr.heap[N]? = some (.cells (vfs (solX c p R' k)) 5 (0, 0))) (fun i _ => p.length - (intOf i).toNat)
        case atStart => exact ⟨0, by omega, rfl, World.grownBy.refl _ _, HM3.out⟩
        case round =>
          obtain ⟨k, hk, rfl, hgb, hs⟩ := hrel
          have HGB : Hid _ := hgb
          have HS : Hid _ := hs
          by_cases hlt : k < p.length
          · obtain ⟨j, hj⟩ : ∃ j, p[k]? = some j := ⟨_, List.getElem?_eq_getElem hlt⟩
            have hjc := H3.out.lt k j hj
            have HJ : Hid _ := hj
            obtain ⟨g, rfl, hg, c2⟩ := own_nat HO3.out hj
            obtain ⟨bo, oo, mo, hfo, hmo, hboM, hbo, c3, c4⟩ := HRW3.out.get (Nat.lt_of_lt_of_le hlt hplen) (show c < c + 1 by omega)
            have c5 := cellAt (grown_block hgb (holds_at HA3.out 0 rfl) (by omega)) 1 _ rfl
            have hgN : g ≠ N := Nat.ne_of_lt (HGN.out k j g hj rfl)
            have hboN : bo ≠ N := Nat.ne_of_lt (HBN.out k bo oo mo (Nat.lt_of_lt_of_le hlt hplen) hfo)
            have c2' : wr.cell? ⟨g, k, none⟩ = some (.int .i64 j) := by rw [← c2]; simp only [World.cell?, hgb.block g hg (by simpa using hgN)]
            have c3' : wr.cell? ⟨M, k, none⟩ = some (.slice (some ⟨bo, oo, none⟩) (c + 1) mo) := by rw [← c3]; simp only [World.cell?, hgb.block M (ltHeap HRW3.out.blk) (by simp; omega)]
            have c4' : wr.cell? ⟨bo, oo + c, none⟩ = some (.int .u8 ((R' k c).toNat : Int)) := by rw [← c4]; simp only [World.cell?, hgb.block bo hbo (by simpa using hboN)]
            have c6 : wr.cell? ⟨N, j, none⟩ = some (.int .u8 ((at8 (solX c p R' k) j).toNat : Int)) := cellAt hs j _ (vfs_get _ _ (by rw [solX_len]; exact hjc))
            have d6 : wr.frozen? ⟨N, j, none⟩ = false := frozen_of_row _ _ _ _ _ hs
            have HT : Hid _ := solX_step R' H3.out.up hj hjc
            clear hgb hs hj hfo c2 c3 c4 hg
            go_wp2
            go_region
            go_wp2
            refine ⟨⟨k + 1, by omega, by go_num, grownBy_drew (grownBy_setCell HGB.out _), ?_⟩, by simp [intOf]; omega⟩
            show (wr.setCell _ _).heap[N]? = _
            rw [heap_setCell_same _ _ _ _ _ _ HS.out, vfs_set, HT.out]
          · obtain rfl : k = p.length := by omega
            clear hgb hs
            go_wp2
            refine bodyPost_ret (v := .tuple #[.slice (some ⟨N, 0, none⟩) c c, .bool true, .nilIface]) (by simp [results, Tryd.results38, go_sem]) rfl (.inl ⟨N, _, rfl, by omega, HS.out, ⟨fun i hi => ?_, fun l hl hn => ?_⟩, below_grown HW3.out HGB.out (by omega)⟩)
            · have := H3.out.solve H5.out HZ.out i hi
              rw [EV.out] at this
              rw [this]
              exact sumF_congr fun j hj => by rw [EA.out i hi j hj]
            · rw [← HP.out] at hn
              exact onF_off (Nat.le_refl _) hn
end Go.Proofs.YtaaanfaelmfamaaDoor
