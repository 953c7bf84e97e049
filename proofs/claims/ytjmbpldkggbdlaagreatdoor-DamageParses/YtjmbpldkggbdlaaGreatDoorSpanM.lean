/- The document's own span in memory, and what is left of a row when the span is taken off it. -/
import Derived.Test.YtjmbpldkggbdlaaGreatDoorSpanL
import Derived.Test.YtjmbpldkggbdlaaGreatDoorSolveG
import Derived.Test.YtjmbpldkggbdlaaGreatDoorGfRefAdd
namespace Go.Proofs.YtjmbpldkggbdlaaGreatDoor
open Go.RowKit Gf
set_option linter.unusedVariables false
set_option maxRecDepth 20000
theorem append8_any {w : World} {g n cap : Nat} {xs ys : List F} {a : Option Addr} {m c : Nat} (ty : TypeId) (h : Has8 w g xs cap) (hn : n = xs.length) (hm : m = ys.length) (hb : n + m ≤ 140737488355328) (hy : Row8 w a ys) (hnil : a = none → c = 0) :
    ∃ g' cap' w', (Builtin.append_ #[61, 61] ty #[.slice (some ⟨g, 0, none⟩) n cap, .slice a m c]).run Tryz.prog w = .ok (.slice (some ⟨g', 0, none⟩) (n + m) cap') w' ∧
      Has8 w' g' (xs ++ ys) cap' ∧ w.grownBy w' (some g) ∧ (g' = g ∨ g' = w.heap.size) := by
  cases a with
  | none =>
    have hys : ys = [] := by
      rcases hy with e | ⟨b, off, e, _⟩
      · exact e
      · cases e
    subst hys
    obtain rfl : m = 0 := hm
    obtain rfl := hnil rfl
    obtain ⟨i, hi, h1, h2, h3⟩ := info8
    obtain ⟨cur, q1, q2, q3, q4, q5⟩ := h
    have hle : n ≤ cap := by rw [hn]; exact q3
    refine ⟨g, cap, w, ?_, ?_, World.grownBy.refl _ _, .inl rfl⟩
    · simp [Builtin.append_, run_underlying Tryz.underlying61, sizeOf, typeInfo, hi, Builtin.lenOf, Builtin.firstCells, loadCells, hle, storeCells]
    · rw [List.append_nil]; exact ⟨cur, q1, q2, q3, q4, q5⟩
  | some ad =>
    refine append8 ty h hn hm hb fun j hj => ?_
    rcases hy with e | ⟨b, off, e, hy⟩
    · rw [e] at hj; simp at hj
    · cases e
      have hadd : (⟨b, off, none⟩ : Addr).add j = ⟨b, off + j, none⟩ := by unfold Addr.add; split <;> simp_all
      rw [hadd]; exact hy j hj
theorem has8_T {w : World} {g cap : Nat} {xs : List F} (h : Has8 w g xs cap) : Row8T w (some ⟨g, 0, none⟩) xs := by
  have h2 := row8_has h
  obtain ⟨cur, hg, _⟩ := h
  rcases h2 with e | ⟨b, off, e, h2⟩
  · exact .inl e
  · cases e
    exact .inr ⟨g, 0, _, _, rfl, hg, h2⟩
theorem has8_empty {w : World} {g : Nat} (h : w.heap[g]? = some (.cells #[] 5 (0, 0))) : Has8 w g [] 0 := ⟨#[], h, rfl, Nat.le_refl _, by decide, rfl⟩
theorem less_F (x : F) (a b : Option Addr) (la ca lb cb : Nat) (xs ys : List F) (w : World) (hla : la = xs.length) (hlb : lb = ys.length) (ha : la ≤ 4096) (hb : lb ≤ 4096) (hx : Row8 w a xs) (hy : Row8 w b ys) :
    Calls Tryz.prog 136 #[.slice a la ca, .int .u8 x.toNat, .slice b lb cb] w fun e w' => ∃ g cap, e = .returned (.slice (some ⟨g, 0, none⟩) (scaled x xs ys).length cap) ∧ w.heap.size ≤ g ∧
      Below w.heap.size w w' ∧ Has8 w' g (scaled x xs ys) cap := by
  have H : Hid _ := rscaled_F x a b la ca lb cb xs ys w hla hlb (by omega) (by omega) hx hy
  clear hla hlb ha hb hx hy
  go_enter Tryz.func136, Tryz.ntmps136
  go_wp2_with fail
  refine Calls.mono H.out ?_
  rintro e w' ⟨g, cap, rfl, hg, hb, hh⟩
  have HG : Hid _ := hg
  have HB : Hid _ := hb
  have HH : Hid _ := hh
  clear hg hb hh H
  go_wp2
  go_ret
  exact ⟨g, cap, rfl, HG.out, HB.out, HH.out⟩
/-- the rows of the span, as values -/
def spR (t c : Nat) (fr : Nat → Option Addr × Nat) : List Value := (List.range t).map fun i => .slice (fr i).1 c (fr i).2
def spM (t : Nat) (Ms : Nat → List F) (fm : Nat → Option Addr × Nat) : List Value := (List.range t).map fun i => .slice (fm i).1 (Ms i).length (fm i).2
theorem spR_at {t c i : Nat} {fr : Nat → Option Addr × Nat} (h : i < t) : (spR t c fr)[i]? = some (.slice (fr i).1 c (fr i).2) := by simp [spR, h]
theorem spM_at {t i : Nat} {Ms : Nat → List F} {fm : Nat → Option Addr × Nat} (h : i < t) : (spM t Ms fm)[i]? = some (.slice (fm i).1 (Ms i).length (fm i).2) := by simp [spM, h]
theorem spR_snoc (t c : Nat) (fr : Nat → Option Addr × Nat) (a : Option Addr) (m : Nat) : spR t c fr ++ [.slice a c m] = spR (t + 1) c (fun i => if i = t then (a, m) else fr i) := by
  simp only [spR, List.range_succ, List.map_append, List.map_cons, List.map_nil, if_true]
  congr 1
  apply List.map_congr_left
  intro i hi
  have := List.mem_range.1 hi
  rw [if_neg (by omega)]
theorem spM_snoc (t : Nat) (Ms : Nat → List F) (fm : Nat → Option Addr × Nat) (a : Option Addr) (m : Nat) (us : List F) : spM t Ms fm ++ [.slice a us.length m] = spM (t + 1) (fun i => if i = t then us else Ms i) (fun i => if i = t then (a, m) else fm i) := by
  simp only [spM, List.range_succ, List.map_append, List.map_cons, List.map_nil, if_true]
  congr 1
  apply List.map_congr_left
  intro i hi
  have := List.mem_range.1 hi
  rw [if_neg (by omega), if_neg (by omega)]
structure SpanW (w : World) (B SB c n tR tM tF tB : Nat) (vR vM vF vB : Value) (fr fm : Nat → Option Addr × Nat) (V : Mt) (Ms : Nat → List F) (f bs : List Nat) : Prop where
  box : w.heap[SB]? = some (.cells #[.int .i64 c, vR, vM, vF, .int .i64 n, vB] 118 (0, 0))
  rows : w.ownsRow B 61 1 vR tR (spR tR c fr)
  made : w.ownsRow B 61 1 vM tM (spM tM Ms fm)
  firsts : w.ownsRow B 3 1 vF tF (natV f)
  basis : w.ownsRow B 3 1 vB tB (natV bs)
  fl : f.length = tF
  bl : bs.length = tB
  rowT : ∀ i, i < tR → Row8T w (fr i).1 (rowF c (V i))
  madeT : ∀ i, i < tM → Row8T w (fm i).1 (Ms i)
  ml : ∀ i, i < tM → (Ms i).length ≤ n
  ne1 : vR.ownBlock = none ∨ vR.ownBlock ≠ vM.ownBlock
  ne2 : vF.ownBlock = none ∨ vF.ownBlock ≠ vB.ownBlock
  ne3 : vM.ownBlock = none ∨ vM.ownBlock ≠ vR.ownBlock
  ne4 : vB.ownBlock = none ∨ vB.ownBlock ≠ vF.ownBlock
theorem SpanW.below {w w' : World} {B SB c n tR tM tF tB : Nat} {vR vM vF vB : Value} {fr fm : Nat → Option Addr × Nat} {V : Mt} {Ms : Nat → List F} {f bs : List Nat} (h : SpanW w B SB c n tR tM tF tB vR vM vF vB fr fm V Ms f bs) (hb : Below w.heap.size w w') : SpanW w' B SB c n tR tM tF tB vR vM vF vB fr fm V Ms f bs :=
  ⟨heap_later h.box hb, own_below h.rows hb, own_below h.made hb, own_below h.firsts hb, own_below h.basis hb, h.fl, h.bl, fun i hi => row8T_below (h.rowT i hi) hb, fun i hi => row8T_below (h.madeT i hi) hb, h.ml, h.ne1, h.ne2, h.ne3, h.ne4⟩
theorem own_cell {w : World} {B n i : Nat} {v x : Value} {e : TypeId} {xs : List Value} (ho : w.ownsRow B e 1 v n xs) (hi : xs[i]? = some x) : ∃ g cap, v = .slice (some ⟨g, 0, none⟩) n cap ∧ w.cell? ⟨g, i, none⟩ = some x ∧ g < w.heap.size := by
  have hil := (List.getElem?_eq_some_iff.1 hi).1
  have hl := ho.1
  rcases ho.2 with ⟨rfl, e0⟩ | ⟨g, cap, cur, rfl, h1, h2, h3⟩
  · omega
  · exact ⟨g, cap, rfl, by rw [ho.cellAt i (by omega)]; exact hi, ltHeap h2⟩
/-- the making of a row of the span, as a function -/
def madeF (Ms : Nat → List F) : Mt := fun i l => at8 (Ms i) l
theorem scaled_made (x : F) (n : Nat) (u : Nat → F) (ms : List F) (h : ms.length ≤ n) : scaled x (rowF n u) ms = rowF n (fun l => ga (u l) (gm x (at8 ms l))) :=
  rowF_eq (by rw [scaled_len, rowF_len]; omega) fun j hj => by rw [at8_scaled, at8_rowF hj]
set_option maxHeartbeats 8000000 in
theorem rest_F (B SB c n t : Nat) (vR vM vF vB : Value) (fr fm : Nat → Option Addr × Nat) (V : Mt) (Ms : Nat → List F) (f bs : List Nat) (a : Option Addr) (l cap : Nat) (xs : List F) (w : World)
    (hS : SpanW w B SB c n t t t t vR vM vF vB fr fm V Ms f bs) (hc : c ≤ 64) (hn : n ≤ 64) (ht : t ≤ 64) (hf : ∀ i, i < t → f.getD i 0 < c) (hl : l = c) (hx : xs.length = c) (hX : Row8 w a xs) (hnil : a = none → cap = 0) :
    Calls Tryz.prog 122 #[.pointer (some ⟨SB, 0, none⟩), .slice a l cap] w fun e w' => ∃ g1 cap1 g2 cap2, e = .returned (.tuple #[.slice (some ⟨g1, 0, none⟩) c cap1, .slice (some ⟨g2, 0, none⟩) n cap2]) ∧
      Has8 w' g1 (rowF c (wN V (f.getD · 0) (at8 xs) t)) cap1 ∧ Has8 w' g2 (rowF n (uN V (madeF Ms) (f.getD · 0) (at8 xs) t)) cap2 ∧ w.heap.size ≤ g1 ∧ w.heap.size ≤ g2 ∧ Below w.heap.size w w' := by
  subst hl
  have HS : Hid _ := hS
  have HF : Hid _ := hf
  have HXL : Hid _ := hx
  have hal : Below w.heap.size w (w.alloc (.cells #[] 5)) := (Below.refl _ _).alloc (Nat.le_refl _) _
  obtain ⟨g0, cap0, w0, hrun, hh0, hg0, hor⟩   := append8_any (n := 0) (m := l) (c := cap) 61 (has8_empty (heap_alloc_last w (.cells #[] 5))) rfl hx.symm (by omega) (row8_below hX hal) hnil
  rw [Nat.zero_add] at hrun
  rw [List.nil_append] at hh0
  have hb0 : Below w.heap.size w w0 := grownBy_below hal hg0 (Nat.le_refl _) hal.size
  have hg0' : w.heap.size ≤ g0 := by
    rcases hor with e | e
    · omega
    · rw [World.size_alloc] at e; omega
  have hS0 := hS.below hb0
  have c1 := cellAt hS0.box 4 _ rfl
  have hmk := run_make8 n (by omega)
  have hb1 : Below w.heap.size w (w0.alloc (.cells (vfs (zeros n)) 5)) := hb0.alloc hb0.size _
  have hS1 := hS0.below ((Below.refl _ _).alloc (Nat.le_refl _) (.cells (vfs (zeros n)) 5))
  have hz : Has8 (w0.alloc (.cells (vfs (zeros n)) 5)) w0.heap.size (rowF n fun _ => 0) n := by
    have := has8_full (xs := zeros n) (heap_alloc_last w0 _) (by rw [zeros_len]; unfold maxLen; omega)
    rw [zeros_len] at this
    have e : zeros n = rowF n fun _ => 0 := rowF_eq (zeros_len _) fun j _ => at8_zeros _ _
    rw [← e]; exact this
  have hv : Has8 (w0.alloc (.cells (vfs (zeros n)) 5)) g0 (rowF l (at8 xs)) cap0 := by
    rw [rowF_of HXL.out]
    exact has8_below hh0 ((Below.refl _ _).alloc (Nat.le_refl _) _)
  have HRun : Hid _ := hrun
  have HS1 : Hid _ := hS1
  have HB1 : Hid _ := hb1
  have HZ : Hid _ := hz
  have HV : Hid _ := hv
  have h0s : w.heap.size ≤ w0.heap.size := hb0.size
  obtain ⟨aR, cR, eR⟩ := own_shape hS.rows
  have ER : Hid _ := eR
  have c2 := cellAt hS1.box 1 _ rfl
  rw [eR] at c2
  clear hS hf hx hX hnil hal hrun hh0 hg0 hor hb0 hS0 hS1 hb1 hz hv eR
  go_enter Tryz.func122, Tryz.ntmps122
  go_wp2_with (at_builtin; refine wpList_append_run rfl _ _ 61 rfl _ _ _ _ rfl rfl HRun.out ?_)
  clear hmk c1 c2
  generalize hN : w0.heap.size = N at *
  generalize (w0.alloc (.cells (vfs (zeros n)) 5)) = W1 at *
  clear hN
  go_loopw [1, 6, 22] (fun v u i wr => ∃ (k g1 cap1 g2 cap2 : Nat), k ≤ t ∧ i = .int .i64 k ∧ v = .slice (some ⟨g1, 0, none⟩) l cap1 ∧ u = .slice (some ⟨g2, 0, none⟩) n cap2 ∧
    Has8 wr g1 (rowF l (wN V (f.getD · 0) (at8 xs) k)) cap1 ∧ Has8 wr g2 (rowF n (uN V (madeF Ms) (f.getD · 0) (at8 xs) k)) cap2 ∧ w.heap.size ≤ g1 ∧ w.heap.size ≤ g2 ∧ Below W1.heap.size W1 wr) (fun _ _ i _ => t - (intOf i).toNat)
  case atStart => exact ⟨0, g0, cap0, N, n, by omega, rfl, rfl, rfl, HV.out, HZ.out, hg0', h0s, Below.refl _ _⟩
  case round =>
    obtain ⟨k, g1, cap1, g2, cap2, hk, rfl, rfl, rfl, hv, hu, hg1, hg2, hbw⟩ := hrel
    have hSr := HS1.out.below hbw
    have hcap2 : n ≤ cap2 := by obtain ⟨_, _, _, h3, _⟩ := hu; rwa [rowF_len] at h3
    have HSR : Hid _ := hSr
    have HBW : Hid _ := hbw
    have HV1 : Hid _ := hv
    have HU1 : Hid _ := hu
    have c4 := cellAt hSr.box 4 _ rfl
    by_cases hlt : k < t
    · obtain ⟨bF, cF, eF, cF1, _⟩ := own_cell hSr.firsts (natV_at (getD_some (by rw [hSr.fl]; exact hlt)))
      have c3 := cellAt hSr.box 3 _ rfl
      rw [eF] at c3
      have hfk := HF.out k hlt
      have c5 := has8_cell hv (j := f.getD k 0) (by rw [rowF_len]; exact hfk)
      rw [at8_rowF hfk] at c5
      have c5a := c5.1
      generalize hy : f.getD k 0 = y at *
      have hy2 : (f[k]?.getD 0) = y := hy
      generalize hxx : wN V (f.getD · 0) (at8 xs) k y = x at *
      have HXX : Hid _ := hxx
      have HY : Hid _ := hy
      clear hy hy2 hxx hv hu hbw c5 hSr
      by_cases hzero : x = 0
      · subst hzero
        go_wp2
        refine ⟨⟨k + 1, g1, cap1, g2, cap2, by omega, by go_num, by first | rfl | trivial, by first | rfl | trivial, ?_, ?_, hg1, hg2, HBW.out⟩, by simp [intOf]; omega⟩
        · rw [rowF_congr (g := wN V (f.getD · 0) (at8 xs) k) (fun j _ => by simp only [wN]; rw [HY.out, HXX.out, F.zero_mul, F.add_zero])]; exact HV1.out
        · rw [rowF_congr (g := uN V (madeF Ms) (f.getD · 0) (at8 xs) k) (fun j _ => by simp only [uN]; rw [HY.out, HXX.out, F.zero_mul, F.add_zero])]; exact HU1.out
      · have hnz : ((x.toNat : Int)) ≠ 0 := by
          intro e; exact hzero (F.val_eq_zero.1 (by omega))
        obtain ⟨bR, cR2, eR2, cR1, _⟩ := own_cell HSR.out.rows (spR_at hlt)
        have c6 := cellAt HSR.out.box 1 _ rfl
        rw [eR2] at c6
        go_wp2_with fail
        refine Calls.mono (less_F x (some ⟨g1, 0, none⟩) (fr k).1 l cap1 l (fr k).2 (rowF l (wN V (f.getD · 0) (at8 xs) k)) (rowF l (V k)) _ (rowF_len _ _).symm (rowF_len _ _).symm (by omega) (by omega) (row8_has HV1.out) (HSR.out.rowT k hlt).row8) ?_
        rintro e w3 ⟨g3, cap3, rfl, hg3, hb3, hh3⟩
        rw [scaled_row] at hh3 ⊢
        rw [rowF_len]
        have hS3 := HSR.out.below hb3
        have HS3 : Hid _ := hS3
        have HU3 : Hid _ := has8_below HU1.out hb3
        have HV3 : Hid _ := hh3
        have HB3 : Hid _ := HBW.out.trans (hb3.mono HBW.out.size)
        have hsz3 := HBW.out.size
        obtain ⟨bM, cM2, eM2, cM1, _⟩ := own_cell hS3.made (spM_at hlt)
        have c7 := cellAt hS3.box 2 _ rfl
        rw [eM2] at c7
        have hml := HSR.out.ml k hlt
        clear hS3 hb3 hh3 c3 c4 c5a c6 cF1 cR1
        go_wp2_with fail
        refine Calls.mono (less_F x (some ⟨g2, 0, none⟩) (fm k).1 n cap2 (Ms k).length (fm k).2 (rowF n (uN V (madeF Ms) (f.getD · 0) (at8 xs) k)) (Ms k) _ (rowF_len _ _).symm rfl (by omega) (by omega) (row8_has HU3.out) (HS3.out.madeT k hlt).row8) ?_
        rintro e w4 ⟨g4, cap4, rfl, hg4, hb4, hh4⟩
        rw [scaled_made _ _ _ _ hml] at hh4 ⊢
        rw [rowF_len]
        have HV4 : Hid _ := has8_below HV3.out hb4
        have HU4 : Hid _ := hh4
        have HB4 : Hid _ := HB3.out.trans (hb4.mono HB3.out.size)
        have hsz4 := HB3.out.size
        have hw1 := HB1.out.size
        clear hb4 hh4 c7 cM1
        go_wp2
        refine ⟨⟨k + 1, g3, cap3, g4, cap4, by omega, by go_num, by first | rfl | trivial, by first | rfl | trivial, ?_, ?_, by omega, by omega, HB4.out⟩, by simp [intOf]; omega⟩
        · rw [rowF_congr (g := fun j => ga (wN V (f.getD · 0) (at8 xs) k j) (gm x (V k j))) (fun j _ => by simp only [wN]; rw [HY.out, HXX.out])]; exact HV4.out
        · rw [rowF_congr (g := fun j => ga (uN V (madeF Ms) (f.getD · 0) (at8 xs) k j) (gm x (at8 (Ms k) j))) (fun j _ => by simp only [uN, madeF]; rw [HY.out, HXX.out])]; exact HU4.out
    · obtain rfl : k = t := by omega
      clear hv hu hbw hSr
      go_wp2
      go_region
      go_wp2
      exact bodyPost_ret (v := .tuple #[.slice (some ⟨g1, 0, none⟩) l cap1, .slice (some ⟨g2, 0, none⟩) n cap2]) (by simp [results, Tryz.results122, go_sem]) rfl ⟨g1, cap1, g2, cap2, rfl, HV1.out, HU1.out, hg1, hg2, (HB1.out.trans (HBW.out.mono HB1.out.size)).drew⟩
end Go.Proofs.YtjmbpldkggbdlaaGreatDoor
