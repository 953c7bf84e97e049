/- The walk of MatProducts: of all pairs of matrices and numbers of columns. -/
import Derived.Test.YtkmlanolaogaiaaDoorMatPB
import Derived.Test.YtkmlanolaogaiaaDoorMatIn
import Derived.Test.YtkmlanolaogaiaaDoorMatAs
import Derived.Test.YtkmlanolaogaiaaDoorFormsL
import Derived.Test.YtkmlanolaogaiaaDoorRefTr
import Derived.Test.YtkmlanolaogaiaaDoorPlacesK
import Derived.Test.YtkmlanolaogaiaaDoorMeet
import Derived.Test.YtkmlanolaogaiaaDoorMatAl
import Derived.Test.YtkmlanolaogaiaaDoorMatT
import Derived.Deep.DeepCutAuto
import Derived.Test.YtkmlanolaogaiaaDoorMatProdT
namespace Go.Proofs.YtkmlanolaogaiaaDoor
open Go.RowKit Gf
set_option linter.unusedVariables false
set_option maxRecDepth 20000
set_option maxRecDepth 100000 in
set_option maxHeartbeats 400000000 in
theorem products_walk (r c q d cols : Int) (la ca lb cb : Nat) (a b : Option Addr) (xs ys : List F) (w : World) (hla : la = xs.length) (hca : la ≤ ca) (hma : ca ≤ 140737488351232) (hX : Row8 w a xs) (hna : a = none → ca = 0)
    (hlb : lb = ys.length) (hcb : lb ≤ cb) (hmb : cb ≤ 140737488351232) (hY : Row8 w b ys) (hnb : b = none → cb = 0) (hk0 : -9223372036854775808 ≤ cols) (hk1 : cols ≤ 9223372036854775807) (es : List Addr) (hes : ErrsAt w gsNum es) (s : Addr) (hs : es[1]? = some s) (hs2 : w.cell? ⟨0, 0, none⟩ = some (errAt s)) :
    Calls Tryd.prog 3 #[.agg #[.int .i64 r, .int .i64 c, .slice a la ca], .agg #[.int .i64 q, .int .i64 d, .slice b lb cb], .int .i64 cols] w fun e w' => e = .returned (.bool true) ∧ Below w.heap.size w w' := by
  have HLA : Hid _ := hla
  have HLB : Hid _ := hlb
  have HX : Hid (Row8 w a xs) := hX
  have HY : Hid (Row8 w b ys) := hY
  have HNA : Hid _ := hna
  have HNB : Hid _ := hnb
  have HE : Hid _ := hes
  have HES : Hid _ := hs
  have HS : Hid _ := hs2
  clear hla hX hna hlb hY hnb hes hs hs2
  have hA := holds_new (holds_new (holds_nil w) #[.int .i64 r, .int .i64 c, .slice a la ca] 24) #[.int .i64 q, .int .i64 d, .slice b lb cb] 24
  rw [World.size_alloc] at hA
  have HA0 : Hid _ := hA
  have HW0 : Hid _ := ((Below.refl w.heap.size w).alloc (Nat.le_refl _) (.cells #[.int .i64 r, .int .i64 c, .slice a la ca] 24)).alloc (by simp) (.cells #[.int .i64 q, .int .i64 d, .slice b lb cb] 24)
  clear hA
  go_enter Tryd.func3, Tryd.ntmps3
  go_wp2_with fail
  refine Calls.mono (alive_ok _) ?_
  rintro e w1 ⟨rfl, hb⟩
  have HA1 : Hid _ := holds_later HA0.out hb
  have HW1 : Hid (Below w.heap.size w w1) := HW0.out.trans (hb.mono HW0.out.size)
  clear hb HA0 HW0
  go_upto_region 3 with fail
  go_cut [7, 8] (fun s7 s8 wx => ∃ N7 N8 g7 g8, s7 = .pointer (some ⟨N7, 0, none⟩) ∧ s8 = .pointer (some ⟨N8, 0, none⟩) ∧ Holds wx [(N7, .cells #[.int .i64 r, .int .i64 c, .slice (some ⟨g7, 0, none⟩) la (la + 6)] 24 (0, 0)), (g7, .cells (vfs (xs ++ marks)) 5 (0, 0)), (N8, .cells #[.int .i64 q, .int .i64 d, .slice (some ⟨g8, 0, none⟩) lb (lb + 6)] 24 (0, 0)), (g8, .cells (vfs (ys ++ marks)) 5 (0, 0))] ∧ Below w1.heap.size w1 wx)
  case first => as_aux_lemma =>
    have zA := ltHeap (holds_at HA1.out 1 rfl)
    have zB := ltHeap (holds_at HA1.out 0 rfl)
    have cA0 := boxB (B := w1.heap.size) (holds_at HA1.out 1 rfl) zA 0 _ rfl
    have cA1 := boxB (B := w1.heap.size) (holds_at HA1.out 1 rfl) zA 1 _ rfl
    have cA2 := boxB (B := w1.heap.size) (holds_at HA1.out 1 rfl) zA 2 _ rfl
    have cB0 := boxB (B := w1.heap.size) (holds_at HA1.out 0 rfl) zB 0 _ rfl
    have cB1 := boxB (B := w1.heap.size) (holds_at HA1.out 0 rfl) zB 1 _ rfl
    have cB2 := boxB (B := w1.heap.size) (holds_at HA1.out 0 rfl) zB 2 _ rfl
    refine wp_region_noPanic ?_
    refine wp_region_held_drew (S := fun u => Below w1.heap.size w1 u) (by kernel_rfl) ?_ (fun hHeld => ?_)
    · exact (Below.refl _ _).drew
    refine wpAnyH_take (i := 0) (oi := { dst := some 23, op := Op.load 24 (Operand.tmp 3), type := 24, pos := "law.go:116", after := #[], guard := none }) (v := ?_) rfl (by kernel_rfl) (by kernel_rfl) (by kernel_rfl) (fun _ _ _ h => h) (Or.inl ⟨by rfl, ?_⟩) hHeld ?_
    rotate_left
    · intro u hSw
      have q0 := cA0 u hSw
      have q1 := cA1 u hSw
      have q2 := cA2 u hSw
      go_simp
      try with_reducible rfl
    try simp only [Act.put, List.setIfInBounds_toArray, List.set_cons_zero, List.set_cons_succ]
    refine wpAnyH_take (i := 2) (oi := { dst := some 25, op := Op.load 24 (Operand.tmp 4), type := 24, pos := "law.go:116", after := #[], guard := none }) (v := ?_) rfl (by kernel_rfl) (by kernel_rfl) (by kernel_rfl) (fun _ _ _ h => h) (Or.inl ⟨by rfl, ?_⟩) hHeld ?_
    rotate_left
    · intro u hSw
      have q0 := cB0 u hSw
      have q1 := cB1 u hSw
      have q2 := cB2 u hSw
      go_simp
      try with_reducible rfl
    try simp only [Act.put, List.setIfInBounds_toArray, List.set_cons_zero, List.set_cons_succ]
    refine meet (P := Tryd.prog) (Z := .cells #[.int .i64 0, .int .i64 0, .slice none 0 0] 24) _ [24, 26, 7, 8] (fun x => x + 3) 2 (fun u w' h hb => Below.trans h (Below.mono hb (below_size h))) (fun u h => h.alloc (below_size h) _) 4
      [⟨1, { dst := some 24, op := Op.call { callee := Callee.value (Operand.func 7), args := #[Operand.tmp 23], argTypes := #[24] }, type := 24, pos := "law.go:116", after := #[{ on := 0, ground := Ground.data }], guard := none }, 24, 7, #[.agg #[.int .i64 r, .int .i64 c, .slice a la ca]], inφ r c la xs⟩, ⟨3, { dst := some 26, op := Op.call { callee := Callee.value (Operand.func 7), args := #[Operand.tmp 25], argTypes := #[24] }, type := 24, pos := "law.go:116", after := #[{ on := 2, ground := Ground.data }, { on := 1, ground := Ground.chain }], guard := none }, 26, 7, #[.agg #[.int .i64 q, .int .i64 d, .slice b lb cb]], inφ q d lb ys⟩] [4, 5] _ _ _ rfl ?_ ?_ (by show ([24, 26, 7, 8] : List Nat).Nodup; decide) (fun t _ => rfl) hHeld (by kernel_rfl) ?_
    · intro cc hc
      simp only [List.mem_cons, List.not_mem_nil, or_false] at hc
      rcases hc with rfl | rfl
      · refine ⟨rfl, rfl, rfl, by simp, fun a' h u => ?_, fun u hS => ?_, fun v u w' h hb => ?_⟩
        · have q1 := h 23 (by decide)
          simp at q1
          simp [execOp, Act.eval, q1, resolve, invoke, go_sem]
        · exact (in_F r c la ca a xs u HLA.out (by omega) (row8_below HX.out (HW1.out.trans (Below.mono hS HW1.out.size))) HNA.out).mono fun e w' ⟨g, he, hg, hh, hb⟩ => ⟨_, he, hb, g, rfl, hh⟩
        · obtain ⟨g, h1, h2⟩ := h
          exact ⟨g, h1, heap_later h2 hb⟩
      · refine ⟨rfl, rfl, rfl, by simp, fun a' h u => ?_, fun u hS => ?_, fun v u w' h hb => ?_⟩
        · have q1 := h 25 (by decide)
          simp at q1
          simp [execOp, Act.eval, q1, resolve, invoke, go_sem]
        · exact (in_F q d lb cb b ys u HLB.out (by omega) (row8_below HY.out (HW1.out.trans (Below.mono hS HW1.out.size))) HNB.out).mono fun e w' ⟨g, he, hg, hh, hb⟩ => ⟨_, he, hb, g, rfl, hh⟩
        · obtain ⟨g, h1, h2⟩ := h
          exact ⟨g, h1, heap_later h2 hb⟩
    · intro x hx
      simp only [List.mem_cons, List.not_mem_nil, or_false] at hx
      rcases hx with rfl | rfl
      all_goals (refine ⟨_, rfl, rfl, rfl, by decide, fun ρ u => ?_⟩; go_simp)
    intro υ ν w2 hb2 hS2 hφ hν hd
    obtain ⟨g1, e1, hh1⟩ : inφ r c la xs (υ 24) w2 := hφ _ (.head _)
    obtain ⟨g2, e2, hh2⟩ : inφ q d lb ys (υ 26) w2 := hφ _ (.tail _ (.head _))
    have n1 : w2.heap[ν 7]? = some (.cells #[.int .i64 0, .int .i64 0, .slice none 0 0] 24 (0, 0)) := laid3 (hν 4 (by simp))
    have n2 : w2.heap[ν 8]? = some (.cells #[.int .i64 0, .int .i64 0, .slice none 0 0] 24 (0, 0)) := laid3 (hν 5 (by simp))
    have b1 : w1.heap.size ≤ ν 7 := (hν 4 (by simp)).1
    have b2 : w1.heap.size ≤ ν 8 := (hν 5 (by simp)).1
    have d12 : ν 8 ≠ ν 7 := hd 5 (by simp) 4 (by simp) (by decide)
    simp only [puts, List.map_cons, List.map_nil, List.cons_append, List.nil_append, List.foldl_cons, List.foldl_nil, Act.put, List.setIfInBounds_toArray, List.set_cons_zero, List.set_cons_succ, e1, e2]
    generalize υ 24 = v1 at *
    generalize υ 26 = v2 at *
    subst e1 e2
    generalize ν 7 = N1 at *
    generalize ν 8 = N2 at *
    have hg11 : g1 ≠ N1 := ne_of_kind hh1 n1 (by decide)
    have hg12 : g1 ≠ N2 := ne_of_kind hh1 n2 (by decide)
    have hg21 : g2 ≠ N1 := ne_of_kind hh2 n1 (by decide)
    have hg22 : g2 ≠ N2 := ne_of_kind hh2 n2 (by decide)
    clear hφ hν hd hb2 hHeld
    have f0 := cellAt n1 0 _ rfl
    have f1 := cellAt n1 1 _ rfl
    have f2 := cellAt n1 2 _ rfl
    have i0 : w2.frozen? ⟨N1, 0, none⟩ = false := frozen_of_row _ _ _ _ _ n1
    have i1 : w2.frozen? ⟨N1, 1, none⟩ = false := frozen_of_row _ _ _ _ _ n1
    have i2 : w2.frozen? ⟨N1, 2, none⟩ = false := frozen_of_row _ _ _ _ _ n1
    refine wpAnyH_ready (rs := [6]) (by kernel_rfl) (by simp) ?_
    refine AllReadyH.cons (o := { dst := none, op := Op.store 24 (Operand.tmp 7) (Operand.tmp 24), type := 0, pos := "law.go:116", after := #[{ on := 4, ground := Ground.data }, { on := 1, ground := Ground.data }, { on := 3, ground := Ground.chain }, { on := 0, ground := Ground.phase }, { on := 1, ground := Ground.phase }, { on := 2, ground := Ground.textOnly Departure.lateStores }, { on := 3, ground := Ground.textOnly Departure.lateStoresUnsure }, { on := 4, ground := Ground.phase }, { on := 5, ground := Ground.phase }], guard := none }) rfl (fun K hK => ?_) AllReadyH.nil
    go_simp
    have hS' : Below w1.heap.size w1 (((w2.setCell ⟨N1, 0, none⟩ (.int .i64 r)).setCell ⟨N1, 1, none⟩ (.int .i64 c)).setCell ⟨N1, 2, none⟩ (.slice (some ⟨g1, 0, none⟩) la (la + 6))) := ((hS2.setCell (by simpa using b1) _).setCell (by simpa using b1) _).setCell (by simpa using b1) _
    refine hK.out _ _ hS' (fun _ => ?_)
    clear hK K f0 f1 f2 i0 i1 i2
    try simp only [Act.put, List.setIfInBounds_toArray, List.set_cons_zero, List.set_cons_succ]
    have n1 := store3 (v0 := .int .i64 r) (v1 := .int .i64 c) (v2 := (.slice (some ⟨g1, 0, none⟩) la (la + 6))) n1
    have n2 := store3_other (v0 := .int .i64 r) (v1 := .int .i64 c) (v2 := (.slice (some ⟨g1, 0, none⟩) la (la + 6))) n2 d12
    have hh1 := store3_other (N := N1) (v0 := .int .i64 r) (v1 := .int .i64 c) (v2 := (.slice (some ⟨g1, 0, none⟩) la (la + 6))) hh1 hg11
    have hh2 := store3_other (N := N1) (v0 := .int .i64 r) (v1 := .int .i64 c) (v2 := (.slice (some ⟨g1, 0, none⟩) la (la + 6))) hh2 hg21
    clear hS2
    have hS2 := hS'
    clear hS'
    generalize (((w2.setCell ⟨N1, 0, none⟩ (.int .i64 r)).setCell ⟨N1, 1, none⟩ (.int .i64 c)).setCell ⟨N1, 2, none⟩ (.slice (some ⟨g1, 0, none⟩) la (la + 6))) = v3 at *
    have f0 := cellAt n2 0 _ rfl
    have f1 := cellAt n2 1 _ rfl
    have f2 := cellAt n2 2 _ rfl
    have i0 : v3.frozen? ⟨N2, 0, none⟩ = false := frozen_of_row _ _ _ _ _ n2
    have i1 : v3.frozen? ⟨N2, 1, none⟩ = false := frozen_of_row _ _ _ _ _ n2
    have i2 : v3.frozen? ⟨N2, 2, none⟩ = false := frozen_of_row _ _ _ _ _ n2
    refine wpAnyH_ready (rs := [7]) (by kernel_rfl) (by simp) ?_
    refine AllReadyH.cons (o := { dst := none, op := Op.store 24 (Operand.tmp 8) (Operand.tmp 26), type := 0, pos := "law.go:116", after := #[{ on := 5, ground := Ground.data }, { on := 3, ground := Ground.data }, { on := 6, ground := Ground.chain }, { on := 0, ground := Ground.phase }, { on := 1, ground := Ground.phase }, { on := 2, ground := Ground.phase }, { on := 3, ground := Ground.phase }, { on := 4, ground := Ground.phase }, { on := 5, ground := Ground.phase }, { on := 6, ground := Ground.phase }], guard := none }) rfl (fun K hK => ?_) AllReadyH.nil
    go_simp
    have hS' : Below w1.heap.size w1 (((v3.setCell ⟨N2, 0, none⟩ (.int .i64 q)).setCell ⟨N2, 1, none⟩ (.int .i64 d)).setCell ⟨N2, 2, none⟩ (.slice (some ⟨g2, 0, none⟩) lb (lb + 6))) := ((hS2.setCell (by simpa using b2) _).setCell (by simpa using b2) _).setCell (by simpa using b2) _
    refine hK.out _ _ hS' (fun _ => ?_)
    clear hK K f0 f1 f2 i0 i1 i2
    try simp only [Act.put, List.setIfInBounds_toArray, List.set_cons_zero, List.set_cons_succ]
    have n1 := store3_other (v0 := .int .i64 q) (v1 := .int .i64 d) (v2 := (.slice (some ⟨g2, 0, none⟩) lb (lb + 6))) n1 d12.symm
    have n2 := store3 (v0 := .int .i64 q) (v1 := .int .i64 d) (v2 := (.slice (some ⟨g2, 0, none⟩) lb (lb + 6))) n2
    have hh1 := store3_other (N := N2) (v0 := .int .i64 q) (v1 := .int .i64 d) (v2 := (.slice (some ⟨g2, 0, none⟩) lb (lb + 6))) hh1 hg12
    have hh2 := store3_other (N := N2) (v0 := .int .i64 q) (v1 := .int .i64 d) (v2 := (.slice (some ⟨g2, 0, none⟩) lb (lb + 6))) hh2 hg22
    clear hS2
    have hS2 := hS'
    clear hS'
    generalize (((v3.setCell ⟨N2, 0, none⟩ (.int .i64 q)).setCell ⟨N2, 1, none⟩ (.int .i64 d)).setCell ⟨N2, 2, none⟩ (.slice (some ⟨g2, 0, none⟩) lb (lb + 6))) = v4 at *
    refine wpAnyH_done (by kernel_rfl) ?_ _
    refine NoPanic.normal ?_
    have N1H : Hid _ := n1
    have N2H : Hid _ := n2
    have H1H : Hid _ := hh1
    have H2H : Hid _ := hh2
    have HSH : Hid _ := hS2
    clear n1 n2 hh1 hh2 hS2 b1 b2 d12 hg11 hg12 hg21 hg22
    go_wp2
    go_meet
    exact ⟨N1, N2, g1, g2, rfl, rfl, holds_cons (holds_cons (holds_cons (holds_cons (holds_nil _) H2H.out) N2H.out) H1H.out) N1H.out, HSH.out⟩
  case rest =>
  obtain ⟨N7, N8, g7, g8, rfl, rfl, hh, hB⟩ := hcut
  generalize wc = w2 at *
  have HA2 : Hid _ := hh
  have zg7 := ltHeap (holds_at HA2.out 1 rfl)
  have hw2s := (HW1.out.trans (hB.mono HW1.out.size)).size
  have HO2 : Hid _ := holds_later HA1.out hB
  have HW2 : Hid (Below w.heap.size w w2) := HW1.out.trans (hB.mono HW1.out.size)
  clear hh hB HA1 HW1
  go_upto_region 4 with fail
  go_cut [9, 10] (fun s9 s10 wx => AnsP w2.heap.size wx.heap.size wx s9 s10 s (Fm r c la ∧ Fm q d lb ∧ c = q) r d (mulM c.toNat d.toNat xs ys r.toNat) ∧ Below w2.heap.size w2 wx)
  case first => as_aux_lemma =>
    have c1 := cellAt (holds_at HA2.out 0 rfl) 0 _ rfl
    have c2 := cellAt (holds_at HA2.out 0 rfl) 1 _ rfl
    have c3 := cellAt (holds_at HA2.out 0 rfl) 2 _ rfl
    have c4 := cellAt (holds_at HA2.out 2 rfl) 0 _ rfl
    have c5 := cellAt (holds_at HA2.out 2 rfl) 1 _ rfl
    have c6 := cellAt (holds_at HA2.out 2 rfl) 2 _ rfl
    by_cases hok : Fm r c la ∧ Fm q d lb ∧ c = q
    · obtain ⟨r, c, rfl, rfl, hr, hc, hl⟩ := hok.1.nat
      obtain ⟨q, d, rfl, rfl, hq, hd, hl2⟩ := hok.2.1.nat
      obtain rfl : c = q := by have := hok.2.2; omega
      have HOK : Hid _ := hok
      have HL : Hid _ := hl
      have HL2 : Hid _ := hl2
      clear hok hl hl2
      go_wp2_with fail
      refine Calls.mono (product_F r c d la (la + 6) lb (lb + 6) (some ⟨g7, 0, none⟩) (some ⟨g8, 0, none⟩) xs ys _ hr hc hd HL.out (by rw [← HLA.out]; exact HL.out) (by omega) (row8_front (holds_at HA2.out 1 rfl)) HL2.out (by rw [← HLB.out]; exact HL2.out) (by omega) (row8_front (holds_at HA2.out 3 rfl))) ?_
      rintro e w3 ⟨g, m, rfl, hm, hg, hh, hb⟩
      have HM : Hid (m = (mulM c d xs ys r).length) := by show m = _; rw [mulM_len]; exact hm
      have HH : Hid _ := hh
      have HB : Hid _ := hb
      clear hm hh hb c1 c2 c3 c4 c5 c6
      go_wp2
      go_meet
      exact ⟨⟨_, rfl, .inl ⟨HOK.out, rfl, g, m, heap_alloc_last _ _, (Below.heap_alloc _ _ _ (ltHeap HH.out)).trans HH.out, HM.out, hg, ltHeap ((Below.heap_alloc _ _ _ (ltHeap HH.out)).trans HH.out)⟩⟩, HB.out.alloc HB.out.size _⟩
    · have HOK : Hid _ := hok
      have c9 := cell_later HW2.out HS.out
      clear hok
      go_wp2_with fail
      refine Calls.mono (product_bad r c q d la (la + 6) lb (lb + 6) (some ⟨g7, 0, none⟩) (some ⟨g8, 0, none⟩) _ s c9 HOK.out) ?_
      rintro e w3 ⟨rfl, hb⟩
      have HB : Hid _ := hb
      clear hb c1 c2 c3 c4 c5 c6 c9
      unfold errAt
      go_wp2
      go_meet
      exact ⟨⟨_, rfl, .inr ⟨HOK.out, rfl, heap_alloc_last _ _⟩⟩, HB.out.alloc HB.out.size _⟩
  case rest =>
  obtain ⟨hans, hB⟩ := hcut
  generalize wc = w3 at *
  have HP3 : Hid (AnsP _ _ _ _ _ _ _ _ _ _) := hans
  have HA3 : Hid _ := holds_later HA2.out hB
  have HO3 : Hid _ := holds_later HO2.out hB
  have HW3 : Hid (Below w.heap.size w w3) := HW2.out.trans (hB.mono HW2.out.size)
  have hsz3 := hB.size
  clear hans hB HA2 HO2 HW2
  go_upto_region 5 with fail
  go_cut [11, 12] (fun s11 s12 wx => AnsP w3.heap.size wx.heap.size wx s11 s12 s (Fm r c la) c r (trM r.toNat c.toNat xs) ∧ Below w3.heap.size w3 wx)
  case first => as_aux_lemma =>
    have c1 := cellAt (holds_at HA3.out 0 rfl) 0 _ rfl
    have c2 := cellAt (holds_at HA3.out 0 rfl) 1 _ rfl
    have c3 := cellAt (holds_at HA3.out 0 rfl) 2 _ rfl
    by_cases hok : Fm r c la
    · obtain ⟨r, c, rfl, rfl, hr, hc, hl⟩ := hok.nat
      have HOK : Hid _ := hok
      have HL : Hid _ := hl
      clear hok hl
      go_wp2_with fail
      refine Calls.mono (transpose_F r c la (la + 6) (some ⟨g7, 0, none⟩) xs _ hr hc HL.out (by rw [← HLA.out]; exact HL.out) (by omega) (row8_front (holds_at HA3.out 1 rfl))) ?_
      rintro e w4 ⟨g, m, rfl, hm, hg, hh, hb⟩
      have HM : Hid (m = (trM r c xs).length) := by show m = _; rw [trM_len]; exact hm
      have HH : Hid _ := hh
      have HB : Hid _ := hb
      clear hm hh hb c1 c2 c3
      go_wp2
      go_meet
      exact ⟨⟨_, rfl, .inl ⟨HOK.out, rfl, g, m, heap_alloc_last _ _, (Below.heap_alloc _ _ _ (ltHeap HH.out)).trans HH.out, HM.out, hg, ltHeap ((Below.heap_alloc _ _ _ (ltHeap HH.out)).trans HH.out)⟩⟩, HB.out.alloc HB.out.size _⟩
    · have HOK : Hid _ := hok
      have c9 := cell_later HW3.out HS.out
      clear hok
      go_wp2_with fail
      refine Calls.mono (transpose_bad r c (some ⟨g7, 0, none⟩) la (la + 6) _ s c9 HOK.out) ?_
      rintro e w4 ⟨rfl, hb⟩
      have HB : Hid _ := hb
      clear hb c1 c2 c3 c9
      unfold errAt
      go_wp2
      go_meet
      exact ⟨⟨_, rfl, .inr ⟨HOK.out, rfl, heap_alloc_last _ _⟩⟩, HB.out.alloc HB.out.size _⟩
  case rest =>
  obtain ⟨hans, hB⟩ := hcut
  generalize wc = w4 at *
  have HT4 : Hid (AnsP _ _ _ _ _ _ _ _ _ _) := hans
  have HP4 : Hid (AnsP _ _ _ _ _ _ _ _ _ _) := AnsP.later HP3.out hB
  have HA4 : Hid _ := holds_later HA3.out hB
  have HO4 : Hid _ := holds_later HO3.out hB
  have HW4 : Hid (Below w.heap.size w w4) := HW3.out.trans (hB.mono HW3.out.size)
  have hsz4 := hB.size
  clear hans hB HA3 HO3 HW3 HP3
  go_upto_region 6 with fail
  go_cut [13, 14] (fun s13 s14 wx => AnsP w4.heap.size wx.heap.size wx s13 s14 s (ok3 r c la q d lb cols) (2 * r + q) cols (xs ++ (ys ++ xs)) ∧ Below w4.heap.size w4 wx)
  case first =>
    have c1 := cellAt (holds_at HA4.out 0 rfl) 0 _ rfl
    have c2 := cellAt (holds_at HA4.out 0 rfl) 1 _ rfl
    have c3 := cellAt (holds_at HA4.out 0 rfl) 2 _ rfl
    have c4 := cellAt (holds_at HA4.out 2 rfl) 0 _ rfl
    have c5 := cellAt (holds_at HA4.out 2 rfl) 1 _ rfl
    have c6 := cellAt (holds_at HA4.out 2 rfl) 2 _ rfl
    have hbl := heap_alloc_last w4 (.cells #[.int .i64 r, .int .i64 c, .slice (some ⟨g7, 0, none⟩) la (la + 6), .int .i64 q, .int .i64 d, .slice (some ⟨g8, 0, none⟩) lb (lb + 6), .int .i64 r, .int .i64 c, .slice (some ⟨g7, 0, none⟩) la (la + 6)] 24)
    have hBL := (Below.refl w4.heap.size w4).alloc (Nat.le_refl _) (.cells #[.int .i64 r, .int .i64 c, .slice (some ⟨g7, 0, none⟩) la (la + 6), .int .i64 q, .int .i64 d, .slice (some ⟨g8, 0, none⟩) lb (lb + 6), .int .i64 r, .int .i64 c, .slice (some ⟨g7, 0, none⟩) la (la + 6)] 24)
    have c9 := cell_later (HW4.out.trans (hBL.mono HW4.out.size)) HS.out
    have HBL : Hid _ := hBL
    have HBX : Hid _ := hbl
    have HC9 : Hid _ := c9
    have HA5 : Hid _ := holds_later HA4.out hBL
    clear hBL c9 hbl
    go_wp2_with fail
    refine Calls.mono (stack_F cols w4.heap.size 3 3 (st3 r c g7 la xs q d g8 lb ys) _ (by simp) rfl (by decide) (fun j m hj => ?_) (fun m hm => ?_) s HC9.out) ?_
    · match j, hj with
      | 0, hj => obtain rfl := Option.some.inj hj; exact ⟨cellAt HBX.out 0 _ rfl, cellAt HBX.out 1 _ rfl, cellAt HBX.out 2 _ rfl⟩
      | 1, hj => obtain rfl := Option.some.inj hj; exact ⟨cellAt HBX.out 3 _ rfl, cellAt HBX.out 4 _ rfl, cellAt HBX.out 5 _ rfl⟩
      | 2, hj => obtain rfl := Option.some.inj hj; exact ⟨cellAt HBX.out 6 _ rfl, cellAt HBX.out 7 _ rfl, cellAt HBX.out 8 _ rfl⟩
    · simp only [st3, List.mem_cons, List.not_mem_nil, or_false] at hm
      rcases hm with rfl | rfl | rfl
      · exact ⟨HLA.out, Nat.le_add_right _ _, row8_front (holds_at HA5.out 1 rfl), fun h => by cases h⟩
      · exact ⟨HLB.out, Nat.le_add_right _ _, row8_front (holds_at HA5.out 3 rfl), fun h => by cases h⟩
      · exact ⟨HLA.out, Nat.le_add_right _ _, row8_front (holds_at HA5.out 1 rfl), fun h => by cases h⟩
    rw [st3_ok]
    rintro e w5 (⟨hok, g, m, rfl, hm, hg, hh, hb⟩ | ⟨hok, rfl, hb⟩)
    · have HOK : Hid (ok3 r c la q d lb cols) := hok
      obtain ⟨r, c', rfl, hc', hr, hc6, hl⟩ := hok.2.1.nat
      obtain ⟨q, d', rfl, hd', hq, _, hl2⟩ := hok.2.2.1.nat
      have hcc := hok.2.2.2.1
      have hdd := hok.2.2.2.2.1
      subst hc' hd'
      obtain rfl : d' = c' := by omega
      subst hcc
      rw [Int.toNat_natCast, st3_flat (by rw [← HLA.out]; exact hl) (by rw [← HLB.out]; exact hl2)] at hh
      rw [Int.toNat_natCast, st3_rows (c := 0)] at hm
      have e5 : ((rowsOf (st3 (r : Int) (d' : Int) g7 la xs (q : Int) (d' : Int) g8 lb ys) : Nat) : Int) = 2 * (r : Int) + (q : Int) := by rw [st3_rows (c := 0)]; simp
      rw [e5]
      have HM : Hid (m = (xs ++ (ys ++ xs)).length) := by
        show m = _
        rw [hm, List.length_append, List.length_append, ← HLA.out, ← HLB.out, hl, hl2]
        simp only [Nat.add_mul, Nat.two_mul]; omega
      have HH : Hid _ := hh
      have HB : Hid (Below w4.heap.size w4 w5) := HBL.out.trans (hb.mono (by simp))
      have hg' : w4.heap.size ≤ g := by simp at hg; omega
      clear hm hh hb hok hl hl2 hg e5 c1 c2 c3 c4 c5 c6 HBX HC9 HBL hdd
      go_wp2
      go_meet
      exact ⟨⟨_, rfl, .inl ⟨HOK.out, rfl, g, m, heap_alloc_last _ _, (Below.heap_alloc _ _ _ (ltHeap HH.out)).trans HH.out, HM.out, hg', ltHeap ((Below.heap_alloc _ _ _ (ltHeap HH.out)).trans HH.out)⟩⟩, HB.out.alloc HB.out.size _⟩
    · have HOK : Hid _ := hok
      have HB : Hid (Below w4.heap.size w4 w5) := HBL.out.trans (hb.mono (by simp))
      clear hb hok c1 c2 c3 c4 c5 c6 HBX HC9 HBL
      unfold errAt
      go_wp2
      go_meet
      exact ⟨⟨_, rfl, .inr ⟨HOK.out, rfl, heap_alloc_last _ _⟩⟩, HB.out.alloc HB.out.size _⟩
  case rest =>
  obtain ⟨hans, hB⟩ := hcut
  generalize wc = w5 at *
  have HK5 : Hid (AnsP _ _ _ _ _ _ _ _ _ _) := hans
  have HT5 : Hid (AnsP _ _ _ _ _ _ _ _ _ _) := AnsP.later HT4.out hB
  have HP5 : Hid (AnsP _ _ _ _ _ _ _ _ _ _) := AnsP.later HP4.out hB
  have HA5 : Hid _ := holds_later HA4.out hB
  have HO5 : Hid _ := holds_later HO4.out hB
  have HW5 : Hid (Below w.heap.size w w5) := HW4.out.trans (hB.mono HW4.out.size)
  have hsz5 := hB.size
  clear hans hB HA4 HO4 HW4 HP4 HT4
  go_upto_region 7 with fail
  go_cut [15, 16] (fun s15 s16 wx => AnsP w5.heap.size wx.heap.size wx s15 s16 s (0 ≤ cols ∧ cols ≤ 64) 0 cols [] ∧ Below w5.heap.size w5 wx)
  case first => as_aux_lemma =>
    go_wp2_with fail
    refine Calls.mono (stack_nil cols _ s (cell_later HW5.out HS.out)) ?_
    rintro e w6 (⟨hok, g, rfl, hg, hh, hb⟩ | ⟨hok, rfl, hb⟩)
    · have HOK : Hid _ := hok
      have HH : Hid _ := hh
      have HB : Hid _ := hb
      clear hh hb hok
      go_wp2
      go_meet
      exact ⟨⟨_, rfl, .inl ⟨HOK.out, rfl, g, 0, heap_alloc_last _ _, (Below.heap_alloc _ _ _ (ltHeap HH.out)).trans HH.out, rfl, hg, ltHeap ((Below.heap_alloc _ _ _ (ltHeap HH.out)).trans HH.out)⟩⟩, HB.out.alloc HB.out.size _⟩
    · have HOK : Hid _ := hok
      have HB : Hid _ := hb
      clear hb hok
      unfold errAt
      go_wp2
      go_meet
      exact ⟨⟨_, rfl, .inr ⟨HOK.out, rfl, heap_alloc_last _ _⟩⟩, HB.out.alloc HB.out.size _⟩
  case rest =>
  obtain ⟨hans, hB⟩ := hcut
  generalize wc = w6 at *
  have HN6 : Hid (AnsP _ _ _ _ _ _ _ _ _ _) := hans
  have HK6 : Hid (AnsP _ _ _ _ _ _ _ _ _ _) := AnsP.later HK5.out hB
  have HT6 : Hid (AnsP _ _ _ _ _ _ _ _ _ _) := AnsP.later HT5.out hB
  have HP6 : Hid (AnsP _ _ _ _ _ _ _ _ _ _) := AnsP.later HP5.out hB
  have HA6 : Hid _ := holds_later HA5.out hB
  have HO6 : Hid _ := holds_later HO5.out hB
  have HW6 : Hid (Below w.heap.size w w6) := HW5.out.trans (hB.mono HW5.out.size)
  have hsz6 := hB.size
  clear hans hB HA5 HO5 HW5 HP5 HT5 HK5
  have c1 := cellAt (holds_at HA6.out 0 rfl) 2 _ rfl
  have c2 := cellAt (holds_at HO6.out 1 rfl) 2 _ rfl
  go_wp2_with fail
  refine Calls.mono (kept_F g7 la ca a xs _ HLA.out (by omega) hca (holds_at HA6.out 1 rfl) (row8_below HX.out HW6.out)) ?_
  rintro e w7 ⟨rfl, hB⟩
  have HN7 : Hid (AnsP _ _ _ _ _ _ _ _ _ _) := AnsP.later HN6.out hB
  have HK7 : Hid (AnsP _ _ _ _ _ _ _ _ _ _) := AnsP.later HK6.out hB
  have HT7 : Hid (AnsP _ _ _ _ _ _ _ _ _ _) := AnsP.later HT6.out hB
  have HP7 : Hid (AnsP _ _ _ _ _ _ _ _ _ _) := AnsP.later HP6.out hB
  have HA7 : Hid _ := holds_later HA6.out hB
  have HO7 : Hid _ := holds_later HO6.out hB
  have HW7 : Hid (Below w.heap.size w w7) := HW6.out.trans (hB.mono HW6.out.size)
  clear hB HA6 HO6 HW6 HP6 HT6 HK6 HN6 c1 c2
  have c1 := cellAt (holds_at HA7.out 2 rfl) 2 _ rfl
  have c2 := cellAt (holds_at HO7.out 0 rfl) 2 _ rfl
  go_wp2_with fail
  refine Calls.mono (kept_F g8 lb cb b ys _ HLB.out (by omega) hcb (holds_at HA7.out 3 rfl) (row8_below HY.out HW7.out)) ?_
  rintro e w8 ⟨rfl, hB⟩
  have HN8 : Hid (AnsP _ _ _ _ _ _ _ _ _ _) := AnsP.later HN7.out hB
  have HK8 : Hid (AnsP _ _ _ _ _ _ _ _ _ _) := AnsP.later HK7.out hB
  have HT8 : Hid (AnsP _ _ _ _ _ _ _ _ _ _) := AnsP.later HT7.out hB
  have HP8 : Hid (AnsP _ _ _ _ _ _ _ _ _ _) := AnsP.later HP7.out hB
  have HA8 : Hid _ := holds_later HA7.out hB
  have HO8 : Hid _ := holds_later HO7.out hB
  have HW8 : Hid (Below w.heap.size w w8) := HW7.out.trans (hB.mono HW7.out.size)
  clear hB HA7 HO7 HW7 HP7 HT7 HK7 HN7 c1 c2
  go_upto_region 10 with fail
  go_cut [17] (fun s17 wx => (∃ b17 : Bool, s17 = .bool b17 ∧ (b17 = true ↔ 0 ≤ cols ∧ cols ≤ 64)) ∧ wx = w8)
  case first => as_aux_lemma =>
    by_cases h0 : 0 ≤ cols
    · by_cases h1 : cols ≤ 64
      · go_wp2
        go_meet
        exact ⟨⟨true, rfl, by simp [h0, h1]⟩, rfl⟩
      · go_wp2
        go_meet
        exact ⟨⟨false, rfl, by simp only [Bool.false_eq_true, false_iff]; exact fun h => by omega⟩, rfl⟩
    · go_wp2
      go_meet
      exact ⟨⟨false, rfl, by simp only [Bool.false_eq_true, false_iff]; exact fun h => by omega⟩, rfl⟩
  case rest =>
  obtain ⟨⟨b17, rfl, h17⟩, rfl⟩ := hcut
  generalize wc = w8 at *
  have H17 : Hid _ := h17
  clear h17
  go_upto_if 72 with fail
  go_cut [] (fun wx => Below w8.heap.size w8 wx)
  case first => as_aux_lemma =>
    obtain ⟨N, rfl, ⟨hok, rfl, g, m, hbx, hdt, hm, _⟩ | ⟨hno, rfl, hbx⟩⟩ := HN8.out
    · have hbt : b17 = true := H17.out.2 hok
      subst hbt
      obtain rfl : m = 0 := hm
      have c1 := cellAt hbx 0 _ rfl
      have c2 := cellAt hbx 1 _ rfl
      have c3 := cellAt hbx 2 _ rfl
      clear hbx hok
      go_wp2_with fail
      refine Calls.mono (as_ok 0 cols (some ⟨g, 0, none⟩) none 0 0 0 0 [] _ rfl rfl (.inl rfl) (.inl rfl)) ?_
      rintro e w9 ⟨rfl, hb⟩
      have HB : Hid _ := hb
      clear hb c1 c2 c3
      go_wp2
      go_meet
      exact HB.out
    · have hbt : b17 = false := by cases hq : b17 with
        | true => exact absurd (H17.out.1 hq) hno
        | false => rfl
      subst hbt
      have c1 := cellAt hbx 0 _ rfl
      have c2 := cellAt hbx 1 _ rfl
      have c3 := cellAt hbx 2 _ rfl
      clear hbx hno
      go_wp2_with fail
      refine Calls.mono (as_shape _ 0 0 none 0 0 _ es s (errsAt_below HE.out HW8.out) HES.out rfl) ?_
      rintro e w9 ⟨rfl, hb⟩
      have HB : Hid _ := hb
      clear hb c1 c2 c3
      go_wp2
      go_meet
      exact HB.out
  case rest =>
  have hB := hcut
  generalize wc = w9 at *
  have HK9 : Hid (AnsP _ _ _ _ _ _ _ _ _ _) := AnsP.later HK8.out hB
  have HT9 : Hid (AnsP _ _ _ _ _ _ _ _ _ _) := AnsP.later HT8.out hB
  have HP9 : Hid (AnsP _ _ _ _ _ _ _ _ _ _) := AnsP.later HP8.out hB
  have HA9 : Hid _ := holds_later HA8.out hB
  have HO9 : Hid _ := holds_later HO8.out hB
  have HW9 : Hid (Below w.heap.size w w9) := HW8.out.trans (hB.mono HW8.out.size)
  have hsz9 := hB.size
  clear hB HA8 HO8 HW8 HK8 HT8 HP8
  clear hcut HN8
  go_upto_region 16 with fail
  go_cut [18, 19] (fun s18 s19 wx => (∃ b18 b19 : Bool, s18 = .bool b18 ∧ s19 = .bool b19 ∧ (b18 = true ↔ Fm r c la) ∧ (b19 = true ↔ Fm q d lb)) ∧ Below w9.heap.size w9 wx)
  case first => as_aux_lemma =>
    have zA := ltHeap (holds_at HO9.out 1 rfl)
    have zB := ltHeap (holds_at HO9.out 0 rfl)
    have cA0 := boxB (B := w9.heap.size) (holds_at HO9.out 1 rfl) zA 0 _ rfl
    have cA1 := boxB (B := w9.heap.size) (holds_at HO9.out 1 rfl) zA 1 _ rfl
    have cA2 := boxB (B := w9.heap.size) (holds_at HO9.out 1 rfl) zA 2 _ rfl
    have cB0 := boxB (B := w9.heap.size) (holds_at HO9.out 0 rfl) zB 0 _ rfl
    have cB1 := boxB (B := w9.heap.size) (holds_at HO9.out 0 rfl) zB 1 _ rfl
    have cB2 := boxB (B := w9.heap.size) (holds_at HO9.out 0 rfl) zB 2 _ rfl
    refine wp_region_noPanic ?_
    refine wp_region_held_drew (S := fun u => Below w9.heap.size w9 u) (by kernel_rfl) ?_ (fun hHeld => ?_)
    · exact (Below.refl _ _).drew
    refine wpAnyH_take (i := 0) (oi := { dst := some 84, op := Op.load 24 (Operand.tmp 3), type := 24, pos := "law.go:132", after := #[], guard := none }) (v := ?_) rfl (by kernel_rfl) (by kernel_rfl) (by kernel_rfl) (fun _ _ _ h => h) (Or.inl ⟨by rfl, ?_⟩) hHeld ?_
    rotate_left
    · intro u hSw
      have q0 := cA0 u hSw
      have q1 := cA1 u hSw
      have q2 := cA2 u hSw
      go_simp
      try with_reducible rfl
    try simp only [Act.put, List.setIfInBounds_toArray, List.set_cons_zero, List.set_cons_succ]
    refine wpAnyH_take (i := 2) (oi := { dst := some 86, op := Op.load 24 (Operand.tmp 4), type := 24, pos := "law.go:132", after := #[], guard := none }) (v := ?_) rfl (by kernel_rfl) (by kernel_rfl) (by kernel_rfl) (fun _ _ _ h => h) (Or.inl ⟨by rfl, ?_⟩) hHeld ?_
    rotate_left
    · intro u hSw
      have q0 := cB0 u hSw
      have q1 := cB1 u hSw
      have q2 := cB2 u hSw
      go_simp
      try with_reducible rfl
    try simp only [Act.put, List.setIfInBounds_toArray, List.set_cons_zero, List.set_cons_succ]
    refine wpAnyH_ready (rs := [1]) (by kernel_rfl) (by simp) ?_
    refine (AllReadyH.cons (o := { dst := some 85, op := Op.call { callee := Callee.value (Operand.func 13), args := #[Operand.tmp 84], argTypes := #[24] }, type := 4, pos := "law.go:132", after := #[{ on := 0, ground := Ground.data }], guard := none }) rfl (fun K hK => ?_) AllReadyH.nil)
    go_simp
    refine Calls.mono (inForm_any r c a la ca _) ?_
    rintro e wi ⟨b18, rfl, hb18, hbi⟩
    have Hb18 : Hid _ := hb18
    have HTwi : Hid (Below w9.heap.size w9 wi) := Below.trans (Below.refl w9.heap.size w9).drew (Below.mono hbi (below_size (Below.refl w9.heap.size w9).drew))
    clear hbi hb18
    go_wp2_with fail
    refine hK.out _ _ ?_ (fun hHeld => ?_)
    · exact HTwi.out
    clear hK K
    try simp only [Act.put, List.setIfInBounds_toArray, List.set_cons_zero, List.set_cons_succ]
    refine wpAnyH_ready (rs := [3]) (by kernel_rfl) (by simp) ?_
    refine (AllReadyH.cons (o := { dst := some 87, op := Op.call { callee := Callee.value (Operand.func 13), args := #[Operand.tmp 86], argTypes := #[24] }, type := 4, pos := "law.go:132", after := #[{ on := 2, ground := Ground.data }, { on := 1, ground := Ground.chain }], guard := none }) rfl (fun K hK => ?_) AllReadyH.nil)
    go_simp
    refine Calls.mono (inForm_any q d b lb cb _) ?_
    rintro e wj ⟨b19, rfl, hb19, hbi⟩
    have Hb19 : Hid _ := hb19
    have HTwj : Hid (Below w9.heap.size w9 wj) := Below.trans HTwi.out (Below.mono hbi (below_size HTwi.out))
    clear hbi hb19
    go_wp2_with fail
    refine hK.out _ _ ?_ (fun hHeld => ?_)
    · exact HTwj.out
    clear hK K
    try simp only [Act.put, List.setIfInBounds_toArray, List.set_cons_zero, List.set_cons_succ]
    refine wpAnyH_take (i := 4) (oi := { dst := some 18, op := Op.assign (Operand.tmp 85), type := 4, pos := "law.go:132", after := #[{ on := 1, ground := Ground.data }, { on := 3, ground := Ground.chain }, { on := 0, ground := Ground.phase }, { on := 1, ground := Ground.phase }, { on := 2, ground := Ground.textOnly Departure.lateStores }, { on := 3, ground := Ground.textOnly Departure.lateStoresUnsure }], guard := none }) (v := ?_) rfl (by kernel_rfl) (by kernel_rfl) (by kernel_rfl) (fun _ _ _ h => h) (Or.inl ⟨by rfl, ?_⟩) hHeld ?_
    rotate_left
    · intro u hSw
      go_simp
      try with_reducible rfl
    try simp only [Act.put, List.setIfInBounds_toArray, List.set_cons_zero, List.set_cons_succ]
    refine wpAnyH_take (i := 5) (oi := { dst := some 19, op := Op.assign (Operand.tmp 87), type := 4, pos := "law.go:132", after := #[{ on := 3, ground := Ground.data }, { on := 4, ground := Ground.chain }, { on := 0, ground := Ground.phase }, { on := 1, ground := Ground.phase }, { on := 2, ground := Ground.phase }, { on := 3, ground := Ground.phase }, { on := 4, ground := Ground.phase }], guard := none }) (v := ?_) rfl (by kernel_rfl) (by kernel_rfl) (by kernel_rfl) (fun _ _ _ h => h) (Or.inl ⟨by rfl, ?_⟩) hHeld ?_
    rotate_left
    · intro u hSw
      go_simp
      try with_reducible rfl
    try simp only [Act.put, List.setIfInBounds_toArray, List.set_cons_zero, List.set_cons_succ]
    refine wpAnyH_done (by kernel_rfl) ?_ _
    refine NoPanic.normal ?_
    go_wp2
    go_meet
    exact ⟨⟨b18, b19, rfl, rfl, Hb18.out, Hb19.out⟩, HTwj.out⟩
  case rest =>
  rename_i hKont
  exact hKont _ _ (products_tail r c q d cols la ca lb cb a b xs ys w hca hma hcb hmb hk0 hk1 es s HLA HLB HX HY HNA HNB HE HES HS w1 N7 N8 g7 g8 w2 zg7 hw2s u9 u10 w3 hsz3 u11 u12 w4 hsz4 u13 u14 w5 hsz5 u15 u16 w6 hsz6 w7 b17 w8 H17 u6 w9 HK9 HT9 HP9 HA9 HO9 HW9 hsz9 wc u18 u19 u21 u22 u23 u24 u25 u26 u27 u28 u29 u30 u31 u32 u33 u34 u35 u36 u37 u38 u39 u40 u41 u42 u43 u44 u45 u46 u47 u48 u49 u50 u51 u52 u53 u54 u55 u56 u57 u58 u59 u60 u61 u62 u63 u64 u65 u66 u67 u68 u69 u70 u71 u72 u73 u74 u75 u76 u77 u78 u79 u80 u81 u82 u83 u84 u85 u86 u87 u88 u89 u90 u91 u92 u93 u94 u95 u96 u97 u98 u99 u100 u101 u102 u103 u104 u105 u106 u107 u108 u109 u110 u111 u112 u113 u114 u115 u116 u117 u118 u119 u120 u121 u122 u123 u124 u125 u126 u127 u128 u129 u130 u131 u132 u133 u134 u135 u136 u137 u138 u139 u140 u141 u142 u143 u144 u145 u146 u147 u148 u149 u150 u151 u152 u153 u154 u155 u156 u157 u158 u159 u160 u161 u162 u163 u164 u165 u166 u167 u168 u169 u170 u171 u172 u173 u174 u175 u176 u177 u178 u179 u180 u181 u182 u183 u184 u185 u186 u187 u188 u189 u190 u191 u192 u193 u194 u195 u196 u197 u198 u199 u200 u201 u202 hcut)
theorem products_all (r c q d cols : Int) (la ca lb cb : Nat) (a b : Option Addr) (xs ys : List F) (w : World) (hla : la = xs.length) (hca : la ≤ ca) (hma : ca ≤ 140737488351232) (hX : Row8 w a xs) (hna : a = none → ca = 0)
    (hlb : lb = ys.length) (hcb : lb ≤ cb) (hmb : cb ≤ 140737488351232) (hY : Row8 w b ys) (hnb : b = none → cb = 0) (hk0 : -9223372036854775808 ≤ cols) (hk1 : cols ≤ 9223372036854775807) (es : List Addr) (hes : ErrsAt w gsNum es) :
    Calls Tryd.prog 3 #[.agg #[.int .i64 r, .int .i64 c, .slice a la ca], .agg #[.int .i64 q, .int .i64 d, .slice b lb cb], .int .i64 cols] w fun e w' => e = .returned (.bool true) ∧ Below w.heap.size w w' := by
  obtain ⟨s, hs, hs2, _⟩ := errs_at hes 1 0 rfl
  exact products_walk r c q d cols la ca lb cb a b xs ys w hla hca hma hX hna hlb hcb hmb hY hnb hk0 hk1 es hes s hs hs2
end Go.Proofs.YtkmlanolaogaiaaDoor
