/- The walk of ShardsGrow: at all numbers and lists of bytes that are not too long together. -/
import Derived.Test.YtbnjjmmpgpomiaaDoorShardsA
import Derived.Test.YtbnjjmmpgpomiaaDoorRegHeld
import Derived.Test.YtbnjjmmpgpomiaaDoorHolds
import Derived.Deep.DeepCutAuto
namespace Go.Proofs.YtbnjjmmpgpomiaaDoor
open Go.RowKit Gf
set_option linter.unusedVariables false
set_option maxRecDepth 20000
theorem same_B (a b : Option Addr) (la ca lb cb : Nat) (xs : List F) (W : World) (hla : la = xs.length) (hlb : lb = xs.length) (hx : Row8 W a xs) (hy : Row8 W b xs) :
    Calls Tryd.prog 23 #[.slice a la ca, .slice b lb cb] W fun e w' => e = .returned (.bool true) ∧ W = w' := by
  have k3 := conv8 (w := W) (ca := ca) hla hx
  have k4 := conv8 (w := W) (ca := cb) hlb hy
  clear hla hlb hx hy
  go_enter Tryd.func23, Tryd.ntmps23
  go_wp2
  go_ret
  exact ⟨rfl, rfl⟩
/-- an append of a list that may be nil -/
theorem append8_any {w : World} {g n cap : Nat} {xs ys : List F} {a : Option Addr} {m c : Nat} (ty : TypeId) (h : Has8 w g xs cap) (hn : n = xs.length) (hm : m = ys.length) (hb : n + m ≤ 140737488355328) (hy : Row8 w a ys) (hnil : a = none → c = 0) :
    ∃ g' cap' w', (Builtin.append_ #[37, 37] ty #[.slice (some ⟨g, 0, none⟩) n cap, .slice a m c]).run Tryd.prog w = .ok (.slice (some ⟨g', 0, none⟩) (n + m) cap') w' ∧
      Has8 w' g' (xs ++ ys) cap' ∧ w.grownBy w' (some g) ∧ (g' = g ∨ g' = w.heap.size) := by
  by_cases h0 : ys = []
  · subst h0
    obtain rfl : m = 0 := hm
    obtain ⟨i, hi, h1, h2, h3⟩ := info8
    have hle : n ≤ cap := by obtain ⟨cur, _, _, hl, _⟩ := h; omega
    refine ⟨g, cap, w, ?_, by rw [List.append_nil]; exact h, World.grownBy.refl _ _, .inl rfl⟩
    cases a <;> simp [Builtin.append_, run_underlying Tryd.underlying37, sizeOf, typeInfo, hi, Builtin.lenOf, Builtin.firstCells, loadCells, loadCellsFrom, hle, storeCells]
  · rcases hy with e | ⟨b, off, rfl, hy⟩
    · exact absurd e h0
    · exact append8 ty h hn hm hb fun j hj => by
        have hadd : (⟨b, off, none⟩ : Addr).add j = ⟨b, off + j, none⟩ := by unfold Addr.add; split <;> simp_all
        rw [hadd]; exact hy j hj
theorem cnt_mono {m a b : Nat} (h : a ≤ b) : cntN m a ≤ cntN m b := Nat.div_le_div_right (by omega)
theorem hf_more {H v : Nat} {xs ys : List F} (h : (v + 1) * H ≤ xs.length) : hf H (xs ++ ys) v = hf H xs v := by
  rw [Nat.succ_mul] at h
  exact rowF_congr fun j hj => at8_left (by omega)
set_option maxHeartbeats 8000000 in
theorem grow_walk (k : Int) (la ca lb cb : Nat) (a b : Option Addr) (xs ys : List F) (w : World) (hk0 : -9223372036854775808 ≤ k) (hk1 : k ≤ 9223372036854775807) (hla : la = xs.length) (hlb : lb = ys.length) (hsum : la + lb ≤ 1048576) (hx : Row8 w a xs) (hy : Row8 w b ys) (hna : a = none → ca = 0) (hnb : b = none → cb = 0) (E : Nat → Addr) (hE : ErrsE w E) :
    Calls Tryd.prog 7 #[.int .i64 k, .slice a la ca, .slice b lb cb] w fun e w' => e = .returned (.bool true) ∧ Below w.heap.size w w' := by
  have HE : Hid _ := hE
  have HA : Hid _ := hla
  have HB : Hid _ := hlb
  have HX : Hid _ := hx
  have HY : Hid _ := hy
  have HNA : Hid _ := hna
  have HNB : Hid _ := hnb
  clear hE hla hlb hx hy hna hnb
  go_enter Tryd.func7, Tryd.ntmps7
  go_wp2_with fail
  refine Calls.mono (alive6_ok _ E HE.out) ?_
  rintro e w1 ⟨rfl, hb⟩
  have HB1 : Hid _ := hb
  clear hb
  go_wp2_with fail
  refine Calls.mono (split_G k la ca a xs _ E (errsE_below HE.out HB1.out) (by omega) HA.out (row8_below HX.out HB1.out)) ?_
  rintro e w2 ⟨b2, l2, cap2, ev, rfl, hs, hb⟩
  have HB2 : Hid (Below w.heap.size w w2) := HB1.out.trans (hb.mono HB1.out.size)
  have HS : Hid _ := hs
  clear hb hs
  have hh0 : Has8 (w2.alloc (.cells #[] 5)) w2.heap.size [] 0 := ⟨#[], heap_alloc_last w2 _, rfl, by simp, by simp [maxLen], rfl⟩
  have hB3 : Below w.heap.size w (w2.alloc (.cells #[] 5)) := HB2.out.alloc HB2.out.size _
  obtain ⟨g3, cap3, w3, hrun3, hh3, hgr3, hor3⟩ := append8_any (a := a) (m := la) (c := ca) (ys := xs) 37 hh0 (show 0 = ([] : List F).length from rfl) HA.out (by omega) (row8_below HX.out hB3) HNA.out
  rw [List.nil_append, Nat.zero_add] at *
  have hg3 : w.heap.size ≤ g3 := by have := HB2.out.size; rcases hor3 with e | e <;> (rw [e]; try simp) <;> omega
  have hB4 : Below w.heap.size w w3 := grownBy_below hB3 hgr3 HB2.out.size (by have := hB3.size; omega)
  obtain ⟨g4, cap4, w4, hrun4, hh4, hgr4, hor4⟩ := append8_any (a := b) (m := lb) (c := cb) (ys := ys) 37 hh3 HA.out HB.out (by omega) (row8_below HY.out hB4) HNB.out
  have hB5 : Below w.heap.size w w4 := grownBy_below hB4 hgr4 hg3 (by have := hB4.size; omega)
  have hB6 : Below w2.heap.size w2 w4 := grownBy_below (grownBy_below ((Below.refl w2.heap.size w2).alloc (Nat.le_refl _) (.cells #[] 5)) hgr3 (Nat.le_refl _) (by simp)) hgr4 (by rcases hor3 with e | e <;> (rw [e]; try simp)) (by have := hgr3.size; simp at this; omega)
  have hl4 : la + lb = (xs ++ ys).length := by rw [List.length_append, HA.out, HB.out]
  obtain ⟨n2, hn2⟩ : ∃ n2, n2 = la + lb := ⟨_, rfl⟩
  rw [← hn2] at hrun4 hl4
  have HN2 : Hid (n2 = la + lb) := hn2
  have HL4 : Hid _ := hl4
  rw [← hn2] at hsum
  clear hn2 hl4
  have HR3 : Hid _ := hrun3
  have HR4 : Hid _ := hrun4
  have HH4 : Hid _ := hh4
  have HB5 : Hid _ := hB5
  have HB6 : Hid _ := hB6
  clear hh0 hB3 hrun3 hh3 hgr3 hor3 hg3 hB4 hrun4 hh4 hgr4 hor4 hB5 hB6
  go_wp2_with (first | (at_builtin; refine wpList_append_run rfl _ _ 37 rfl _ _ _ _ rfl rfl HR3.out ?_; clear HR3) | (at_builtin; refine wpList_append_run rfl _ _ 37 rfl _ _ _ _ rfl rfl HR4.out ?_; clear HR4))
  refine Calls.mono (split_G k n2 cap4 _ (xs ++ ys) _ E (errsE_below HE.out HB5.out) (by omega) HL4.out (row8_has HH4.out)) ?_
  rintro e w5 ⟨b5, l5, cap5, ev5, rfl, hs, hb⟩
  have HB7 : Hid (Below w.heap.size w w5) := HB5.out.trans (hb.mono HB5.out.size)
  have HS5 : Hid _ := hs
  have HB8 : Hid (Below w2.heap.size w2 w5) := HB6.out.trans (hb.mono HB6.out.size)
  clear hb hs
  go_upto_region 5 with fail
  go_cut [35] (fun s wx => (s = .bool true ∧ ¬ (halfE k la = 0 ∧ halfE k n2 = 0) ∨ s = .bool false ∧ halfE k la = 0 ∧ halfE k n2 = 0) ∧ w5 = wx)
  case first =>
    as_aux_lemma =>
    rcases HS.out with ⟨q, rfl, rfl, rfl, rfl⟩ | ⟨q, rfl, _⟩
    · unfold errAt
      go_wp2
      go_meet
      exact ⟨.inl ⟨rfl, fun h => q h.1⟩, rfl⟩
    · rcases HS5.out with ⟨q5, rfl, rfl, rfl, rfl⟩ | ⟨q5, rfl, _⟩
      · unfold errAt
        go_wp2
        go_meet
        exact ⟨.inl ⟨rfl, fun h => q5 h.2⟩, rfl⟩
      · go_wp2
        go_meet
        exact ⟨.inr ⟨rfl, q, q5⟩, rfl⟩
  case rest =>
  obtain ⟨hcut, rfl⟩ := hcut
  rcases hcut with ⟨rfl, q⟩ | ⟨rfl, q1, q5⟩
  · have hcase : (halfE k la = 0) ∨ (halfE k la ≠ 0 ∧ k < 1) ∨ (halfE k la ≠ 0 ∧ 1 ≤ k ∧ 14 < k) ∨ (halfE k la ≠ 0 ∧ 1 ≤ k ∧ k ≤ 14 ∧ la = 0) ∨ (halfE k la = 20 ∧ 1 ≤ k ∧ k ≤ 14 ∧ 128 * k < la ∧ la ≠ 0) := by
      by_cases h0 : halfE k la = 0
      · exact .inl h0
      · right
        unfold halfE at h0 ⊢
        by_cases hk : OkK k
        · rw [if_pos hk] at h0 ⊢
          obtain ⟨b1, b2⟩ := hk
          by_cases h1 : (la : Int) < 1
          · rw [if_pos h1]
            exact .inr (.inr (.inl ⟨by decide, b1, b2, by omega⟩))
          · rw [if_neg h1] at h0 ⊢
            by_cases h2 : 128 * k < (la : Int)
            · rw [if_pos h2]
              exact .inr (.inr (.inr ⟨rfl, b1, b2, h2, by omega⟩))
            · rw [if_neg h2] at h0; exact absurd rfl h0
        · rw [if_neg hk]
          simp only [OkK] at hk
          by_cases h1 : k < 1
          · exact .inl ⟨by decide, h1⟩
          · exact .inr (.inl ⟨by decide, by omega, by omega⟩)
    clear q
    rcases hcase with h | ⟨h, g1⟩ | ⟨h, g1, g2⟩ | ⟨h, g1, g2, rfl⟩ | ⟨h, g1, g2, g3, g4⟩
    · rcases HS.out with ⟨q, _⟩ | ⟨_, rfl, _⟩
      · exact absurd h q
      go_wp2
      go_ret
      exact ⟨rfl, HB7.out⟩
    · rcases HS.out with ⟨_, rfl, rfl, rfl, rfl⟩ | ⟨q, _⟩
      rotate_left
      · exact absurd q h
      unfold errAt
      clear h
      go_wp2
      go_ret
      exact ⟨rfl, HB7.out⟩
    · rcases HS.out with ⟨_, rfl, rfl, rfl, rfl⟩ | ⟨q, _⟩
      rotate_left
      · exact absurd q h
      unfold errAt
      clear h
      go_wp2
      go_ret
      exact ⟨rfl, HB7.out⟩
    · rcases HS.out with ⟨_, rfl, rfl, rfl, rfl⟩ | ⟨q, _⟩
      rotate_left
      · exact absurd q h
      unfold errAt
      clear h
      go_wp2
      go_ret
      exact ⟨rfl, HB7.out⟩
    · rcases HS.out with ⟨_, rfl, rfl, rfl, rfl⟩ | ⟨q, _⟩
      rotate_left
      · rw [q] at h; cases h
      rw [h]
      have c0 := cell_later HB7.out HE.out.2.2
      have q0 := eq_same w5 (E 19)
      have hg := World.block_lt_of_cell? _ _ c0
      simp at hg
      unfold errAt at *
      clear h
      go_wp2
      go_ret
      exact ⟨rfl, HB7.out⟩
  · rcases HS.out with ⟨q, _⟩ | ⟨_, rfl, c, hb, g, H, rfl, h1, h2, h3, h4, rfl, hl2, hc2, hH, l1, l2', l3, m1, m2⟩
    · exact absurd q1 q
    rcases HS5.out with ⟨q, _⟩ | ⟨_, rfl, c', hb', g', H', hcc, h1', h2', h3', h4', rfl, hl2', hc2', hH', l1', l2'', l3', m1', m2'⟩
    · exact absurd q5 q
    obtain rfl : c = c' := by omega
    rw [← hl2] at hc2 hH m1 m2 hl2' hc2' hH' m1' m2'
    subst cap2 l5 cap5
    have hHH : H ≤ H' := by rw [hH, hH']; exact cnt_mono (by have := HN2.out; omega)
    have hd0 : 0 < l2 := by omega
    have hd28 : l2 ≤ 28 := by omega
    obtain ⟨k1, k2, _, _⟩ := cnt_half h1' h2' h3' h4'
    rw [← hl2, ← hH'] at k1 k2
    have HM1 : Hid _ := heap_later m1 HB8.out
    have HM2 : Hid _ := heap_later m2 HB8.out
    have HM1' : Hid _ := m1'
    have HM2' : Hid _ := m2'
    have HKL : Hid (2 * (c : Int) = l2) := by show _ = _; omega
    have c0 := cellAt HM1.out 0 _ (hvV_at (g := g) (H := H) hd0 (Nat.le_refl _))
    have c1 := cellAt HM1'.out 0 _ (hvV_at (g := g') (H := H') hd0 (Nat.le_refl _))
    rw [Nat.zero_mul] at c0 c1
    have hkl := HKL.out
    clear m1 m2 m1' m2' q1 q5 hH hH' hl2 hcc l1 l2' l3 l1' l2'' l3' h3 h4 h3' h4' HS HS5
    by_cases hlt : H < H'
    · go_wp2
      go_region
      go_wp2
      go_region
      go_wp2
      go_ret
      exact ⟨rfl, HB7.out.drew.drew⟩
    · obtain rfl : H = H' := by omega
      have H1 : Hid _ := h1
      go_wp2
      go_region
      go_wp2
      go_region
      go_wp2
      have hB0 : Below w5.heap.size w5 w5.drew.drew := (Below.refl _ _).drew.drew
      generalize w5.drew.drew = w6 at *
      have HB6 : Hid _ := hB0
      clear c0 c1 hkl hB0
      go_loopw [97] (fun t wr => ∃ v : Nat, v ≤ l2 ∧ t = .int .i64 v ∧ Below w5.heap.size w5 wr) (fun t _ => l2 - (intOf t).toNat)
      case atStart => exact ⟨0, by omega, rfl, HB6.out⟩
      case round =>
        obtain ⟨v, hv, rfl, hbw⟩ := hrel
        have HBW : Hid _ := hbw
        by_cases hlt2 : v < l2
        · obtain ⟨p, hp⟩ : ∃ p, p = (v + 1) * H := ⟨_, rfl⟩
          have hpm : p ≤ 1792 := by
            rw [hp]
            exact Nat.le_trans (Nat.mul_le_mul (show v + 1 ≤ 28 by omega) k2) (by decide)
          have m3 : ((v : Int) + 1) * (H : Int) = (p : Int) := by rw [hp]; simp
          have hA1 := heap_later HM1.out hbw
          have hA2 := heap_later HM1'.out hbw
          have c0 := boxB (B := wr.heap.size) hA1 (ltHeap hA1) 0 _ (by rw [hvV_at (g := g) (H := H) hd0 (Nat.le_refl _), Nat.zero_mul])
          have c1 := boxB (B := wr.heap.size) hA1 (ltHeap hA1) v _ (hvV_at (g := g) (H := H) hlt2 (Nat.le_refl _))
          have c2 := boxB (B := wr.heap.size) hA2 (ltHeap hA2) v _ (hvV_at (g := g') (H := H) hlt2 (Nat.le_refl _))
          have HR1 : Hid _ := row8_half (v := v) (heap_later HM2.out hbw) hlt2
          have HR2 : Hid _ := row8_half (v := v) (heap_later HM2'.out hbw) hlt2
          have HP : Hid _ := hp
          clear hA1 hA2 hp hbw
          have tw1 : IntKind.i64.wrap ((v : Int) + 1) = (v : Int) + 1 := by rw [IntKind.wrap_i64]; omega
          have tw2 : IntKind.i64.wrap (p : Int) = (p : Int) := by rw [IntKind.wrap_i64]; omega
          by_cases hle : (p : Int) ≤ la
          · have heq : hf H (xs ++ ys) v = hf H xs v := hf_more (by rw [← HP.out, ← HA.out]; omega)
            rw [heq] at HR2
            clear heq
            have tg : decide ((p : Int) ≤ la) = true := decide_eq_true hle
            go_upto_region 14 with fail
            have hR2 : Below wr.heap.size wr wr.drew := (Below.refl _ _).drew
            refine wp_region_noPanic ?_
            refine wp_region_held_drew (S := fun u => Below wr.heap.size wr u) (by kernel_rfl) ?_ (fun hHeld => ?_)
            · exact hR2
            refine wpAnyH_take (i := 0) (oi := { dst := some 100, op := Op.move (Operand.tmp 11), type := 3, pos := "more.go:26", after := #[], guard := none }) (v := ?_) rfl (by kernel_rfl) (by kernel_rfl) (by kernel_rfl) (fun _ _ _ h => h) (Or.inl ⟨by rfl, ?_⟩) hHeld ?_
            rotate_left
            · intro u hSw
              go_simp
              try with_reducible rfl
            try simp only [Act.put, List.setIfInBounds_toArray, List.set_cons_zero, List.set_cons_succ]
            refine wpAnyH_take (i := 1) (oi := { dst := some 101, op := Op.binOp BinOp.add 3 (Operand.tmp 100) (Operand.const (Value.int IntKind.i64 1)) 3, type := 3, pos := "more.go:26", after := #[{ on := 0, ground := Ground.data }], guard := none }) (v := ?_) rfl (by kernel_rfl) (by kernel_rfl) (by kernel_rfl) (fun _ _ _ h => h) (Or.inl ⟨by rfl, ?_⟩) hHeld ?_
            rotate_left
            · intro u hSw
              go_simp
              try with_reducible rfl
            try simp only [Act.put, List.setIfInBounds_toArray, List.set_cons_zero, List.set_cons_succ]
            refine wpAnyH_take (i := 2) (oi := { dst := some 102, op := Op.move (Operand.tmp 7), type := 39, pos := "more.go:26", after := #[], guard := none }) (v := ?_) rfl (by kernel_rfl) (by kernel_rfl) (by kernel_rfl) (fun _ _ _ h => h) (Or.inl ⟨by rfl, ?_⟩) hHeld ?_
            rotate_left
            · intro u hSw
              go_simp
              try with_reducible rfl
            try simp only [Act.put, List.setIfInBounds_toArray, List.set_cons_zero, List.set_cons_succ]
            refine wpAnyH_take (i := 3) (oi := { dst := some 103, op := Op.indexAddr 39 (Operand.tmp 102) (Operand.const (Value.int IntKind.i64 0)), type := 0, pos := "more.go:26", after := #[{ on := 2, ground := Ground.data }], guard := none }) (v := ?_) rfl (by kernel_rfl) (by kernel_rfl) (by kernel_rfl) (fun _ _ _ h => h) (Or.inl ⟨by rfl, ?_⟩) hHeld ?_
            rotate_left
            · intro u hSw
              go_simp
              try with_reducible rfl
            try simp only [Act.put, List.setIfInBounds_toArray, List.set_cons_zero, List.set_cons_succ]
            refine wpAnyH_take (i := 4) (oi := { dst := some 104, op := Op.load 37 (Operand.tmp 103), type := 37, pos := "more.go:26", after := #[{ on := 3, ground := Ground.data }], guard := none }) (v := ?_) rfl (by kernel_rfl) (by kernel_rfl) (by kernel_rfl) (fun _ _ _ h => h) (Or.inl ⟨by rfl, ?_⟩) hHeld ?_
            rotate_left
            · intro u hSw
              go_simp
              try with_reducible rfl
            try simp only [Act.put, List.setIfInBounds_toArray, List.set_cons_zero, List.set_cons_succ]
            refine wpAnyH_take (i := 5) (oi := { dst := some 105, op := Op.call { callee := Callee.builtin Builtin.len, args := #[Operand.tmp 104], argTypes := #[37] }, type := 3, pos := "more.go:26", after := #[{ on := 4, ground := Ground.data }], guard := none }) (v := ?_) rfl (by kernel_rfl) (by kernel_rfl) (by kernel_rfl) (fun _ _ _ h => h) (Or.inl ⟨by rfl, ?_⟩) hHeld ?_
            rotate_left
            · intro u hSw
              go_simp
              try with_reducible rfl
            try simp only [Act.put, List.setIfInBounds_toArray, List.set_cons_zero, List.set_cons_succ]
            refine wpAnyH_take (i := 6) (oi := { dst := some 106, op := Op.binOp BinOp.mul 3 (Operand.tmp 101) (Operand.tmp 105) 3, type := 3, pos := "more.go:26", after := #[{ on := 1, ground := Ground.data }, { on := 5, ground := Ground.data }], guard := none }) (v := ?_) rfl (by kernel_rfl) (by kernel_rfl) (by kernel_rfl) (fun _ _ _ h => h) (Or.inl ⟨by rfl, ?_⟩) hHeld ?_
            rotate_left
            · intro u hSw
              go_simp
              try with_reducible rfl
            try simp only [Act.put, List.setIfInBounds_toArray, List.set_cons_zero, List.set_cons_succ]
            refine wpAnyH_take (i := 7) (oi := { dst := some 107, op := Op.move (Operand.tmp 1), type := 37, pos := "more.go:26", after := #[], guard := none }) (v := ?_) rfl (by kernel_rfl) (by kernel_rfl) (by kernel_rfl) (fun _ _ _ h => h) (Or.inl ⟨by rfl, ?_⟩) hHeld ?_
            rotate_left
            · intro u hSw
              go_simp
              try with_reducible rfl
            try simp only [Act.put, List.setIfInBounds_toArray, List.set_cons_zero, List.set_cons_succ]
            refine wpAnyH_take (i := 8) (oi := { dst := some 108, op := Op.call { callee := Callee.builtin Builtin.len, args := #[Operand.tmp 107], argTypes := #[37] }, type := 3, pos := "more.go:26", after := #[{ on := 7, ground := Ground.data }], guard := none }) (v := ?_) rfl (by kernel_rfl) (by kernel_rfl) (by kernel_rfl) (fun _ _ _ h => h) (Or.inl ⟨by rfl, ?_⟩) hHeld ?_
            rotate_left
            · intro u hSw
              go_simp
              try with_reducible rfl
            try simp only [Act.put, List.setIfInBounds_toArray, List.set_cons_zero, List.set_cons_succ]
            refine wpAnyH_take (i := 9) (oi := { dst := some 109, op := Op.binOp BinOp.leq 3 (Operand.tmp 106) (Operand.tmp 108) 3, type := 4, pos := "more.go:26", after := #[{ on := 6, ground := Ground.data }, { on := 8, ground := Ground.data }], guard := none }) (v := ?_) rfl (by kernel_rfl) (by kernel_rfl) (by kernel_rfl) (fun _ _ _ h => h) (Or.inl ⟨by rfl, ?_⟩) hHeld ?_
            rotate_left
            · intro u hSw
              go_simp
              try with_reducible rfl
            try simp only [Act.put, List.setIfInBounds_toArray, List.set_cons_zero, List.set_cons_succ]
            refine wpAnyH_take (i := 10) (oi := { dst := some 110, op := Op.move (Operand.tmp 109), type := 4, pos := "more.go:26", after := #[{ on := 9, ground := Ground.data }], guard := none }) (v := ?_) rfl (by kernel_rfl) (by kernel_rfl) (by kernel_rfl) (fun _ _ _ h => h) (Or.inl ⟨by rfl, ?_⟩) hHeld ?_
            rotate_left
            · intro u hSw
              go_simp
              try with_reducible rfl
            try simp only [Act.put, List.setIfInBounds_toArray, List.set_cons_zero, List.set_cons_succ]
            refine wpAnyH_take (i := 11) (oi := { dst := some 111, op := Op.move (Operand.tmp 7), type := 39, pos := "more.go:26", after := #[{ on := 10, ground := Ground.guard }], guard := some (10, true) }) (v := ?_) rfl (by kernel_rfl) (by kernel_rfl) (by kernel_rfl) (fun _ _ _ h => h) (Or.inl ⟨by rfl, ?_⟩) hHeld ?_
            rotate_left
            · intro u hSw
              go_simp
              try with_reducible rfl
            try simp only [Act.put, List.setIfInBounds_toArray, List.set_cons_zero, List.set_cons_succ]
            refine wpAnyH_take (i := 12) (oi := { dst := some 112, op := Op.move (Operand.tmp 11), type := 3, pos := "more.go:26", after := #[{ on := 10, ground := Ground.guard }], guard := some (10, true) }) (v := ?_) rfl (by kernel_rfl) (by kernel_rfl) (by kernel_rfl) (fun _ _ _ h => h) (Or.inl ⟨by rfl, ?_⟩) hHeld ?_
            rotate_left
            · intro u hSw
              go_simp
              try with_reducible rfl
            try simp only [Act.put, List.setIfInBounds_toArray, List.set_cons_zero, List.set_cons_succ]
            refine wpAnyH_take (i := 13) (oi := { dst := some 113, op := Op.indexAddr 39 (Operand.tmp 111) (Operand.tmp 112), type := 0, pos := "more.go:26", after := #[{ on := 11, ground := Ground.data }, { on := 12, ground := Ground.data }, { on := 10, ground := Ground.guard }], guard := some (10, true) }) (v := ?_) rfl (by kernel_rfl) (by kernel_rfl) (by kernel_rfl) (fun _ _ _ h => h) (Or.inl ⟨by rfl, ?_⟩) hHeld ?_
            rotate_left
            · intro u hSw
              go_simp
              try with_reducible rfl
            try simp only [Act.put, List.setIfInBounds_toArray, List.set_cons_zero, List.set_cons_succ]
            refine wpAnyH_take (i := 14) (oi := { dst := some 114, op := Op.load 37 (Operand.tmp 113), type := 37, pos := "more.go:26", after := #[{ on := 13, ground := Ground.data }, { on := 10, ground := Ground.guard }], guard := some (10, true) }) (v := ?_) rfl (by kernel_rfl) (by kernel_rfl) (by kernel_rfl) (fun _ _ _ h => h) (Or.inl ⟨by rfl, ?_⟩) hHeld ?_
            rotate_left
            · intro u hSw
              go_simp
              try with_reducible rfl
            try simp only [Act.put, List.setIfInBounds_toArray, List.set_cons_zero, List.set_cons_succ]
            refine wpAnyH_take (i := 15) (oi := { dst := some 115, op := Op.move (Operand.tmp 9), type := 39, pos := "more.go:26", after := #[{ on := 10, ground := Ground.guard }], guard := some (10, true) }) (v := ?_) rfl (by kernel_rfl) (by kernel_rfl) (by kernel_rfl) (fun _ _ _ h => h) (Or.inl ⟨by rfl, ?_⟩) hHeld ?_
            rotate_left
            · intro u hSw
              go_simp
              try with_reducible rfl
            try simp only [Act.put, List.setIfInBounds_toArray, List.set_cons_zero, List.set_cons_succ]
            refine wpAnyH_take (i := 16) (oi := { dst := some 116, op := Op.move (Operand.tmp 11), type := 3, pos := "more.go:26", after := #[{ on := 10, ground := Ground.guard }], guard := some (10, true) }) (v := ?_) rfl (by kernel_rfl) (by kernel_rfl) (by kernel_rfl) (fun _ _ _ h => h) (Or.inl ⟨by rfl, ?_⟩) hHeld ?_
            rotate_left
            · intro u hSw
              go_simp
              try with_reducible rfl
            try simp only [Act.put, List.setIfInBounds_toArray, List.set_cons_zero, List.set_cons_succ]
            refine wpAnyH_take (i := 17) (oi := { dst := some 117, op := Op.indexAddr 39 (Operand.tmp 115) (Operand.tmp 116), type := 0, pos := "more.go:26", after := #[{ on := 15, ground := Ground.data }, { on := 16, ground := Ground.data }, { on := 10, ground := Ground.guard }], guard := some (10, true) }) (v := ?_) rfl (by kernel_rfl) (by kernel_rfl) (by kernel_rfl) (fun _ _ _ h => h) (Or.inl ⟨by rfl, ?_⟩) hHeld ?_
            rotate_left
            · intro u hSw
              go_simp
              try with_reducible rfl
            try simp only [Act.put, List.setIfInBounds_toArray, List.set_cons_zero, List.set_cons_succ]
            refine wpAnyH_take (i := 18) (oi := { dst := some 118, op := Op.load 37 (Operand.tmp 117), type := 37, pos := "more.go:26", after := #[{ on := 17, ground := Ground.data }, { on := 10, ground := Ground.guard }], guard := some (10, true) }) (v := ?_) rfl (by kernel_rfl) (by kernel_rfl) (by kernel_rfl) (fun _ _ _ h => h) (Or.inl ⟨by rfl, ?_⟩) hHeld ?_
            rotate_left
            · intro u hSw
              go_simp
              try with_reducible rfl
            try simp only [Act.put, List.setIfInBounds_toArray, List.set_cons_zero, List.set_cons_succ]
            refine wpAnyH_ready (rs := [19]) (by kernel_rfl) (by simp) ?_
            refine AllReadyH.cons (o := { dst := some 119, op := Op.call { callee := Callee.value (Operand.func 23), args := #[Operand.tmp 114, Operand.tmp 118], argTypes := #[37, 37] }, type := 4, pos := "more.go:26", after := #[{ on := 14, ground := Ground.data }, { on := 18, ground := Ground.data }, { on := 10, ground := Ground.chain }, { on := 10, ground := Ground.guard }], guard := some (10, true) }) rfl (fun K hK => ?_) AllReadyH.nil
            go_simp
            refine Calls.mono (same_B _ _ H H H H (hf H xs v) _ (hf_len _ _ _).symm (hf_len _ _ _).symm (row8_below HR1.out hR2) (row8_below HR2.out hR2)) ?_
            rintro e wi ⟨rfl, rfl⟩
            go_wp2_with fail
            refine hK.out _ _ ?_ (fun hHeld => ?_)
            · exact hR2
            clear hK K
            try simp only [Act.put, List.setIfInBounds_toArray, List.set_cons_zero, List.set_cons_succ]
            refine wpAnyH_take (i := 20) (oi := { dst := some 120, op := Op.unOp UnOp.not 4 (Operand.tmp 119), type := 4, pos := "more.go:26", after := #[{ on := 19, ground := Ground.data }, { on := 10, ground := Ground.guard }], guard := some (10, true) }) (v := ?_) rfl (by kernel_rfl) (by kernel_rfl) (by kernel_rfl) (fun _ _ _ h => h) (Or.inl ⟨by rfl, ?_⟩) hHeld ?_
            rotate_left
            · intro u hSw
              go_simp
              try with_reducible rfl
            try simp only [Act.put, List.setIfInBounds_toArray, List.set_cons_zero, List.set_cons_succ]
            refine wpAnyH_take (i := 21) (oi := { dst := some 121, op := Op.pick (Operand.tmp 110) (Operand.tmp 120) (Operand.const (Value.bool false)), type := 4, pos := "more.go:26", after := #[{ on := 10, ground := Ground.data }, { on := 20, ground := Ground.data }], guard := none }) (v := ?_) rfl (by kernel_rfl) (by kernel_rfl) (by kernel_rfl) (fun _ _ _ h => h) (Or.inl ⟨by rfl, ?_⟩) hHeld ?_
            rotate_left
            · intro u hSw
              go_simp
              try with_reducible rfl
            try simp only [Act.put, List.setIfInBounds_toArray, List.set_cons_zero, List.set_cons_succ]
            refine wpAnyH_done (by kernel_rfl) ?_ _
            refine NoPanic.normal ?_
            clear hR2 tg tw1 tw2 c0 c1 c2
            go_wp2
            exact ⟨⟨v + 1, by omega, by go_num, HBW.out.drew⟩, by simp [intOf]; omega⟩
          · have tg : decide ((p : Int) ≤ la) = false := decide_eq_false hle
            go_upto_region 14 with fail
            have hR2 : Below wr.heap.size wr wr.drew := (Below.refl _ _).drew
            refine wp_region_noPanic ?_
            refine wp_region_held_drew (S := fun u => Below wr.heap.size wr u) (by kernel_rfl) ?_ (fun hHeld => ?_)
            · exact hR2
            refine wpAnyH_take (i := 0) (oi := { dst := some 100, op := Op.move (Operand.tmp 11), type := 3, pos := "more.go:26", after := #[], guard := none }) (v := ?_) rfl (by kernel_rfl) (by kernel_rfl) (by kernel_rfl) (fun _ _ _ h => h) (Or.inl ⟨by rfl, ?_⟩) hHeld ?_
            rotate_left
            · intro u hSw
              go_simp
              try with_reducible rfl
            try simp only [Act.put, List.setIfInBounds_toArray, List.set_cons_zero, List.set_cons_succ]
            refine wpAnyH_take (i := 1) (oi := { dst := some 101, op := Op.binOp BinOp.add 3 (Operand.tmp 100) (Operand.const (Value.int IntKind.i64 1)) 3, type := 3, pos := "more.go:26", after := #[{ on := 0, ground := Ground.data }], guard := none }) (v := ?_) rfl (by kernel_rfl) (by kernel_rfl) (by kernel_rfl) (fun _ _ _ h => h) (Or.inl ⟨by rfl, ?_⟩) hHeld ?_
            rotate_left
            · intro u hSw
              go_simp
              try with_reducible rfl
            try simp only [Act.put, List.setIfInBounds_toArray, List.set_cons_zero, List.set_cons_succ]
            refine wpAnyH_take (i := 2) (oi := { dst := some 102, op := Op.move (Operand.tmp 7), type := 39, pos := "more.go:26", after := #[], guard := none }) (v := ?_) rfl (by kernel_rfl) (by kernel_rfl) (by kernel_rfl) (fun _ _ _ h => h) (Or.inl ⟨by rfl, ?_⟩) hHeld ?_
            rotate_left
            · intro u hSw
              go_simp
              try with_reducible rfl
            try simp only [Act.put, List.setIfInBounds_toArray, List.set_cons_zero, List.set_cons_succ]
            refine wpAnyH_take (i := 3) (oi := { dst := some 103, op := Op.indexAddr 39 (Operand.tmp 102) (Operand.const (Value.int IntKind.i64 0)), type := 0, pos := "more.go:26", after := #[{ on := 2, ground := Ground.data }], guard := none }) (v := ?_) rfl (by kernel_rfl) (by kernel_rfl) (by kernel_rfl) (fun _ _ _ h => h) (Or.inl ⟨by rfl, ?_⟩) hHeld ?_
            rotate_left
            · intro u hSw
              go_simp
              try with_reducible rfl
            try simp only [Act.put, List.setIfInBounds_toArray, List.set_cons_zero, List.set_cons_succ]
            refine wpAnyH_take (i := 4) (oi := { dst := some 104, op := Op.load 37 (Operand.tmp 103), type := 37, pos := "more.go:26", after := #[{ on := 3, ground := Ground.data }], guard := none }) (v := ?_) rfl (by kernel_rfl) (by kernel_rfl) (by kernel_rfl) (fun _ _ _ h => h) (Or.inl ⟨by rfl, ?_⟩) hHeld ?_
            rotate_left
            · intro u hSw
              go_simp
              try with_reducible rfl
            try simp only [Act.put, List.setIfInBounds_toArray, List.set_cons_zero, List.set_cons_succ]
            refine wpAnyH_take (i := 5) (oi := { dst := some 105, op := Op.call { callee := Callee.builtin Builtin.len, args := #[Operand.tmp 104], argTypes := #[37] }, type := 3, pos := "more.go:26", after := #[{ on := 4, ground := Ground.data }], guard := none }) (v := ?_) rfl (by kernel_rfl) (by kernel_rfl) (by kernel_rfl) (fun _ _ _ h => h) (Or.inl ⟨by rfl, ?_⟩) hHeld ?_
            rotate_left
            · intro u hSw
              go_simp
              try with_reducible rfl
            try simp only [Act.put, List.setIfInBounds_toArray, List.set_cons_zero, List.set_cons_succ]
            refine wpAnyH_take (i := 6) (oi := { dst := some 106, op := Op.binOp BinOp.mul 3 (Operand.tmp 101) (Operand.tmp 105) 3, type := 3, pos := "more.go:26", after := #[{ on := 1, ground := Ground.data }, { on := 5, ground := Ground.data }], guard := none }) (v := ?_) rfl (by kernel_rfl) (by kernel_rfl) (by kernel_rfl) (fun _ _ _ h => h) (Or.inl ⟨by rfl, ?_⟩) hHeld ?_
            rotate_left
            · intro u hSw
              go_simp
              try with_reducible rfl
            try simp only [Act.put, List.setIfInBounds_toArray, List.set_cons_zero, List.set_cons_succ]
            refine wpAnyH_take (i := 7) (oi := { dst := some 107, op := Op.move (Operand.tmp 1), type := 37, pos := "more.go:26", after := #[], guard := none }) (v := ?_) rfl (by kernel_rfl) (by kernel_rfl) (by kernel_rfl) (fun _ _ _ h => h) (Or.inl ⟨by rfl, ?_⟩) hHeld ?_
            rotate_left
            · intro u hSw
              go_simp
              try with_reducible rfl
            try simp only [Act.put, List.setIfInBounds_toArray, List.set_cons_zero, List.set_cons_succ]
            refine wpAnyH_take (i := 8) (oi := { dst := some 108, op := Op.call { callee := Callee.builtin Builtin.len, args := #[Operand.tmp 107], argTypes := #[37] }, type := 3, pos := "more.go:26", after := #[{ on := 7, ground := Ground.data }], guard := none }) (v := ?_) rfl (by kernel_rfl) (by kernel_rfl) (by kernel_rfl) (fun _ _ _ h => h) (Or.inl ⟨by rfl, ?_⟩) hHeld ?_
            rotate_left
            · intro u hSw
              go_simp
              try with_reducible rfl
            try simp only [Act.put, List.setIfInBounds_toArray, List.set_cons_zero, List.set_cons_succ]
            refine wpAnyH_take (i := 9) (oi := { dst := some 109, op := Op.binOp BinOp.leq 3 (Operand.tmp 106) (Operand.tmp 108) 3, type := 4, pos := "more.go:26", after := #[{ on := 6, ground := Ground.data }, { on := 8, ground := Ground.data }], guard := none }) (v := ?_) rfl (by kernel_rfl) (by kernel_rfl) (by kernel_rfl) (fun _ _ _ h => h) (Or.inl ⟨by rfl, ?_⟩) hHeld ?_
            rotate_left
            · intro u hSw
              go_simp
              try with_reducible rfl
            try simp only [Act.put, List.setIfInBounds_toArray, List.set_cons_zero, List.set_cons_succ]
            refine wpAnyH_take (i := 10) (oi := { dst := some 110, op := Op.move (Operand.tmp 109), type := 4, pos := "more.go:26", after := #[{ on := 9, ground := Ground.data }], guard := none }) (v := ?_) rfl (by kernel_rfl) (by kernel_rfl) (by kernel_rfl) (fun _ _ _ h => h) (Or.inl ⟨by rfl, ?_⟩) hHeld ?_
            rotate_left
            · intro u hSw
              go_simp
              try with_reducible rfl
            try simp only [Act.put, List.setIfInBounds_toArray, List.set_cons_zero, List.set_cons_succ]
            refine wpAnyH_take (i := 11) (oi := { dst := some 111, op := Op.move (Operand.tmp 7), type := 39, pos := "more.go:26", after := #[{ on := 10, ground := Ground.guard }], guard := some (10, true) }) (v := undef) rfl (by kernel_rfl) (by kernel_rfl) (by kernel_rfl) (fun _ _ _ h => h) (Or.inr ⟨by rfl, rfl⟩) hHeld ?_
            try simp only [Act.put, List.setIfInBounds_toArray, List.set_cons_zero, List.set_cons_succ]
            refine wpAnyH_take (i := 12) (oi := { dst := some 112, op := Op.move (Operand.tmp 11), type := 3, pos := "more.go:26", after := #[{ on := 10, ground := Ground.guard }], guard := some (10, true) }) (v := undef) rfl (by kernel_rfl) (by kernel_rfl) (by kernel_rfl) (fun _ _ _ h => h) (Or.inr ⟨by rfl, rfl⟩) hHeld ?_
            try simp only [Act.put, List.setIfInBounds_toArray, List.set_cons_zero, List.set_cons_succ]
            refine wpAnyH_take (i := 13) (oi := { dst := some 113, op := Op.indexAddr 39 (Operand.tmp 111) (Operand.tmp 112), type := 0, pos := "more.go:26", after := #[{ on := 11, ground := Ground.data }, { on := 12, ground := Ground.data }, { on := 10, ground := Ground.guard }], guard := some (10, true) }) (v := undef) rfl (by kernel_rfl) (by kernel_rfl) (by kernel_rfl) (fun _ _ _ h => h) (Or.inr ⟨by rfl, rfl⟩) hHeld ?_
            try simp only [Act.put, List.setIfInBounds_toArray, List.set_cons_zero, List.set_cons_succ]
            refine wpAnyH_take (i := 14) (oi := { dst := some 114, op := Op.load 37 (Operand.tmp 113), type := 37, pos := "more.go:26", after := #[{ on := 13, ground := Ground.data }, { on := 10, ground := Ground.guard }], guard := some (10, true) }) (v := undef) rfl (by kernel_rfl) (by kernel_rfl) (by kernel_rfl) (fun _ _ _ h => h) (Or.inr ⟨by rfl, rfl⟩) hHeld ?_
            try simp only [Act.put, List.setIfInBounds_toArray, List.set_cons_zero, List.set_cons_succ]
            refine wpAnyH_take (i := 15) (oi := { dst := some 115, op := Op.move (Operand.tmp 9), type := 39, pos := "more.go:26", after := #[{ on := 10, ground := Ground.guard }], guard := some (10, true) }) (v := undef) rfl (by kernel_rfl) (by kernel_rfl) (by kernel_rfl) (fun _ _ _ h => h) (Or.inr ⟨by rfl, rfl⟩) hHeld ?_
            try simp only [Act.put, List.setIfInBounds_toArray, List.set_cons_zero, List.set_cons_succ]
            refine wpAnyH_take (i := 16) (oi := { dst := some 116, op := Op.move (Operand.tmp 11), type := 3, pos := "more.go:26", after := #[{ on := 10, ground := Ground.guard }], guard := some (10, true) }) (v := undef) rfl (by kernel_rfl) (by kernel_rfl) (by kernel_rfl) (fun _ _ _ h => h) (Or.inr ⟨by rfl, rfl⟩) hHeld ?_
            try simp only [Act.put, List.setIfInBounds_toArray, List.set_cons_zero, List.set_cons_succ]
            refine wpAnyH_take (i := 17) (oi := { dst := some 117, op := Op.indexAddr 39 (Operand.tmp 115) (Operand.tmp 116), type := 0, pos := "more.go:26", after := #[{ on := 15, ground := Ground.data }, { on := 16, ground := Ground.data }, { on := 10, ground := Ground.guard }], guard := some (10, true) }) (v := undef) rfl (by kernel_rfl) (by kernel_rfl) (by kernel_rfl) (fun _ _ _ h => h) (Or.inr ⟨by rfl, rfl⟩) hHeld ?_
            try simp only [Act.put, List.setIfInBounds_toArray, List.set_cons_zero, List.set_cons_succ]
            refine wpAnyH_take (i := 18) (oi := { dst := some 118, op := Op.load 37 (Operand.tmp 117), type := 37, pos := "more.go:26", after := #[{ on := 17, ground := Ground.data }, { on := 10, ground := Ground.guard }], guard := some (10, true) }) (v := undef) rfl (by kernel_rfl) (by kernel_rfl) (by kernel_rfl) (fun _ _ _ h => h) (Or.inr ⟨by rfl, rfl⟩) hHeld ?_
            try simp only [Act.put, List.setIfInBounds_toArray, List.set_cons_zero, List.set_cons_succ]
            refine wpAnyH_take (i := 19) (oi := { dst := some 119, op := Op.call { callee := Callee.value (Operand.func 23), args := #[Operand.tmp 114, Operand.tmp 118], argTypes := #[37, 37] }, type := 4, pos := "more.go:26", after := #[{ on := 14, ground := Ground.data }, { on := 18, ground := Ground.data }, { on := 10, ground := Ground.chain }, { on := 10, ground := Ground.guard }], guard := some (10, true) }) (v := undef) rfl (by kernel_rfl) (by kernel_rfl) (by kernel_rfl) (fun _ _ _ h => h) (Or.inr ⟨by rfl, rfl⟩) hHeld ?_
            try simp only [Act.put, List.setIfInBounds_toArray, List.set_cons_zero, List.set_cons_succ]
            refine wpAnyH_take (i := 20) (oi := { dst := some 120, op := Op.unOp UnOp.not 4 (Operand.tmp 119), type := 4, pos := "more.go:26", after := #[{ on := 19, ground := Ground.data }, { on := 10, ground := Ground.guard }], guard := some (10, true) }) (v := undef) rfl (by kernel_rfl) (by kernel_rfl) (by kernel_rfl) (fun _ _ _ h => h) (Or.inr ⟨by rfl, rfl⟩) hHeld ?_
            try simp only [Act.put, List.setIfInBounds_toArray, List.set_cons_zero, List.set_cons_succ]
            refine wpAnyH_take (i := 21) (oi := { dst := some 121, op := Op.pick (Operand.tmp 110) (Operand.tmp 120) (Operand.const (Value.bool false)), type := 4, pos := "more.go:26", after := #[{ on := 10, ground := Ground.data }, { on := 20, ground := Ground.data }], guard := none }) (v := ?_) rfl (by kernel_rfl) (by kernel_rfl) (by kernel_rfl) (fun _ _ _ h => h) (Or.inl ⟨by rfl, ?_⟩) hHeld ?_
            rotate_left
            · intro u hSw
              go_simp
              try with_reducible rfl
            try simp only [Act.put, List.setIfInBounds_toArray, List.set_cons_zero, List.set_cons_succ]
            refine wpAnyH_done (by kernel_rfl) ?_ _
            refine NoPanic.normal ?_
            clear hR2 tg tw1 tw2 c0 c1 c2
            go_wp2
            exact ⟨⟨v + 1, by omega, by go_num, HBW.out.drew⟩, by simp [intOf]; omega⟩
        · obtain rfl : v = l2 := by omega
          go_wp2
          go_ret
          exact ⟨rfl, HB7.out.trans (HBW.out.mono HB7.out.size)⟩
def gsShG : List Nat := [2, 1, 0]
theorem grow_all (k : Int) (la ca lb cb : Nat) (a b : Option Addr) (xs ys : List F) (w : World) (hk0 : -9223372036854775808 ≤ k) (hk1 : k ≤ 9223372036854775807) (hla : la = xs.length) (hlb : lb = ys.length) (hsum : la + lb ≤ 1048576) (hx : Row8 w a xs) (hy : Row8 w b ys) (hna : a = none → ca = 0) (hnb : b = none → cb = 0) (es : List Addr) (hes : ErrsAt w gsShG es) :
    Calls Tryd.prog 7 #[.int .i64 k, .slice a la ca, .slice b lb cb] w fun e w' => e = .returned (.bool true) ∧ Below w.heap.size w w' := by
  obtain ⟨a0, _, h0, _⟩ := errs_at hes 0 _ rfl
  obtain ⟨a1, _, h1, _⟩ := errs_at hes 1 _ rfl
  obtain ⟨a2, _, h2, _⟩ := errs_at hes 2 _ rfl
  exact grow_walk k la ca lb cb a b xs ys w hk0 hk1 hla hlb hsum hx hy hna hnb (fun j => if j = 0 then a0 else if j = 11 then a1 else a2) ⟨h0, h1, h2⟩
end Go.Proofs.YtbnjjmmpgpomiaaDoor
