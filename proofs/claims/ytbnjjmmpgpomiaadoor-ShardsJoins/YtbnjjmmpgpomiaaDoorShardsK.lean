/- Facts for the walk of ShardsJoins: long lists of lists grown one by one, Apart of a nil list, and what both Joins answer, told alike. -/
import Derived.Test.YtbnjjmmpgpomiaaDoorShardsV
import Derived.Test.YtbnjjmmpgpomiaaDoorShardsU
import Derived.Test.YtbnjjmmpgpomiaaDoorShardsSizesW
namespace Go.Proofs.YtbnjjmmpgpomiaaDoor
open Go.RowKit Gf
set_option linter.unusedVariables false
set_option maxRecDepth 20000
theorem appendS9 {w : World} {B n b c : Nat} {v x : Value} {xs : List Value} (ty : TypeId) (ho : w.ownsRow B 37 1 v n xs) (hx : w.cell? ⟨b, 0, none⟩ = some x) (h1 : x.oneCell' = true) (hn : n ≤ 5864062014634) (hB : B ≤ w.heap.size) :
    ∃ g cap w', (Builtin.append_ #[39, 39] ty #[v, .slice (some ⟨b, 0, none⟩) 1 c]).run Tryd.prog w = .ok (.slice (some ⟨g, 0, none⟩) (n + 1) cap) w' ∧
      w'.ownsRow B 37 1 (.slice (some ⟨g, 0, none⟩) (n + 1) cap) (n + 1) (xs ++ [x]) ∧ w.grownBy w' v.ownBlock ∧ (v.ownBlock = some g ∨ g = w.heap.size) ∧ g < w'.heap.size := by
  obtain ⟨i, hi, h2, h3, h4⟩ := infoS
  exact run_append_lies (P := Tryd.prog) w 39 ty B 37 i _ 1 24 Tryd.underlying39 hi h4 h2 h3 rfl (by decide) v n xs ho ⟨b, 0, none⟩ 1 c [x] rfl (news_one hx) (by simpa using h1) (by decide) (by simp only [maxLen]; omega) (by omega) hB _ rfl
/-- eight bytes behind a nil list -/
theorem append8_nil {w : World} {b c : Nat} {ys : List F} (ty : TypeId) (hy : w.heap[b]? = some (.cells (vfs ys) 5 (0, 0))) (h0 : 0 < ys.length) (h9 : ys.length ≤ 4096) :
    ∃ g cap w', (Builtin.append_ #[37, 37] ty #[.slice none 0 0, .slice (some ⟨b, 0, none⟩) ys.length c]).run Tryd.prog w = .ok (.slice (some ⟨g, 0, none⟩) ys.length cap) w' ∧
      Has8 w' g ys cap ∧ w.grownBy w' none ∧ w.heap.size ≤ g := by
  obtain ⟨i, hi, h1, h2, h3⟩ := info8
  obtain ⟨v', w', hrun, ho, hgr, hnil, hat⟩ := run_append_own_at (P := Tryd.prog) w w.heap.size 37 ty 5 i _ 1 1 Tryd.underlying37 hi h3 h1 h2 rfl (by decide)
    (.slice none 0 0) 0 [] (World.ownsRow_nil _ _ _ _) ⟨b, 0, none⟩ ys.length c (ys.map vf) (by simp) (fun j v hv => by
      simp only [List.getElem?_map, Option.map_eq_some_iff] at hv
      obtain ⟨x, hx1, rfl⟩ := hv
      have hj : j < ys.length := (List.getElem?_eq_some_iff.1 hx1).1
      have e : at8 ys j = x := by simp [at8, hx1]
      rw [add_zero_at, cellAt hy j _ (vfs_get _ _ hj), e]; rfl) (fun v hv => by
      simp only [List.mem_map] at hv
      obtain ⟨x, _, rfl⟩ := hv
      rfl) (by simp only [maxLen]; omega) (by omega) (Nat.le_refl _)
  rcases ho.2 with ⟨_, hv⟩ | ⟨g', cap', cur', hv, hge, hg', hl', hm', hs', ht'⟩
  · omega
  · subst hv
    rw [Nat.zero_add] at hrun hl' ht'
    refine ⟨g', cap', w', by rw [← Nat.zero_add ys.length] at hrun ⊢; exact hrun, ⟨cur', hg', by omega, by omega, hm', ?_⟩, hgr, hge⟩
    rw [Nat.mul_one] at ht'
    simpa using ht'
/-- Apart, where the second list is nil -/
theorem apart_N (n ca : Nat) (aa : Option Addr) (xs : List F) (w : World) (hn : n = xs.length) (hx : Row8 w aa xs) :
    Calls Tryd.prog 20 #[.slice aa n ca, .slice none 0 0] w fun e w' => e = .returned (.bool true) ∧ Below w.heap.size w w' := by
  have k0 := conv8 (ca := ca) hn hx
  obtain ⟨g2, cap2, w2, hrun, hs2, hgr2, hge2⟩ := append8_nil (w := w.alloc (.cells (vfs sevens) 5)) (b := w.heap.size) (c := 8) (ys := sevens) 37 (heap_alloc_last _ _) (by decide) (by decide)
  have hge : w.heap.size + 1 ≤ g2 := by simpa using hge2
  have hB2 : Below w.heap.size w w2 := ((Below.refl _ _).alloc (Nat.le_refl _) (.cells (vfs sevens) 5)).trans ⟨hgr2.os, hgr2.tape, hgr2.output, hgr2.size, fun k hk => hgr2.block k (by simp; omega) (by simp)⟩
  have HSV : Hid (vfs sevens = #[.int .u8 7, .int .u8 7, .int .u8 7, .int .u8 7, .int .u8 7, .int .u8 7, .int .u8 7, .int .u8 7]) := rfl
  have HX : Hid _ := hx
  have HN : Hid _ := hn
  have HR : Hid _ := hrun
  have HS2 : Hid _ := hs2
  have HB2 : Hid _ := hB2
  clear hx hn hrun hs2 hgr2 hge2 hB2
  go_enter Tryd.func20, Tryd.ntmps20
  go_wp2
  go_loopw [13] (fun i wr => i = .int .i64 0 ∧ wr = w) (fun i _ => 0)
  case atStart => exact ⟨rfl, rfl⟩
  case round =>
    obtain ⟨rfl, rfl⟩ := hrel
    go_wp2_with (at_builtin; rw [← HSV.out]; refine wpList_append_run rfl _ _ 37 rfl _ _ _ _ rfl rfl HR.out ?_)
    clear k0
    generalize hw9 : wr = w9 at *
    go_loopw [8] (fun i wv => ∃ j : Nat, ∃ zs : List F, j ≤ 8 ∧ i = .int .i64 (j : Int) ∧ zs.length = 8 ∧ w2.grownBy wv (some g2) ∧ Has8 wv g2 zs cap2) (fun i _ => 8 - (intOf i).toNat)
    case atStart => exact ⟨0, _, by omega, rfl, rfl, World.grownBy.refl _ _, HS2.out⟩
    case round =>
      obtain ⟨j, zs, hj, rfl, hz, hgv, hhv⟩ := hrel
      by_cases hlt2 : j < 8
      · obtain ⟨c1, c2⟩ := has8_cell (j := j) hhv (by omega)
        have ex := fl_val (at8 zs j)
        have HG : Hid _ := hgv
        have HS : Hid _ := has8_set (j := j) hhv (by omega) (fl (at8 zs j))
        have HZ : Hid _ := hz
        clear hgv hhv hz
        go_wp2
        exact ⟨⟨j + 1, zs.set j (fl (at8 zs j)), by omega, by go_num, by rw [List.length_set]; exact HZ.out, grownBy_setCell HG.out _, HS.out⟩, by simp [intOf]; omega⟩
      · have hj8 : j = 8 := by omega
        have hfin : Below w9.heap.size w9 wr := below_grown HB2.out hgv (by omega)
        have k2 := conv8 (ca := ca) HN.out (row8_below HX.out hfin)
        have HF : Hid _ := hfin
        clear hgv hhv hfin hz
        subst hj8
        go_wp2
        go_ret
        exact ⟨rfl, by rw [hw9]; exact HF.out⟩
/-- what both Joins tell: the bytes, the error's number -/
theorem join_G (k size : Int) (l cap : Nat) (a : Option Addr) (L : List (List F)) (w : World) (es : List Addr) (hes : ErrsAt w gsNum es) (hs0 : -9223372036854775808 ≤ size) (hs1 : size ≤ 9223372036854775807) (hl : l = L.length) (hl9 : l ≤ 140737488355328) :
    ∃ (x : Nat) (zs : List F), x ≤ 25 ∧ zs.length ≤ 4096 ∧
      (∀ u, Below w.heap.size w u → Rows8 u a L → Calls Tryd.prog 21 #[.int .i64 k, .int .i64 size, .slice a l cap] u fun e w' => ∃ bd, e = .returned (.tuple #[.slice bd zs.length zs.length, evV (ofL es) x]) ∧
        (bd = none ∧ zs = [] ∨ ∃ g ys, bd = some ⟨g, 0, none⟩ ∧ u.heap.size ≤ g ∧ w'.heap[g]? = some (.cells (vfs (zs ++ ys)) 5 (0, 0))) ∧ Below u.heap.size u w') ∧
      (∀ u b c, Rows8 u b L → Calls Tryd.prog 22 #[.int .i64 k, .int .i64 size, .slice b l c] u fun e w' => ∃ bw cw, e = .returned (.tuple #[.slice bw zs.length cw, .int .i64 x]) ∧ Row8 w' bw zs ∧ Below u.heap.size u w') := by
  by_cases h : halfE k size = 0
  · obtain ⟨c, n, rfl, rfl, h1, h2, h3, h4⟩ := half_ok h
    by_cases hf : FitP (2 * c) (cntN (2 * c) n) L
    · have hlen : n ≤ L.flatten.length := by
        rw [flat_len hf.2, hf.1]
        exact (cnt_half h1 h2 h3 h4).2.2.1
      refine ⟨0, L.flatten.take n, by decide, by rw [List.length_take]; omega, fun u hu hR => ?_, fun u b cb hR => ?_⟩
      · refine (join_ok c n l cap a L u (ofL es) (errsE_num (errsAt_below hes hu)) h1 h2 h3 h4 hl hR hf).mono fun e w' ⟨g, ys, he, hg, hy, hyl, hh, hb⟩ => ⟨_, ?_, .inr ⟨g, ys, rfl, hg, by rw [hy.out]; exact hh⟩, hb⟩
        rw [hyl]; exact he
      · refine (rjoin_F c n l cb b L u h1 h2 h3 h4 hl hl9 hR).mono fun e w' hh => ?_
        rcases hh with ⟨hn, _⟩ | ⟨_, g, cp, he, _, h8, _, hb⟩
        · exact absurd hf hn
        · refine ⟨some ⟨g, 0, none⟩, cp, ?_, row8_has h8, hb⟩
          rw [List.length_take, Nat.min_eq_left hlen]; exact he
    · refine ⟨5, [], by decide, by simp, fun u hu hR => ?_, fun u b cb hR => ?_⟩
      · have hD : u.cell? ⟨6, 0, none⟩ = some (errAt (ofL es 4)) := by
          have he := errsAt_below hes hu
          have hl5 : es.length = 25 := he.1.symm
          refine (he.2.2 4 _ _ rfl ?_).1
          unfold ofL
          rw [List.getElem?_eq_getElem (by omega), List.getD_eq_getElem?_getD, List.getElem?_eq_getElem (by omega)]; rfl
        exact (join_no c n l cap a L u (ofL es) (errsE_num (errsAt_below hes hu)) hD h1 h2 h3 h4 hl hl9 hR hf).mono fun e w' ⟨he, hb⟩ => ⟨none, he, .inl ⟨rfl, rfl⟩, hb⟩
      · refine (rjoin_F c n l cb b L u h1 h2 h3 h4 hl hl9 hR).mono fun e w' hh => ?_
        rcases hh with ⟨_, he, hb⟩ | ⟨hn, _⟩
        · exact ⟨none, 0, he, .inl rfl, hb⟩
        · exact absurd hn hf
  · refine ⟨halfE k size, [], halfE_le _ _, by simp, fun u hu hR => ?_, fun u b cb hR => ?_⟩
    · exact (join_bad k size l cap a u (ofL es) (errsE_num (errsAt_below hes hu)) hs0 hs1 h).mono fun e w' ⟨he, hb⟩ => ⟨none, he, .inl ⟨rfl, rfl⟩, hb⟩
    · exact (rjoin_bad k size b l cb u h).mono fun e w' ⟨he, hw⟩ => ⟨none, 0, he, .inl rfl, hw ▸ Below.refl _ _⟩
end Go.Proofs.YtbnjjmmpgpomiaaDoor
