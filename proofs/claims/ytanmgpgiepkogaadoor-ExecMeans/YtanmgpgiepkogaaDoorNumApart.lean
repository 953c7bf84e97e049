/- What the statements' own look at two lists' memory answers: true where they lie apart; the second list is written over. -/
import Derived.Test.YtanmgpgiepkogaaDoorNumKept
import Derived.ArgAppend
namespace Go.Proofs.YtanmgpgiepkogaaDoor
open Go.RowKit Gf
set_option linter.unusedVariables false
set_option maxRecDepth 20000
/-- a byte with 85 added -/
def fl (x : F) : F := ga x 85
/-- the first k bytes turned -/
def flTo (xs : List F) (k : Nat) : List F := (xs.take k).map fl ++ xs.drop k
theorem flTo_len (xs : List F) (k : Nat) : (flTo xs k).length = xs.length := by simp [flTo]; omega
theorem flTo_zero (xs : List F) : flTo xs 0 = xs := by simp [flTo]
theorem flTo_all (xs : List F) : flTo xs xs.length = xs.map fl := by simp [flTo]
theorem flTo_at (xs : List F) (k : Nat) : at8 (flTo xs k) k = at8 xs k := by
  simp only [at8, flTo, List.getD_eq_getElem?_getD]
  by_cases h : k < xs.length
  · rw [List.getElem?_append_right (by simp; omega), List.length_map, List.length_take, List.getElem?_drop]
    congr 2; omega
  · rw [List.getElem?_eq_none (by simp; omega), List.getElem?_eq_none (by omega)]
theorem flTo_succ (xs : List F) (k : Nat) (h : k < xs.length) : (flTo xs k).set k (fl (at8 xs k)) = flTo xs (k + 1) := by
  apply list_ext8
  · simp [flTo_len]
  · intro j
    simp only [at8, flTo, List.getD_eq_getElem?_getD, List.getElem?_set, List.length_append, List.length_map, List.length_take, List.length_drop]
    by_cases hj : k = j
    · subst hj
      rw [if_pos rfl, if_pos (by omega), List.getElem?_append_left (by simp; omega)]
      simp [h]
    · rw [if_neg hj]
      by_cases hlt : j < k
      · rw [List.getElem?_append_left (by simp; omega), List.getElem?_append_left (by simp; omega)]
        simp [hlt, show j < k + 1 from by omega]
      · rw [List.getElem?_append_right (by simp; omega), List.getElem?_append_right (by simp; omega)]
        simp only [List.length_map, List.length_take, List.getElem?_drop]
        congr 2; omega
theorem fl_val (x : F) : bits .xor .u8 (x.toNat : Int) 85 = ((fl x).toNat : Int) := xor_val x 85
theorem append8_grows {w : World} {g n cap : Nat} {xs ys : List F} {ad : Addr} {m c : Nat} (ty : TypeId) (hx : Row8 w (some ⟨g, 0, none⟩) xs) (hn : n = xs.length) (hm : m = ys.length) (hcap : cap < n + m) (hb : n + m ≤ 140737488355328)
    (hy : ∀ j, j < ys.length → w.cell? (ad.add j) = some (.int .u8 ((at8 ys j).toNat : Int))) :
    ∃ g' cap' w', (Builtin.append_ #[31, 31] ty #[.slice (some ⟨g, 0, none⟩) n cap, .slice (some ad) m c]).run Tryd.prog w = .ok (.slice (some ⟨g', 0, none⟩) (n + m) cap') w' ∧
      Has8 w' g' (xs ++ ys) cap' ∧ w.grownBy w' none ∧ w.heap.size ≤ g' := by
  subst hn hm
  obtain ⟨i, hi, h1, h2, h3⟩ := info8
  obtain ⟨v', w', hrun, ho, hgr⟩ := run_append_arg_grows (P := Tryd.prog) w 31 ty 5 i _ 1 1 Tryd.underlying31 hi h3 h1 h2 rfl (by decide)
    ⟨g, 0, none⟩ xs.length cap (xs.map vf) (by simp) (fun j v hv => by
      simp only [List.getElem?_map, Option.map_eq_some_iff] at hv
      obtain ⟨x, hx1, rfl⟩ := hv
      have hj : j < xs.length := (List.getElem?_eq_some_iff.1 hx1).1
      have e : at8 xs j = x := by simp [at8, hx1]
      rcases hx with e' | ⟨b, off, e', hx⟩
      · rw [e'] at hj; simp at hj
      · cases e'
        have hadd : (⟨g, 0, none⟩ : Addr).add j = ⟨g, 0 + j, none⟩ := by unfold Addr.add; split <;> simp_all
        rw [hadd, hx j hj, e]; rfl)
    ad ys.length c (ys.map vf) (by simp) (fun j v hv => by
      simp only [List.getElem?_map, Option.map_eq_some_iff] at hv
      obtain ⟨x, hx1, rfl⟩ := hv
      have hj : j < ys.length := (List.getElem?_eq_some_iff.1 hx1).1
      have e : at8 ys j = x := by simp [at8, hx1]
      rw [hy j hj, e]; rfl) hcap (by simp only [maxLen]; omega) (by omega)
  rcases ho.2 with ⟨hv, h0⟩ | ⟨g', cap', cur', hv, hge, hg', hl', hm', hs', ht'⟩
  · omega
  · subst hv
    refine ⟨g', cap', w', hrun, ⟨cur', hg', by omega, by simpa using hl', hm', ?_⟩, hgr, hge⟩
    rw [List.length_append, List.map_append, ← ht', Nat.mul_one]
theorem has8_set {w : World} {g cap j : Nat} {xs : List F} (h : Has8 w g xs cap) (hj : j < xs.length) (x : F) : Has8 (w.setCell ⟨g, j, none⟩ (.int .u8 (x.toNat : Int))) g (xs.set j x) cap := by
  obtain ⟨cur, hg, hs, hl, hm, ht⟩ := h
  refine ⟨_, heap_setCell_same _ _ _ _ _ _ hg, by simpa using hs, by simpa using hl, hm, ?_⟩
  rw [List.length_set, Array.toList_setIfInBounds, List.take_set, ht, List.map_set]
  rfl
theorem has8_cell {w : World} {g cap j : Nat} {xs : List F} (h : Has8 w g xs cap) (hj : j < xs.length) : w.cell? ⟨g, j, none⟩ = some (.int .u8 ((at8 xs j).toNat : Int)) ∧ w.frozen? ⟨g, j, none⟩ = false := by
  have hr := row8_has h
  obtain ⟨cur, hg, _⟩ := h
  refine ⟨?_, frozen_of_row _ _ _ _ _ hg⟩
  rcases hr with e | ⟨b, off, e, hr⟩
  · rw [e] at hj; simp at hj
  · cases e
    simpa using hr j hj
theorem grownBy_refl (w : World) (r : Option Nat) : w.grownBy w r := ⟨rfl, rfl, rfl, Nat.le_refl _, fun _ _ _ => rfl⟩
theorem grownBy_trans {a b c : World} {r s : Option Nat} (h : a.grownBy b r) (k : b.grownBy c s) (hs : ∀ j, j < a.heap.size → some j ≠ r → some j ≠ s) : a.grownBy c r :=
  ⟨k.os.trans h.os, k.tape.trans h.tape, k.output.trans h.output, Nat.le_trans h.size k.size, fun j hj hr => (k.block j (Nat.lt_of_lt_of_le hj h.size) (hs j hj hr)).trans (h.block j hj hr)⟩
def sevens : List F := [7, 7, 7, 7, 7, 7, 7, 7]
set_option maxHeartbeats 4000000 in
theorem apart_F (ga gb n m ca : Nat) (xs ys : List F) (w : World) (hn : n = xs.length) (hm : m = ys.length) (hb : m ≤ 140737488351232) (hne : ga ≠ gb)
    (hx : Has8 w ga xs ca) (hy : w.heap[gb]? = some (.cells (vfs ys) 5 (0, 0))) :
    Calls Tryd.prog 31 #[.slice (some ⟨ga, 0, none⟩) n ca, .slice (some ⟨gb, 0, none⟩) m m] w fun e w' => e = .returned (.bool true) ∧ w.grownBy w' (some gb) ∧
      w'.heap[gb]? = some (.cells (vfs (ys.map fl)) 5 (0, 0)) := by
  have k0 := conv8 (ca := ca) hn (row8_has hx)
  have hga : ga < w.heap.size := by obtain ⟨cur, hg, _⟩ := hx; exact (Array.getElem?_eq_some_iff.1 hg).1
  have hgb : gb < w.heap.size := (Array.getElem?_eq_some_iff.1 hy).1
  have HX : Hid _ := hx
  have HY : Hid _ := hy
  have HN : Hid _ := hn
  have HM : Hid _ := hm
  clear hx hy hn hm
  go_enter Tryd.func31, Tryd.ntmps31
  go_wp2
  clear k0
  go_loopw [13] (fun i wr => ∃ k : Nat, k ≤ m ∧ i = .int .i64 k ∧ w.grownBy wr (some gb) ∧ wr.heap[gb]? = some (.cells (vfs (flTo ys k)) 5 (0, 0))) (fun i _ => m - (intOf i).toNat)
  case atStart => exact ⟨0, by omega, rfl, grownBy_refl _ _, by rw [flTo_zero]; exact HY.out⟩
  case round =>
    obtain ⟨k, hk, rfl, hg1, hh1⟩ := hrel
    by_cases hlt : k < m
    · have hky : k < ys.length := by have := HM.out; omega
      have c1 : wr.cell? ⟨gb, k, none⟩ = some (.int .u8 ((at8 ys k).toNat : Int)) := by
        rw [cell_of_row _ _ _ _ _ _ hh1, vfs_get _ _ (by rw [flTo_len]; exact hky), flTo_at]
      have c2 : wr.frozen? ⟨gb, k, none⟩ = false := frozen_of_row _ _ _ _ _ hh1
      have ex := fl_val (at8 ys k)
      have HG : Hid _ := hg1
      have HH : Hid _ := hh1
      have HS : Hid _ := flTo_succ ys k hky
      clear hg1 hh1
      go_wp2
      exact ⟨⟨k + 1, by omega, by go_num, grownBy_setCell HG.out _, by rw [heap_setCell_same _ _ _ _ _ _ HH.out, vfs_set, HS.out]⟩, by simp [intOf]; omega⟩
    · have hk' : k = ys.length := by have := HM.out; omega
      have hh2 : wr.heap[gb]? = some (.cells (vfs (ys.map fl)) 5 (0, 0)) := by rw [hh1, hk', flTo_all]
      have hx1 : Has8 wr ga xs ca := has8_grown HX.out hg1 (by simpa using hne)
      have k1 := conv8 (ca := ca) HN.out (row8_has hx1)
      have hsz := hg1.size
      obtain ⟨g2, cap2, w2, hrun, hs2, hgr2, hge2⟩ := append8_grows (w := wr.alloc (.cells (vfs sevens) 5)) (g := gb) (n := m) (cap := m) (xs := ys.map fl) (ys := sevens) (ad := ⟨wr.heap.size, 0, none⟩) (m := 8) (c := 8) 31
        (row8_alloc (row8_own hh2) _) (by have := HM.out; simpa using this) rfl (by omega) (by omega) (fun j hj => by
          have hadd : (⟨wr.heap.size, 0, none⟩ : Addr).add j = ⟨wr.heap.size, j, none⟩ := by unfold Addr.add; split <;> simp_all
          rw [hadd, World.cell?_alloc_at _ _ _ _ rfl, vfs_get _ _ hj])
      have hge : wr.heap.size + 1 ≤ g2 := by simpa using hge2
      have hgr3 : w.grownBy w2 (some gb) := grownBy_trans (grownBy_trans hg1 (World.grownBy_alloc wr (.cells (vfs sevens) 5) none) (by simp)) hgr2 (by simp)
      have hh3 : w2.heap[gb]? = some (.cells (vfs (ys.map fl)) 5 (0, 0)) := (hgr2.block gb (by simp; omega) (by simp)).trans (((World.grownBy_alloc wr _ none).block gb (by omega) (by simp)).trans hh2)
      have HSV : Hid (vfs sevens = #[.int .u8 7, .int .u8 7, .int .u8 7, .int .u8 7, .int .u8 7, .int .u8 7, .int .u8 7, .int .u8 7]) := rfl
      have HR : Hid _ := hrun
      have HS2 : Hid _ := hs2
      have HG3 : Hid _ := hgr3
      have HH3 : Hid _ := hh3
      have HLS : Hid ((ys.map fl ++ sevens).length = m + 8) := by have := HM.out; show _ = _; rw [List.length_append, List.length_map, ← this]; rfl
      have HK : Hid _ := hk'
      clear hg1 hh1 hh2 hx1 hrun hs2 hgr3 hh3 hgr2 hge2 hk'
      go_wp2_with (at_builtin; rw [← HSV.out]; refine wpList_append_run rfl _ _ 31 rfl _ _ _ _ rfl rfl HR.out ?_)
      clear k1
      have hg2a : g2 ≠ ga := by omega
      have hg2b : g2 ≠ gb := by omega
      go_loopw [8] (fun i wv => ∃ j : Nat, ∃ zs : List F, j ≤ 8 ∧ i = .int .i64 ((m + j : Nat) : Int) ∧ zs.length = m + 8 ∧ w2.grownBy wv (some g2) ∧ Has8 wv g2 zs cap2) (fun i _ => m + 8 - (intOf i).toNat)
      case atStart => exact ⟨0, _, by omega, rfl, HLS.out, grownBy_refl _ _, HS2.out⟩
      case round =>
        obtain ⟨j, zs, hj, rfl, hz, hgv, hhv⟩ := hrel
        by_cases hlt2 : j < 8
        · obtain ⟨c1, c2⟩ := has8_cell (j := m + j) hhv (by omega)
          have ex := fl_val (at8 zs (m + j))
          have HG : Hid _ := hgv
          have HS : Hid _ := has8_set (j := m + j) hhv (by omega) (fl (at8 zs (m + j)))
          have HZ : Hid _ := hz
          clear hgv hhv hz
          go_wp2
          exact ⟨⟨j + 1, zs.set (m + j) (fl (at8 zs (m + j))), by omega, by go_num, by rw [List.length_set]; exact HZ.out, grownBy_setCell HG.out _, HS.out⟩, by simp [intOf]; omega⟩
        · have hj8 : j = 8 := by omega
          have hx2 : Has8 wr ga xs ca := has8_grown (has8_grown HX.out HG3.out (by simpa using hne)) hgv (fun e => hg2a (Option.some.inj e).symm)
          have k2 := conv8 (ca := ca) HN.out (row8_has hx2)
          have hfin : w.grownBy wr (some gb) := grownBy_trans HG3.out hgv (fun q hq _ => by simp; omega)
          have hhb : wr.heap[gb]? = some (.cells (vfs (ys.map fl)) 5 (0, 0)) := (hgv.block gb (Array.getElem?_eq_some_iff.1 HH3.out).1 (fun e => hg2b (Option.some.inj e).symm)).trans HH3.out
          have HF : Hid _ := hfin
          have HB : Hid _ := hhb
          clear hgv hhv hx2 hfin hhb hz
          subst hj8
          go_wp2
          go_ret
          exact ⟨rfl, HF.out, HB.out⟩
end Go.Proofs.YtanmgpgiepkogaaDoor
