/- What SameLists answers of two lists that are the same, and what Apart answers of two pieces of memory that lie apart: the second one is written over. -/
import Derived.Test.YtbnjjmmpgpomiaaDoorShardsJ
import Derived.Test.YtbnjjmmpgpomiaaDoorNumApart
import Derived.Test.YtbnjjmmpgpomiaaDoorHolds
import Derived.Deep.DeepCutAuto
namespace Go.Proofs.YtbnjjmmpgpomiaaDoor
open Go.RowKit Gf
set_option linter.unusedVariables false
set_option maxRecDepth 20000
set_option maxHeartbeats 1000000 in
theorem sameLists_F (l ca cb : Nat) (a b : Option Addr) (L : List (List F)) (w : World) (hl : l = L.length) (hl9 : l ≤ 140737488355328) (ha : Rows8 w a L) (hb : Rows8 w b L) :
    Calls Tryd.prog 18 #[.slice a l ca, .slice b l cb] w fun e w' => e = .returned (.bool true) ∧ Below w.heap.size w w' := by
  have HL : Hid _ := hl
  have HA : Hid _ := ha
  have HB : Hid _ := hb
  clear hl ha hb
  go_enter Tryd.func18, Tryd.ntmps18
  go_wp2
  go_loopw [13] (fun t wr => ∃ j : Nat, j ≤ l ∧ t = .int .i64 j ∧ Below w.heap.size w wr) (fun t _ => l - (intOf t).toNat)
  case atStart => exact ⟨0, by omega, rfl, Below.refl _ _⟩
  case round =>
    obtain ⟨j, hj, rfl, hbw⟩ := hrel
    have HBW : Hid _ := hbw
    by_cases hlt : j < l
    · obtain ⟨b1, o1, rfl, _, h1⟩ := rows8_at (rows8_below HA.out hbw) (show j < L.length by rw [← HL.out]; exact hlt)
      obtain ⟨b2, o2, rfl, _, h2⟩ := rows8_at (rows8_below HB.out hbw) (show j < L.length by rw [← HL.out]; exact hlt)
      obtain ⟨xs, hxs⟩ : ∃ xs, L[j]? = some xs := ⟨_, List.getElem?_eq_getElem (by rw [← HL.out]; exact hlt)⟩
      obtain ⟨a1, q1, e1, r1⟩ := h1 j xs hxs
      obtain ⟨a2, q2, e2, r2⟩ := h2 j xs hxs
      have c1 : ∀ w', Below wr.heap.size wr w' → w'.cell? ⟨b1, o1 + j, none⟩ = some (.slice a1 xs.length q1) := fun w' hb => cell_later hb e1
      have c2 : ∀ w', Below wr.heap.size wr w' → w'.cell? ⟨b2, o2 + j, none⟩ = some (.slice a2 xs.length q2) := fun w' hb => cell_later hb e2
      have kA := conv_keep8 (ca := q1) (show xs.length = xs.length from rfl) (row_keep r1)
      have kB := conv_keep8 (ca := q2) (show xs.length = xs.length from rfl) (row_keep r2)
      clear hbw h1 h2 hxs e1 e2 r1 r2
      go_upto_region 6 with fail
      have hR2 : Below wr.heap.size wr wr.drew := (Below.refl _ _).drew
      go_region_held3 (fun w' => Below wr.heap.size wr w') (first | assumption | (refine Below.drew ?_; assumption)) (fail)
      clear kA kB c1 c2 hR2
      go_wp2
      exact ⟨⟨j + 1, by omega, by go_num, HBW.out.drew⟩, by simp [intOf]; omega⟩
    · obtain rfl : j = l := by omega
      clear hbw
      go_wp2
      go_ret
      exact ⟨rfl, HBW.out⟩
/-- turned as far as byte o + k -/
theorem flTo_len' (xs : List F) (k : Nat) : (flTo xs k).length = xs.length := flTo_len xs k
theorem append8_growsAt {w : World} {g o n cap : Nat} {xs ys : List F} {ad : Addr} {m c : Nat} (ty : TypeId) (hx : Row8 w (some ⟨g, o, none⟩) xs) (hn : n = xs.length) (hm : m = ys.length) (hcap : cap < n + m) (hb : n + m ≤ 140737488355328)
    (hy : ∀ j, j < ys.length → w.cell? (ad.add j) = some (.int .u8 ((at8 ys j).toNat : Int))) :
    ∃ g' cap' w', (Builtin.append_ #[37, 37] ty #[.slice (some ⟨g, o, none⟩) n cap, .slice (some ad) m c]).run Tryd.prog w = .ok (.slice (some ⟨g', 0, none⟩) (n + m) cap') w' ∧
      Has8 w' g' (xs ++ ys) cap' ∧ w.grownBy w' none ∧ w.heap.size ≤ g' := by
  subst hn hm
  obtain ⟨i, hi, h1, h2, h3⟩ := info8
  obtain ⟨v', w', hrun, ho, hgr⟩ := run_append_arg_grows (P := Tryd.prog) w 37 ty 5 i _ 1 1 Tryd.underlying37 hi h3 h1 h2 rfl (by decide)
    ⟨g, o, none⟩ xs.length cap (xs.map vf) (by simp) (fun j v hv => by
      simp only [List.getElem?_map, Option.map_eq_some_iff] at hv
      obtain ⟨x, hx1, rfl⟩ := hv
      have hj : j < xs.length := (List.getElem?_eq_some_iff.1 hx1).1
      have e : at8 xs j = x := by simp [at8, hx1]
      rcases hx with e' | ⟨b, off, e', hx⟩
      · rw [e'] at hj; simp at hj
      · cases e'
        have hadd : (⟨g, o, none⟩ : Addr).add j = ⟨g, o + j, none⟩ := by unfold Addr.add; split <;> simp_all
        rw [hadd, hx j hj, e]; rfl)
    ad ys.length c (ys.map vf) (by simp) (fun j v hv => by
      simp only [List.getElem?_map, Option.map_eq_some_iff] at hv
      obtain ⟨x, hx1, rfl⟩ := hv
      have hj : j < ys.length := (List.getElem?_eq_some_iff.1 hx1).1
      have e : at8 ys j = x := by simp [at8, hx1]
      rw [hy j hj, e]; rfl) hcap (by simp only [maxLen]; omega) (by omega)
  rcases ho.2 with ⟨hv, h0⟩ | ⟨g', cap', cur', hv, hge, hg', hl', hm', hs', ht'⟩
  · omega
  · subst hv
    refine ⟨g', cap', w', hrun, ⟨cur', hg', by omega, by simpa using hl', hm', ?_⟩, hgr, hge⟩
    rw [List.length_append, List.map_append, ← ht', Nat.mul_one]
theorem add_zero_at (g j : Nat) : (⟨g, 0, none⟩ : Addr).add j = ⟨g, j, none⟩ := by unfold Addr.add; split <;> simp_all
theorem row8_piece {w : World} {g o m : Nat} {xs : List F} {t : TypeId} {fr : Nat × Nat} (h : w.heap[g]? = some (.cells (vfs xs) t fr)) (ho : o + m ≤ xs.length) : Row8 w (some ⟨g, o, none⟩) ((xs.drop o).take m) :=
  .inr ⟨g, o, rfl, fun j hj => by
    rw [List.length_take, List.length_drop] at hj
    rw [cell_of_row _ _ _ _ _ _ h, vfs_get _ _ (by omega), at8_take (by omega), at8_drop]⟩
/-- Apart, where the second list is a piece of a block, full, and the first one doesn't meet it -/
theorem apart_S (gb o m n ca : Nat) (aa : Option Addr) (xs ys : List F) (w : World) (hn : n = xs.length) (ho : o + m ≤ ys.length) (hm : m ≤ 140737488351232)
    (hy : w.heap[gb]? = some (.cells (vfs (flTo ys o)) 5 (0, 0)))
    (hx : ∀ k, k ≤ m → ∀ w', w.grownBy w' (some gb) → w'.heap[gb]? = some (.cells (vfs (flTo ys (o + k))) 5 (0, 0)) → Row8 w' aa xs) :
    Calls Tryd.prog 20 #[.slice aa n ca, .slice (some ⟨gb, o, none⟩) m m] w fun e w' => e = .returned (.bool true) ∧ w.grownBy w' (some gb) ∧
      w'.heap[gb]? = some (.cells (vfs (flTo ys (o + m))) 5 (0, 0)) := by
  have k0 := conv8 (ca := ca) hn (hx 0 (Nat.zero_le _) w (World.grownBy.refl _ _) hy)
  have hgb : gb < w.heap.size := ltHeap hy
  have HX : Hid _ := hx
  have HY : Hid _ := hy
  have HN : Hid _ := hn
  have HO : Hid _ := ho
  clear hx hy hn
  go_enter Tryd.func20, Tryd.ntmps20
  go_wp2
  clear k0
  go_loopw [13] (fun i wr => ∃ k : Nat, k ≤ m ∧ i = .int .i64 k ∧ w.grownBy wr (some gb) ∧ wr.heap[gb]? = some (.cells (vfs (flTo ys (o + k))) 5 (0, 0))) (fun i _ => m - (intOf i).toNat)
  case atStart => exact ⟨0, by omega, rfl, World.grownBy.refl _ _, HY.out⟩
  case round =>
    obtain ⟨k, hk, rfl, hg1, hh1⟩ := hrel
    by_cases hlt : k < m
    · have hky : o + k < ys.length := by have := HO.out; omega
      have c1 : wr.cell? ⟨gb, o + k, none⟩ = some (.int .u8 ((at8 ys (o + k)).toNat : Int)) := by
        rw [cell_of_row _ _ _ _ _ _ hh1, vfs_get _ _ (by rw [flTo_len]; exact hky), flTo_at]
      have c2 : wr.frozen? ⟨gb, o + k, none⟩ = false := frozen_of_row _ _ _ _ _ hh1
      have ex := fl_val (at8 ys (o + k))
      have HG : Hid _ := hg1
      have HH : Hid _ := hh1
      have HS : Hid _ := flTo_succ ys (o + k) hky
      clear hg1 hh1
      go_wp2
      exact ⟨⟨k + 1, by omega, by go_num, grownBy_setCell HG.out _, by rw [heap_setCell_same _ _ _ _ _ _ HH.out, vfs_set, HS.out]; rfl⟩, by simp [intOf]; omega⟩
    · obtain rfl : k = m := by omega
      obtain ⟨zs, hzs⟩ : ∃ zs, zs = ((flTo ys (o + k)).drop o).take k := ⟨_, rfl⟩
      have hzl : k = zs.length := by
        rw [hzs, List.length_take, List.length_drop, flTo_len]
        have := HO.out
        omega
      have hzr : Row8 wr (some ⟨gb, o, none⟩) zs := by
        rw [hzs]
        exact row8_piece hh1 (by rw [flTo_len]; exact HO.out)
      have k1 := conv8 (ca := ca) HN.out (HX.out k (Nat.le_refl _) wr hg1 hh1)
      have hsz := hg1.size
      obtain ⟨g2, cap2, w2, hrun, hs2, hgr2, hge2⟩ := append8_growsAt (w := wr.alloc (.cells (vfs sevens) 5)) (g := gb) (o := o) (n := k) (cap := k) (xs := zs) (ys := sevens) (ad := ⟨wr.heap.size, 0, none⟩) (m := 8) (c := 8) 37
        (row8_alloc hzr _) hzl rfl (by omega) (by omega) (fun j hj => by
          rw [add_zero_at, World.cell?_alloc_at _ _ _ _ rfl, vfs_get _ _ hj])
      have hge : wr.heap.size + 1 ≤ g2 := by simpa using hge2
      have hgr3 : w.grownBy w2 (some gb) := grownBy_trans (grownBy_trans hg1 (World.grownBy_alloc wr (.cells (vfs sevens) 5) none) (by simp)) hgr2 (by simp)
      have hh3 : w2.heap[gb]? = some (.cells (vfs (flTo ys (o + k))) 5 (0, 0)) := (hgr2.block gb (by simp; omega) (by simp)).trans (((World.grownBy_alloc wr _ none).block gb (by omega) (by simp)).trans hh1)
      have HSV : Hid (vfs sevens = #[.int .u8 7, .int .u8 7, .int .u8 7, .int .u8 7, .int .u8 7, .int .u8 7, .int .u8 7, .int .u8 7]) := rfl
      have HR : Hid _ := hrun
      have HS2 : Hid _ := hs2
      have HG3 : Hid _ := hgr3
      have HH3 : Hid _ := hh3
      have HLS : Hid ((zs ++ sevens).length = k + 8) := by show _ = _; rw [List.length_append, ← hzl]; rfl
      clear hg1 hh1 hzr hzs hzl hrun hs2 hgr3 hh3 hgr2 hge2
      go_wp2_with (at_builtin; rw [← HSV.out]; refine wpList_append_run rfl _ _ 37 rfl _ _ _ _ rfl rfl HR.out ?_)
      clear k1
      have hg2b : g2 ≠ gb := by omega
      have hg2w : w.heap.size ≤ g2 := by omega
      go_loopw [8] (fun i wv => ∃ j : Nat, ∃ zs : List F, j ≤ 8 ∧ i = .int .i64 ((k + j : Nat) : Int) ∧ zs.length = k + 8 ∧ w2.grownBy wv (some g2) ∧ Has8 wv g2 zs cap2) (fun i _ => k + 8 - (intOf i).toNat)
      case atStart => exact ⟨0, _, by omega, rfl, HLS.out, World.grownBy.refl _ _, HS2.out⟩
      case round =>
        obtain ⟨j, zs, hj, rfl, hz, hgv, hhv⟩ := hrel
        by_cases hlt2 : j < 8
        · obtain ⟨c1, c2⟩ := has8_cell (j := k + j) hhv (by omega)
          have ex := fl_val (at8 zs (k + j))
          have HG : Hid _ := hgv
          have HS : Hid _ := has8_set (j := k + j) hhv (by omega) (fl (at8 zs (k + j)))
          have HZ : Hid _ := hz
          clear hgv hhv hz
          go_wp2
          exact ⟨⟨j + 1, zs.set (k + j) (fl (at8 zs (k + j))), by omega, by go_num, by rw [List.length_set]; exact HZ.out, grownBy_setCell HG.out _, HS.out⟩, by simp [intOf]; omega⟩
        · have hj8 : j = 8 := by omega
          have hfin : w.grownBy wr (some gb) := grownBy_trans HG3.out hgv (fun q hq _ => by simp; omega)
          have hhb : wr.heap[gb]? = some (.cells (vfs (flTo ys (o + k))) 5 (0, 0)) := (hgv.block gb (Array.getElem?_eq_some_iff.1 HH3.out).1 (fun e => hg2b (Option.some.inj e).symm)).trans HH3.out
          have k2 := conv8 (ca := ca) HN.out (HX.out k (Nat.le_refl _) wr hfin hhb)
          have HF : Hid _ := hfin
          have HB : Hid _ := hhb
          clear hgv hhv hfin hhb hz
          subst hj8
          go_wp2
          go_ret
          exact ⟨rfl, HF.out, HB.out⟩
end Go.Proofs.YtbnjjmmpgpomiaaDoor
