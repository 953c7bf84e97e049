/- What the document's own Encode answers, of all numbers and lists of bytes; nothing that was there turns. -/
import Derived.Test.YtmlpijlcpeoeaaaDoorCodeI
import Derived.Test.YtmlpijlcpeoeaaaDoorShardsT
namespace Go.Proofs.YtmlpijlcpeoeaaaDoor
open Go.RowKit Gf
set_option linter.unusedVariables false
set_option maxRecDepth 20000
theorem rimage_F (k r h H l cap : Nat) (a : Option Addr) (L : List (List F)) (w : World) (h1 : 1 ≤ k) (h2 : 2 ≤ r) (h3 : k + r ≤ 16) (hh : h < 2 * (k + r)) (hH : H ≤ 64) (hl : 2 * k ≤ L.length) (hll : l = L.length) (hl9 : l ≤ 140737488355328) (hL : ∀ xs ∈ L, xs.length = H) (hR : Rows8 w a L) :
    Calls Tryd.prog 23 #[.int .i64 k, .int .i64 r, .int .i64 h, .slice a l cap, .int .i64 H] w fun e w' => ∃ g, e = .returned (.slice (some ⟨g, 0, none⟩) H H) ∧ w.heap.size ≤ g ∧
      w'.heap[g]? = some (.cells (vfs (imgL k (carN (groupN k r)) H (bytesD L) h)) 5 (0, 0)) ∧ Below w.heap.size w w' := by
  by_cases hk : h < 2 * k
  · have e : imgL k (carN (groupN k r)) H (bytesD L) h = rowF H (bytesD L h) := rowF_congr fun b _ => img_data hk b
    rw [e]
    exact rimage_data k r h H l cap a L w (by omega) hk hH hl hll hL hR
  · obtain ⟨i, p, hi, hp, e⟩ : ∃ i p, i < r ∧ p < 2 ∧ h = 2 * (k + i) + p := ⟨h / 2 - k, h % 2, by omega, by omega, by omega⟩
    rw [e]
    exact rimage_par k r i p H l cap a L w h1 h2 h3 hi hp hH hl hll hl9 hL hR
/-- a stripe's data halves' bytes -/
def strD (H : Nat) (xs : List F) : Nat → Nat → F := fun v b => at8 xs (v * H + b)
theorem img_stripe {k H h c : Nat} {car : Nat → Nat} {xs : List F} (hc : 2 * k ≤ c) : imgL k car H (bytesD ((List.range c).map (hf H xs))) h = imgL k car H (strD H xs) h :=
  img_congr fun v b hv hb => by
    simp only [bytesD, List.getD_eq_getElem?_getD, List.getElem?_map]
    rw [List.getElem?_range (by omega)]
    exact at8_rowF hb
/-- all halves of a stripe -/
def encL (k r H : Nat) (xs : List F) : List (List F) := (List.range (2 * (k + r))).map (imgL k (carN (groupN k r)) H (strD H xs))
theorem encL_len (k r H : Nat) (xs : List F) : (encL k r H xs).length = 2 * (k + r) := by simp [encL]
theorem encL_all {k r H : Nat} {xs ys : List F} (h : ys ∈ encL k r H xs) : ys.length = H := by
  obtain ⟨v, _, rfl⟩ := List.mem_map.1 h
  exact imgL_len _ _ _ _ _
theorem encL_at {k r H h : Nat} {xs : List F} (hh : h < 2 * (k + r)) : (encL k r H xs)[h]? = some (imgL k (carN (groupN k r)) H (strD H xs) h) := by simp [encL, hh]
theorem rencode_illegal (k r : Int) (a : Option Addr) (la ca : Nat) (w : World) (hk0 : -9223372036854775808 ≤ k) (hk1 : k ≤ 9223372036854775807) (hr0 : -9223372036854775808 ≤ r) (hr1 : r ≤ 9223372036854775807) (h : ¬ LegalP k r) :
    Calls Tryd.prog 13 #[.int .i64 k, .int .i64 r, .slice a la ca] w fun e w' => e = .returned (.tuple #[.slice none 0 0, .int .i64 1]) ∧ w = w' := by
  have H : Hid _ := h
  clear h
  go_enter Tryd.func13, Tryd.ntmps13
  go_wp2_with fail
  refine Calls.mono (legal_no k r _ hk0 hk1 hr0 hr1 H.out) ?_
  rintro e w1 ⟨rfl, rfl⟩
  go_wp2_with fail
  go_ret2
  exact ⟨rfl, rfl⟩
theorem rencode_bad (k r : Nat) (a : Option Addr) (la ca : Nat) (w : World) (h1 : 1 ≤ k) (h2 : 2 ≤ r) (h3 : k + r ≤ 16) (h : halfE k la ≠ 0) :
    Calls Tryd.prog 13 #[.int .i64 k, .int .i64 r, .slice a la ca] w fun e w' => e = .returned (.tuple #[.slice none 0 0, .int .i64 (halfE k la)]) ∧ w = w' := by
  have HS : Hid _ := fun u => rsplit_bad k a la ca u h
  have h' : ((halfE k la : Int) != 0) = true := by simp only [bne_iff_ne, ne_eq]; omega
  generalize halfE k la = x at *
  clear h
  go_enter Tryd.func13, Tryd.ntmps13
  go_wp2_with fail
  refine Calls.mono (legal_yes k r _ h1 h2 h3) ?_
  rintro e w1 ⟨rfl, rfl⟩
  go_wp2_with fail
  refine Calls.mono (HS.out _) ?_
  rintro e w1 ⟨rfl, rfl⟩
  go_wp2_with fail
  go_ret2
  exact ⟨rfl, rfl⟩
set_option maxHeartbeats 4000000 in
theorem rencode_ok (k r n ca : Nat) (a : Option Addr) (xs : List F) (w : World) (h1 : 1 ≤ k) (h2 : 2 ≤ r) (h3 : k + r ≤ 16) (h4 : 1 ≤ n) (h5 : n ≤ 128 * k) (hn : n = xs.length) (hx : Row8 w a xs) :
    Calls Tryd.prog 13 #[.int .i64 k, .int .i64 r, .slice a n ca] w fun e w' => ∃ b c cap H, e = .returned (.tuple #[.slice b c cap, .int .i64 0]) ∧ c = 2 * (k + r) ∧ H = cntN (2 * k) n ∧ Rows8 w' b (encL k r H xs) ∧ Below w.heap.size w w' := by
  have HS : Hid _ := rsplit_ok k n ca a xs w h1 (by omega) h4 h5 hn hx
  obtain ⟨k1, k2, _, _⟩ := cnt_half h1 (show k ≤ 14 by omega) h4 h5
  obtain ⟨c, hc⟩ : ∃ c, c = 2 * (k + r) := ⟨_, rfl⟩
  have HKC : Hid ((2 : Int) * ((k : Int) + r) = c) := by show _ = _; omega
  have HCC : Hid _ := hc
  have hc32 : c ≤ 32 := by omega
  clear hn hx hc h5
  go_enter Tryd.func13, Tryd.ntmps13
  go_wp2_with fail
  refine Calls.mono (legal_yes k r _ h1 h2 h3) ?_
  rintro e w1 ⟨rfl, rfl⟩
  go_wp2_with fail
  refine Calls.mono HS.out ?_
  rintro e w2 ⟨b2, c2, cap2, H, rfl, hc2, hH, hr2, hb⟩
  have HC2 : Hid _ := hc2
  have HHH : Hid _ := hH
  have HB2 : Hid _ := hb
  have HR2 : Hid _ := hr2
  have kH : H ≤ 64 := by rw [hH]; exact k2
  have hc20 : 0 < c2 := by omega
  have HIM : Hid (∀ (h : Nat) (u : World), h < c → Below w2.heap.size w2 u → Calls Tryd.prog 23 #[.int .i64 k, .int .i64 r, .int .i64 h, .slice b2 c2 cap2, .int .i64 H] u fun e w' => ∃ g, e = .returned (.slice (some ⟨g, 0, none⟩) H H) ∧ u.heap.size ≤ g ∧
      w'.heap[g]? = some (.cells (vfs (imgL k (carN (groupN k r)) H (strD H xs) h)) 5 (0, 0)) ∧ Below u.heap.size u w') := fun h u hh hu => by
    have := rimage_F k r h H c2 cap2 b2 ((List.range c2).map (hf H xs)) u h1 h2 h3 (by rw [← HCC.out]; exact hh) kH (by simp; omega) (by simp) (by omega) (fun ys hy => by obtain ⟨v, _, rfl⟩ := List.mem_map.1 hy; exact hf_len _ _ _) (rows8_below hr2 hu)
    rwa [img_stripe (by omega)] at this
  obtain ⟨bL, off, rfl, hbL, hcl⟩ := rows8_at hr2 (show 0 < ((List.range c2).map (hf H xs)).length by simp; omega)
  obtain ⟨a0, cap0, e0, _⟩ := hcl 0 (hf H xs 0) (by rw [List.getElem?_map, List.getElem?_range hc20]; rfl)
  rw [hf_len, Nat.add_zero] at e0
  have HE0 : Hid _ := e0
  clear hc2 hH hb hr2 hcl e0
  go_wp2
  have hown : (w2.alloc (.cells #[] 22)).ownsRow w2.heap.size 22 1 (.slice (some ⟨w2.heap.size, 0, none⟩) 0 0) 0 (slsV H []) := ⟨rfl, .inr ⟨w2.heap.size, 0, #[], rfl, Nat.le_refl _, heap_alloc_last _ _, by simp, by simp [maxLen], rfl, rfl⟩⟩
  go_loopw [10, 11] (fun s t wr => ∃ v : Nat, ∃ gs : List Nat, v ≤ c ∧ t = .int .i64 v ∧ gs.length = v ∧ Below w2.heap.size w2 wr ∧ wr.ownsRow w2.heap.size 22 1 s v (slsV H gs) ∧ ∀ (j g : Nat), gs[j]? = some g → wr.heap[g]? = some (.cells (vfs (imgL k (carN (groupN k r)) H (strD H xs) j)) 5 (0, 0))) (fun _ t _ => c - (intOf t).toNat)
  case atStart => exact ⟨0, [], by omega, rfl, rfl, (Below.refl _ _).alloc (Nat.le_refl _) _, hown, fun j g h => by simp at h⟩
  case round =>
    obtain ⟨v, gs, hv, rfl, hgs, hb2, ho, hrows⟩ := hrel
    have HGS : Hid _ := hgs
    have HBR : Hid _ := hb2
    have HO : Hid _ := ho
    have HRO : Hid _ := hrows
    have hkc := HKC.out
    have c1 := cell_later hb2 HE0.out
    clear hgs hb2 hrows hown
    by_cases hlt : v < c
    · clear ho
      go_wp2_with fail
      refine Calls.mono (HIM.out v _ hlt HBR.out) ?_
      rintro e w3 ⟨N, rfl, hN, hh3, hb3⟩
      have hbR : Below w2.heap.size w2 w3 := HBR.out.trans (hb3.mono HBR.out.size)
      have ho4 := World.ownsRow.alloc (own_below HO.out hb3) (.cells #[.slice (some ⟨N, 0, none⟩) H H] 22)
      obtain ⟨g2, capG, w4, hrun, ho2, hgr, hor, hlt2⟩ := appendS (b := w3.heap.size) (c := 1) (x := .slice (some ⟨N, 0, none⟩) H H) 25 ho4 (cellAt (heap_alloc_last w3 (.cells #[.slice (some ⟨N, 0, none⟩) H H] 22)) 0 _ rfl) rfl (by omega) (by have := hbR.size; simp; omega)
      rw [slsV_snoc] at ho2
      have hb6 := below_own (B := w2.heap.size) (hbR.alloc hbR.size (.cells #[.slice (some ⟨N, 0, none⟩) H H] 22)) ho4 hgr (by have := hbR.size; simp; omega)
      have hkeep : ∀ (g : Nat) (ys : List F), w3.heap[g]? = some (.cells (vfs ys) 5 (0, 0)) → w4.heap[g]? = some (.cells (vfs ys) 5 (0, 0)) := fun g ys h =>
        own_other ho4 hgr ((Below.heap_alloc _ _ _ (ltHeap h)).trans h) (by decide)
      have HROW : Hid (∀ (j g : Nat), (gs ++ [N])[j]? = some g → w4.heap[g]? = some (.cells (vfs (imgL k (carN (groupN k r)) H (strD H xs) j)) 5 (0, 0))) := fun j g hj => by
        by_cases hjv : j < v
        · rw [List.getElem?_append_left (by rw [HGS.out]; exact hjv)] at hj
          exact hkeep g _ (heap_later (HRO.out j g hj) hb3)
        · have hj2 : j = v := by
            have := (List.getElem?_eq_some_iff.1 hj).1
            rw [List.length_append, HGS.out, List.length_singleton] at this
            omega
          subst hj2
          rw [List.getElem?_append_right (by rw [HGS.out]; exact Nat.le_refl _), HGS.out, Nat.sub_self] at hj
          obtain rfl := Option.some.inj hj
          exact hkeep _ _ hh3
      have HLEN : Hid ((gs ++ [N]).length = v + 1) := by show _ = _; rw [List.length_append, HGS.out]; rfl
      have HRun : Hid _ := hrun
      have HO2 : Hid _ := ho2
      have HB6 : Hid _ := hb6
      clear hbR ho4 hrun ho2 hb6 hgr hor hlt2 hkeep hb3 hh3 c1
      go_wp2_with (at_builtin; refine wpList_append_run rfl _ _ 25 rfl _ _ _ _ rfl rfl HRun.out ?_)
      exact ⟨⟨v + 1, gs ++ [N], by omega, by go_num, HLEN.out, HB6.out, HO2.out, HROW.out⟩, by simp [intOf]; omega⟩
    · obtain rfl : v = c := by omega
      have hfin : ∃ b cap, u10 = .slice b v cap ∧ Rows8 wr b (encL k r H xs) := by
        rcases ho.2 with ⟨_, h0⟩ | ⟨g, cap, cur, e, hg⟩
        · have := HCC.out; omega
        · refine ⟨some ⟨g, 0, none⟩, cap, e, .inr ⟨g, 0, rfl, fun j ys hj => ?_⟩⟩
          have hjv : j < v := by have := (List.getElem?_eq_some_iff.1 hj).1; rw [encL_len] at this; rw [HCC.out]; exact this
          rw [encL_at (by rw [← HCC.out]; exact hjv)] at hj
          obtain rfl := Option.some.inj hj
          obtain ⟨g', hg'⟩ : ∃ g', gs[j]? = some g' := ⟨_, List.getElem?_eq_getElem (by rw [HGS.out]; exact hjv)⟩
          have hrow := HRO.out j g' hg'
          have hoe := ho
          rw [e] at hoe
          refine ⟨some ⟨g', 0, none⟩, H, ?_, row8_own hrow⟩
          rw [Nat.zero_add, hoe.cellAt j (by rw [Nat.mul_one]; exact hjv), imgL_len]
          simp [slsV, hg']
      obtain ⟨b9, cap9, rfl, hr9⟩ := hfin
      have HR9 : Hid _ := hr9
      clear hr9 ho c1
      go_wp2
      go_ret2
      exact ⟨b9, v, cap9, H, rfl, HCC.out, HHH.out, HR9.out, HB2.out.trans (HBR.out.mono HB2.out.size)⟩
end Go.Proofs.YtmlpijlcpeoeaaaDoor
