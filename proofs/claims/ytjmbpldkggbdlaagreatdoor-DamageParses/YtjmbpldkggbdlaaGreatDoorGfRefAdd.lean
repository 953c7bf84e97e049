/- What the document's own AddScaled of package gf's chapter makes, of all lists: the same list as package gf's; nothing that was there turns. -/
import Derived.Test.YtjmbpldkggbdlaaGreatDoorGfRefDot
import Derived.Test.YtjmbpldkggbdlaaGreatDoorGfApp

namespace Go.Proofs.YtjmbpldkggbdlaaGreatDoor
open Go.RowKit Gf
set_option linter.unusedVariables false
set_option maxRecDepth 20000
theorem scaled_step (c : F) (xs ys : List F) (k : Nat) (h : k < xs.length ∨ k < ys.length) : (scaled c xs ys).take k ++ [ga (at8 xs k) (gm c (at8 ys k))] = (scaled c xs ys).take (k + 1) := by
  have hl : k < (scaled c xs ys).length := by rw [scaled_len]; omega
  rw [List.take_succ_eq_append_getElem hl]
  congr 2
  have := at8_scaled c xs ys k
  rw [← this]; simp [at8, hl]
set_option maxHeartbeats 2000000 in
theorem rscaled_11 (x : F) (ba oa : Nat) (bb ob : Nat) (ca cb : Nat) (xs : List F) (ys : List F) (w : World) (ha : xs.length ≤ 140737488351232) (hb : ys.length ≤ 140737488351232)
    (hx : ∀ j, j < xs.length → w.cell? ⟨ba, oa + j, none⟩ = some (.int .u8 ((at8 xs j).toNat : Int)))
    (hy : ∀ j, j < ys.length → w.cell? ⟨bb, ob + j, none⟩ = some (.int .u8 ((at8 ys j).toNat : Int)))
    : Calls Tryz.prog 123 #[.slice (some ⟨ba, oa, none⟩) xs.length ca, .int .u8 x.toNat, .slice (some ⟨bb, ob, none⟩) ys.length cb] w fun e w' => ∃ g cap, e = .returned (.slice (some ⟨g, 0, none⟩) (scaled x xs ys).length cap) ∧ w.heap.size ≤ g ∧
      Below w.heap.size w w' ∧ Has8 w' g (scaled x xs ys) cap := by
  have HN : Hid ((scaled x xs ys).length = max xs.length ys.length) := scaled_len _ _ _
  have HX : Hid _ := hx
  have HY : Hid _ := hy
  clear hx hy
  go_enter Tryz.func123, Tryz.ntmps123
  go_wp2
  go_loopw [7, 8] (fun o i wr => ∃ k g cap : Nat, k ≤ max xs.length ys.length ∧ i = .int .i64 k ∧ o = .slice (some ⟨g, 0, none⟩) k cap ∧ w.heap.size ≤ g ∧ Below w.heap.size w wr ∧ Has8 wr g ((scaled x xs ys).take k) cap) (fun _ i _ => max xs.length ys.length - (intOf i).toNat)
  case atStart => exact ⟨0, w.heap.size, 0, by omega, rfl, rfl, Nat.le_refl _, (Below.refl _ _).alloc (Nat.le_refl _) _, #[], heap_alloc_last w _, rfl, by simp, by simp [maxLen], by simp⟩
  case round =>
    obtain ⟨k, g, cap, hk, rfl, rfl, hg, hB, hh⟩ := hrel
    have hkl : k ≤ 140737488351232 := by omega
    by_cases hlx : k < xs.length
    · by_cases hly : k < ys.length
      · skip
        have c1 : wr.cell? ⟨ba, oa + k, none⟩ = some (.int .u8 ((at8 xs k).toNat : Int)) := cell_later hB (HX.out k hlx)
        have c2 : wr.cell? ⟨bb, ob + k, none⟩ = some (.int .u8 ((at8 ys k).toNat : Int)) := cell_later hB (HY.out k hly)
        have e0 : ga (at8 xs k) (gm x (at8 ys k)) = ga (at8 xs k) (gm x (at8 ys k)) := by
          rfl
        have HS : Hid _ := scaled_step x xs ys k (by first | exact .inl hlx | exact .inr hly)
        rw [e0] at HS
        have ex := xor_val (at8 xs k) (gm x (at8 ys k))
        obtain ⟨g2, cap2, w2, hrun, hh2, hgr, hat⟩ := append8 (ad := ⟨wr.heap.size, 0, none⟩) (m := 1) (c := 1) (ys := [ga (at8 xs k) (gm x (at8 ys k))]) 61 (has8_below hh ((Below.refl wr.heap.size wr).alloc (Nat.le_refl _) (.cells #[.int .u8 ((ga (at8 xs k) (gm x (at8 ys k))).toNat : Int)] 5))) (show k = _ by rw [List.length_take, HN.out]; omega) rfl (by omega) (fun j hj => by
          have hj0 : j = 0 := by simpa using hj
          subst hj0
          show (wr.alloc _).cell? ⟨wr.heap.size, 0, none⟩ = _
          rw [World.cell?_alloc_at _ _ _ _ rfl]; rfl)
        rw [HS.out] at hh2
        have hg2 : w.heap.size ≤ g2 := by
          have := hB.size
          rcases hat with e | e
          · omega
          · rw [e]; simp; omega
        have hB2 : Below w.heap.size w w2 := grownBy_below (hB.alloc hB.size (.cells #[.int .u8 ((ga (at8 xs k) (gm x (at8 ys k))).toNat : Int)] 5)) hgr hg (by have := hB.size; simp; omega)
        have HH2 : Hid _ := hh2
        have HB2 : Hid _ := hB2
        have HRUN : Hid _ := hrun
        clear hB hh hat hgr hh2 hB2 e0 hrun
        go_wp2_with (first | (at_builtin; refine wpList_append_run rfl _ _ 61 rfl _ _ _ _ rfl rfl HRUN.out ?_) | (go_at_call 121; refine (rmul_F _ _ _).mono ?_; rintro e w' ⟨rfl, rfl⟩))
        exact ⟨⟨k + 1, g2, cap2, by omega, by go_num, rfl, hg2, HB2.out, HH2.out⟩, by simp [intOf]; omega⟩
      · skip
        have c1 : wr.cell? ⟨ba, oa + k, none⟩ = some (.int .u8 ((at8 xs k).toNat : Int)) := cell_later hB (HX.out k hlx)
        have e0 : ga (at8 xs k) (gm x (at8 ys k)) = at8 xs k := by
          rw [at8_over (xs := ys) (by first | exact Nat.zero_le _ | omega), F.mul_zero, F.add_zero]
        have HS : Hid _ := scaled_step x xs ys k (by first | exact .inl hlx | exact .inr hly)
        rw [e0] at HS
        obtain ⟨g2, cap2, w2, hrun, hh2, hgr, hat⟩ := append8 (ad := ⟨wr.heap.size, 0, none⟩) (m := 1) (c := 1) (ys := [at8 xs k]) 61 (has8_below hh ((Below.refl wr.heap.size wr).alloc (Nat.le_refl _) (.cells #[.int .u8 ((at8 xs k).toNat : Int)] 5))) (show k = _ by rw [List.length_take, HN.out]; omega) rfl (by omega) (fun j hj => by
          have hj0 : j = 0 := by simpa using hj
          subst hj0
          show (wr.alloc _).cell? ⟨wr.heap.size, 0, none⟩ = _
          rw [World.cell?_alloc_at _ _ _ _ rfl]; rfl)
        rw [HS.out] at hh2
        have hg2 : w.heap.size ≤ g2 := by
          have := hB.size
          rcases hat with e | e
          · omega
          · rw [e]; simp; omega
        have hB2 : Below w.heap.size w w2 := grownBy_below (hB.alloc hB.size (.cells #[.int .u8 ((at8 xs k).toNat : Int)] 5)) hgr hg (by have := hB.size; simp; omega)
        have HH2 : Hid _ := hh2
        have HB2 : Hid _ := hB2
        have HRUN : Hid _ := hrun
        clear hB hh hat hgr hh2 hB2 e0 hrun
        go_wp2_with (at_builtin; refine wpList_append_run rfl _ _ 61 rfl _ _ _ _ rfl rfl HRUN.out ?_)
        exact ⟨⟨k + 1, g2, cap2, by omega, by go_num, rfl, hg2, HB2.out, HH2.out⟩, by simp [intOf]; omega⟩
    · by_cases hly : k < ys.length
      · skip
        have c2 : wr.cell? ⟨bb, ob + k, none⟩ = some (.int .u8 ((at8 ys k).toNat : Int)) := cell_later hB (HY.out k hly)
        have e0 : ga (at8 xs k) (gm x (at8 ys k)) = gm x (at8 ys k) := by
          rw [at8_over (xs := xs) (by first | exact Nat.zero_le _ | omega), F.zero_add]
        have HS : Hid _ := scaled_step x xs ys k (by first | exact .inl hlx | exact .inr hly)
        rw [e0] at HS
        have ex : bits .xor .u8 0 ((gm x (at8 ys k)).toNat : Int) = ((gm x (at8 ys k)).toNat : Int) := by
          have := xor_val 0 (gm x (at8 ys k))
          rw [F.zero_add] at this
          exact this
        obtain ⟨g2, cap2, w2, hrun, hh2, hgr, hat⟩ := append8 (ad := ⟨wr.heap.size, 0, none⟩) (m := 1) (c := 1) (ys := [gm x (at8 ys k)]) 61 (has8_below hh ((Below.refl wr.heap.size wr).alloc (Nat.le_refl _) (.cells #[.int .u8 ((gm x (at8 ys k)).toNat : Int)] 5))) (show k = _ by rw [List.length_take, HN.out]; omega) rfl (by omega) (fun j hj => by
          have hj0 : j = 0 := by simpa using hj
          subst hj0
          show (wr.alloc _).cell? ⟨wr.heap.size, 0, none⟩ = _
          rw [World.cell?_alloc_at _ _ _ _ rfl]; rfl)
        rw [HS.out] at hh2
        have hg2 : w.heap.size ≤ g2 := by
          have := hB.size
          rcases hat with e | e
          · omega
          · rw [e]; simp; omega
        have hB2 : Below w.heap.size w w2 := grownBy_below (hB.alloc hB.size (.cells #[.int .u8 ((gm x (at8 ys k)).toNat : Int)] 5)) hgr hg (by have := hB.size; simp; omega)
        have HH2 : Hid _ := hh2
        have HB2 : Hid _ := hB2
        have HRUN : Hid _ := hrun
        clear hB hh hat hgr hh2 hB2 e0 hrun
        go_wp2_with (first | (at_builtin; refine wpList_append_run rfl _ _ 61 rfl _ _ _ _ rfl rfl HRUN.out ?_) | (go_at_call 121; refine (rmul_F _ _ _).mono ?_; rintro e w' ⟨rfl, rfl⟩))
        exact ⟨⟨k + 1, g2, cap2, by omega, by go_num, rfl, hg2, HB2.out, HH2.out⟩, by simp [intOf]; omega⟩
      · skip
        have hk' : k = max xs.length ys.length := by omega
        have HK : Hid _ := hk'
        have HB : Hid _ := hB
        have HH : Hid _ := hh
        clear hk' hB hh
        go_wp2
        go_ret
        refine ⟨g, cap, ?_, hg, HB.out, ?_⟩
        · rw [HN.out, ← HK.out]; rfl
        · have := HH.out
          rw [List.take_of_length_le (by rw [HN.out, HK.out]; exact Nat.le_refl _)] at this
          exact this
set_option maxHeartbeats 2000000 in
theorem rscaled_10 (x : F) (ba oa : Nat) (b : Option Addr) (ca cb : Nat) (xs : List F) (w : World) (ha : xs.length ≤ 140737488351232) (hb : 0 ≤ 140737488351232)
    (hx : ∀ j, j < xs.length → w.cell? ⟨ba, oa + j, none⟩ = some (.int .u8 ((at8 xs j).toNat : Int)))
    : Calls Tryz.prog 123 #[.slice (some ⟨ba, oa, none⟩) xs.length ca, .int .u8 x.toNat, .slice b 0 cb] w fun e w' => ∃ g cap, e = .returned (.slice (some ⟨g, 0, none⟩) (scaled x xs []).length cap) ∧ w.heap.size ≤ g ∧
      Below w.heap.size w w' ∧ Has8 w' g (scaled x xs []) cap := by
  have HN : Hid ((scaled x xs []).length = max xs.length 0) := scaled_len _ _ _
  have HX : Hid _ := hx
  clear hx
  go_enter Tryz.func123, Tryz.ntmps123
  go_wp2
  go_loopw [7, 8] (fun o i wr => ∃ k g cap : Nat, k ≤ max xs.length 0 ∧ i = .int .i64 k ∧ o = .slice (some ⟨g, 0, none⟩) k cap ∧ w.heap.size ≤ g ∧ Below w.heap.size w wr ∧ Has8 wr g ((scaled x xs []).take k) cap) (fun _ i _ => max xs.length 0 - (intOf i).toNat)
  case atStart => exact ⟨0, w.heap.size, 0, by omega, rfl, rfl, Nat.le_refl _, (Below.refl _ _).alloc (Nat.le_refl _) _, #[], heap_alloc_last w _, rfl, by simp, by simp [maxLen], by simp⟩
  case round =>
    obtain ⟨k, g, cap, hk, rfl, rfl, hg, hB, hh⟩ := hrel
    have hkl : k ≤ 140737488351232 := by omega
    by_cases hlx : k < xs.length
    · skip
      have c1 : wr.cell? ⟨ba, oa + k, none⟩ = some (.int .u8 ((at8 xs k).toNat : Int)) := cell_later hB (HX.out k hlx)
      have e0 : ga (at8 xs k) (gm x (at8 [] k)) = at8 xs k := by
        rw [at8_over (xs := []) (by first | exact Nat.zero_le _ | omega), F.mul_zero, F.add_zero]
      have HS : Hid _ := scaled_step x xs [] k (by first | exact .inl hlx | exact .inr hly)
      rw [e0] at HS
      obtain ⟨g2, cap2, w2, hrun, hh2, hgr, hat⟩ := append8 (ad := ⟨wr.heap.size, 0, none⟩) (m := 1) (c := 1) (ys := [at8 xs k]) 61 (has8_below hh ((Below.refl wr.heap.size wr).alloc (Nat.le_refl _) (.cells #[.int .u8 ((at8 xs k).toNat : Int)] 5))) (show k = _ by rw [List.length_take, HN.out]; omega) rfl (by omega) (fun j hj => by
        have hj0 : j = 0 := by simpa using hj
        subst hj0
        show (wr.alloc _).cell? ⟨wr.heap.size, 0, none⟩ = _
        rw [World.cell?_alloc_at _ _ _ _ rfl]; rfl)
      rw [HS.out] at hh2
      have hg2 : w.heap.size ≤ g2 := by
        have := hB.size
        rcases hat with e | e
        · omega
        · rw [e]; simp; omega
      have hB2 : Below w.heap.size w w2 := grownBy_below (hB.alloc hB.size (.cells #[.int .u8 ((at8 xs k).toNat : Int)] 5)) hgr hg (by have := hB.size; simp; omega)
      have HH2 : Hid _ := hh2
      have HB2 : Hid _ := hB2
      have HRUN : Hid _ := hrun
      clear hB hh hat hgr hh2 hB2 e0 hrun
      go_wp2_with (at_builtin; refine wpList_append_run rfl _ _ 61 rfl _ _ _ _ rfl rfl HRUN.out ?_)
      exact ⟨⟨k + 1, g2, cap2, by omega, by go_num, rfl, hg2, HB2.out, HH2.out⟩, by simp [intOf]; omega⟩
    · skip
      have hk' : k = max xs.length 0 := by omega
      have HK : Hid _ := hk'
      have HB : Hid _ := hB
      have HH : Hid _ := hh
      clear hk' hB hh
      go_wp2
      go_ret
      refine ⟨g, cap, ?_, hg, HB.out, ?_⟩
      · rw [HN.out, ← HK.out]; rfl
      · have := HH.out
        rw [List.take_of_length_le (by rw [HN.out, HK.out]; exact Nat.le_refl _)] at this
        exact this
set_option maxHeartbeats 2000000 in
theorem rscaled_01 (x : F) (a : Option Addr) (bb ob : Nat) (ca cb : Nat) (ys : List F) (w : World) (ha : 0 ≤ 140737488351232) (hb : ys.length ≤ 140737488351232)
    (hy : ∀ j, j < ys.length → w.cell? ⟨bb, ob + j, none⟩ = some (.int .u8 ((at8 ys j).toNat : Int)))
    : Calls Tryz.prog 123 #[.slice a 0 ca, .int .u8 x.toNat, .slice (some ⟨bb, ob, none⟩) ys.length cb] w fun e w' => ∃ g cap, e = .returned (.slice (some ⟨g, 0, none⟩) (scaled x [] ys).length cap) ∧ w.heap.size ≤ g ∧
      Below w.heap.size w w' ∧ Has8 w' g (scaled x [] ys) cap := by
  have HN : Hid ((scaled x [] ys).length = max 0 ys.length) := scaled_len _ _ _
  have HY : Hid _ := hy
  clear hy
  go_enter Tryz.func123, Tryz.ntmps123
  go_wp2
  go_loopw [7, 8] (fun o i wr => ∃ k g cap : Nat, k ≤ max 0 ys.length ∧ i = .int .i64 k ∧ o = .slice (some ⟨g, 0, none⟩) k cap ∧ w.heap.size ≤ g ∧ Below w.heap.size w wr ∧ Has8 wr g ((scaled x [] ys).take k) cap) (fun _ i _ => max 0 ys.length - (intOf i).toNat)
  case atStart => exact ⟨0, w.heap.size, 0, by omega, rfl, rfl, Nat.le_refl _, (Below.refl _ _).alloc (Nat.le_refl _) _, #[], heap_alloc_last w _, rfl, by simp, by simp [maxLen], by simp⟩
  case round =>
    obtain ⟨k, g, cap, hk, rfl, rfl, hg, hB, hh⟩ := hrel
    have hkl : k ≤ 140737488351232 := by omega
    by_cases hly : k < ys.length
    · skip
      have c2 : wr.cell? ⟨bb, ob + k, none⟩ = some (.int .u8 ((at8 ys k).toNat : Int)) := cell_later hB (HY.out k hly)
      have e0 : ga (at8 [] k) (gm x (at8 ys k)) = gm x (at8 ys k) := by
        rw [at8_over (xs := []) (by first | exact Nat.zero_le _ | omega), F.zero_add]
      have HS : Hid _ := scaled_step x [] ys k (by first | exact .inl hlx | exact .inr hly)
      rw [e0] at HS
      have ex : bits .xor .u8 0 ((gm x (at8 ys k)).toNat : Int) = ((gm x (at8 ys k)).toNat : Int) := by
        have := xor_val 0 (gm x (at8 ys k))
        rw [F.zero_add] at this
        exact this
      obtain ⟨g2, cap2, w2, hrun, hh2, hgr, hat⟩ := append8 (ad := ⟨wr.heap.size, 0, none⟩) (m := 1) (c := 1) (ys := [gm x (at8 ys k)]) 61 (has8_below hh ((Below.refl wr.heap.size wr).alloc (Nat.le_refl _) (.cells #[.int .u8 ((gm x (at8 ys k)).toNat : Int)] 5))) (show k = _ by rw [List.length_take, HN.out]; omega) rfl (by omega) (fun j hj => by
        have hj0 : j = 0 := by simpa using hj
        subst hj0
        show (wr.alloc _).cell? ⟨wr.heap.size, 0, none⟩ = _
        rw [World.cell?_alloc_at _ _ _ _ rfl]; rfl)
      rw [HS.out] at hh2
      have hg2 : w.heap.size ≤ g2 := by
        have := hB.size
        rcases hat with e | e
        · omega
        · rw [e]; simp; omega
      have hB2 : Below w.heap.size w w2 := grownBy_below (hB.alloc hB.size (.cells #[.int .u8 ((gm x (at8 ys k)).toNat : Int)] 5)) hgr hg (by have := hB.size; simp; omega)
      have HH2 : Hid _ := hh2
      have HB2 : Hid _ := hB2
      have HRUN : Hid _ := hrun
      clear hB hh hat hgr hh2 hB2 e0 hrun
      go_wp2_with (first | (at_builtin; refine wpList_append_run rfl _ _ 61 rfl _ _ _ _ rfl rfl HRUN.out ?_) | (go_at_call 121; refine (rmul_F _ _ _).mono ?_; rintro e w' ⟨rfl, rfl⟩))
      exact ⟨⟨k + 1, g2, cap2, by omega, by go_num, rfl, hg2, HB2.out, HH2.out⟩, by simp [intOf]; omega⟩
    · skip
      have hk' : k = max 0 ys.length := by omega
      have HK : Hid _ := hk'
      have HB : Hid _ := hB
      have HH : Hid _ := hh
      clear hk' hB hh
      go_wp2
      go_ret
      refine ⟨g, cap, ?_, hg, HB.out, ?_⟩
      · rw [HN.out, ← HK.out]; rfl
      · have := HH.out
        rw [List.take_of_length_le (by rw [HN.out, HK.out]; exact Nat.le_refl _)] at this
        exact this
set_option maxHeartbeats 2000000 in
theorem rscaled_00 (x : F) (a : Option Addr) (b : Option Addr) (ca cb : Nat) (w : World) (ha : 0 ≤ 140737488351232) (hb : 0 ≤ 140737488351232)
    : Calls Tryz.prog 123 #[.slice a 0 ca, .int .u8 x.toNat, .slice b 0 cb] w fun e w' => ∃ g cap, e = .returned (.slice (some ⟨g, 0, none⟩) (scaled x [] []).length cap) ∧ w.heap.size ≤ g ∧
      Below w.heap.size w w' ∧ Has8 w' g (scaled x [] []) cap := by
  have HN : Hid ((scaled x [] []).length = max 0 0) := scaled_len _ _ _
  go_enter Tryz.func123, Tryz.ntmps123
  go_wp2
  go_loopw [7, 8] (fun o i wr => ∃ k g cap : Nat, k ≤ max 0 0 ∧ i = .int .i64 k ∧ o = .slice (some ⟨g, 0, none⟩) k cap ∧ w.heap.size ≤ g ∧ Below w.heap.size w wr ∧ Has8 wr g ((scaled x [] []).take k) cap) (fun _ i _ => max 0 0 - (intOf i).toNat)
  case atStart => exact ⟨0, w.heap.size, 0, by omega, rfl, rfl, Nat.le_refl _, (Below.refl _ _).alloc (Nat.le_refl _) _, #[], heap_alloc_last w _, rfl, by simp, by simp [maxLen], by simp⟩
  case round =>
    obtain ⟨k, g, cap, hk, rfl, rfl, hg, hB, hh⟩ := hrel
    have hkl : k ≤ 140737488351232 := by omega
    have hk' : k = max 0 0 := by omega
    have HK : Hid _ := hk'
    have HB : Hid _ := hB
    have HH : Hid _ := hh
    clear hk' hB hh
    go_wp2
    go_ret
    refine ⟨g, cap, ?_, hg, HB.out, ?_⟩
    · rw [HN.out, ← HK.out]; rfl
    · have := HH.out
      rw [List.take_of_length_le (by rw [HN.out, HK.out]; exact Nat.le_refl _)] at this
      exact this
theorem rscaled_F (x : F) (a b : Option Addr) (la ca lb cb : Nat) (xs ys : List F) (w : World) (hla : la = xs.length) (hlb : lb = ys.length) (ha : la ≤ 140737488351232) (hb : lb ≤ 140737488351232)
    (hx : Row8 w a xs) (hy : Row8 w b ys) :
    Calls Tryz.prog 123 #[.slice a la ca, .int .u8 x.toNat, .slice b lb cb] w fun e w' => ∃ g cap, e = .returned (.slice (some ⟨g, 0, none⟩) (scaled x xs ys).length cap) ∧ w.heap.size ≤ g ∧
      Below w.heap.size w w' ∧ Has8 w' g (scaled x xs ys) cap := by
  subst hla hlb
  rcases hx with rfl | ⟨ba, oa, rfl, hx⟩
  · rcases hy with rfl | ⟨bb, ob, rfl, hy⟩
    · exact rscaled_00 x a b ca cb w ha hb
    · exact rscaled_01 x a bb ob ca cb ys w ha hb hy
  · rcases hy with rfl | ⟨bb, ob, rfl, hy⟩
    · exact rscaled_10 x ba oa b ca cb xs w ha hb hx
    · exact rscaled_11 x ba oa bb ob ca cb xs ys w ha hb hx hy
end Go.Proofs.YtjmbpldkggbdlaaGreatDoor
