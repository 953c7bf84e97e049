/- What Take of package mat answers, of all matrices in form and lists of numbers; nothing that was there turns. -/
import Derived.Test.YtkoakingmnjdoaaGreatDoorMatRow
import Derived.Test.YtkoakingmnjdoaaGreatDoorMatP
namespace Go.Proofs.YtkoakingmnjdoaaGreatDoor
open Go.RowKit Gf
set_option linter.unusedVariables false
set_option maxRecDepth 20000
/-- the first lists of a list of lists -/
def slW (vs : List Value) (r : Nat) : Array Value := (vs ++ List.replicate (r - vs.length) (Value.slice none 0 0)).toArray
theorem slW_nil (r : Nat) : slV 0 [] r = slW [] r := by
  apply Array.ext_getElem?
  intro i
  by_cases h : i < r <;> simp [slV, slW, h]
theorem slW_at {vs : List Value} {r i : Nat} {v : Value} (h : vs[i]? = some v) : (slW vs r)[i]? = some v := by
  have hi := (List.getElem?_eq_some_iff.1 h).1
  simp only [slW, List.getElem?_toArray]
  rw [List.getElem?_append_left hi, h]
theorem slW_next {vs : List Value} {r : Nat} (h : vs.length < r) : (slW vs r)[vs.length]? = some (.slice none 0 0) := by
  simp only [slW, List.getElem?_toArray]
  rw [List.getElem?_append_right (Nat.le_refl _), Nat.sub_self, List.getElem?_replicate, if_pos (by omega)]
theorem slW_set {vs : List Value} {r : Nat} (v : Value) (h : vs.length < r) : (slW vs r).setIfInBounds vs.length v = slW (vs ++ [v]) r := by
  apply Array.ext_getElem?
  intro i
  rw [Array.getElem?_setIfInBounds]
  simp only [slW, List.getElem?_toArray, List.size_toArray, List.length_append, List.length_replicate]
  by_cases hi : vs.length = i
  · subst hi
    rw [if_pos rfl, if_pos (by omega), List.getElem?_append_left (by simp), List.getElem?_append_right (Nat.le_refl _), Nat.sub_self]; rfl
  · rw [if_neg hi]
    by_cases h2 : i < vs.length
    · rw [List.getElem?_append_left h2, List.getElem?_append_left (by simp; omega), List.getElem?_append_left h2]
    · rw [List.getElem?_append_right (by omega), List.getElem?_append_right (by simp; omega)]
      simp only [List.length_append, List.length_cons, List.length_nil, List.getElem?_replicate]
      by_cases h3 : i < r
      · rw [if_pos (by omega), if_pos (by omega)]
      · rw [if_neg (by omega), if_neg (by omega)]
/-- these values are lists of bytes, of c bytes each -/
def Lists8 (w : World) (c : Nat) (vs : List Value) (L : List (List F)) : Prop :=
  vs.length = L.length ∧ ∀ (j : Nat) (v : Value) (xs : List F), vs[j]? = some v → L[j]? = some xs → ∃ (a : Option Addr) (cap : Nat), v = .slice a c cap ∧ xs.length = c ∧ Row8 w a xs
theorem lists8_nil (w : World) (c : Nat) : Lists8 w c [] [] := ⟨rfl, fun j v xs h => by simp at h⟩
theorem lists8_snoc {w : World} {c cap : Nat} {vs : List Value} {L : List (List F)} {a : Option Addr} {xs : List F} (h : Lists8 w c vs L) (hx : xs.length = c) (hr : Row8 w a xs) : Lists8 w c (vs ++ [.slice a c cap]) (L ++ [xs]) := by
  refine ⟨by simp [h.1], fun j v ys hv hy => ?_⟩
  by_cases hj : j < vs.length
  · rw [List.getElem?_append_left hj] at hv
    rw [List.getElem?_append_left (by rw [← h.1]; exact hj)] at hy
    exact h.2 j v ys hv hy
  · have e := (List.getElem?_eq_some_iff.1 hv).1
    simp at e
    obtain rfl : j = vs.length := by omega
    rw [List.getElem?_append_right (Nat.le_refl _), Nat.sub_self] at hv
    rw [h.1, List.getElem?_append_right (Nat.le_refl _), Nat.sub_self] at hy
    obtain rfl := Option.some.inj hv
    obtain rfl := Option.some.inj hy
    exact ⟨a, cap, rfl, hx, hr⟩
theorem lists8_rows {w w' : World} {c M : Nat} {vs : List Value} {L : List (List F)} (h : Lists8 w c vs L) (hb : Below w.heap.size w w') (hc : ∀ j v, vs[j]? = some v → w'.cell? ⟨M, j, none⟩ = some v) : Rows8 w' (some ⟨M, 0, none⟩) L := by
  refine .inr ⟨M, 0, rfl, fun j xs hj => ?_⟩
  have hlt : j < vs.length := by rw [h.1]; exact (List.getElem?_eq_some_iff.1 hj).1
  have hv := List.getElem?_eq_getElem hlt
  obtain ⟨a, cap, e, hx, hr⟩ := h.2 j _ xs hv hj
  refine ⟨a, cap, ?_, row8_below hr hb⟩
  rw [Nat.zero_add, hc j _ hv, e, hx]
theorem lists8_len {w : World} {c : Nat} {vs : List Value} {L : List (List F)} (h : Lists8 w c vs L) : ∀ xs ∈ L, xs.length = c := fun xs hx => by
  obtain ⟨j, hj, e⟩ := List.getElem_of_mem hx
  have hlt : j < vs.length := by rw [h.1]; exact hj
  obtain ⟨a, cap, _, hl, _⟩ := h.2 j _ xs (List.getElem?_eq_getElem hlt) (by rw [List.getElem?_eq_getElem hj, e])
  exact hl
/-- the rows with these numbers -/
def takeM (c : Nat) (xs : List F) (ns : List Int) : List (List F) := ns.map fun n => rowAt c xs n.toNat
set_option maxHeartbeats 1000000 in
theorem take_F (r c l cap ln cn : Nat) (a an : Option Addr) (xs : List F) (ns : List Int) (w : World) (hr : r ≤ 64) (hc : c ≤ 64) (hl : l = r * c) (hx : xs.length = r * c) (hcap : l ≤ cap) (hX : Row8 w a xs) (hnil : a = none → cap = 0)
    (hln : ln = ns.length) (hn : ln ≤ 64) (hN : RowI w an ns) (s : Addr) (hs : w.cell? ⟨3, 0, none⟩ = some (errAt s)) :
    Calls Tryz.prog 89 #[.agg #[.int .i64 r, .int .i64 c, .slice a l cap], .slice an ln cn] w fun e w' =>
      (∀ n ∈ ns, 0 ≤ n ∧ n < r) ∧ (∃ g m, e = .returned (.tuple #[.agg #[.int .i64 ln, .int .i64 c, .slice (some ⟨g, 0, none⟩) m m], .nilIface]) ∧ m = ln * c ∧ w.heap.size ≤ g ∧
        w'.heap[g]? = some (.cells (vfs (takeM c xs ns).flatten) 5 (0, 0)) ∧ Below w.heap.size w w') ∨
      ¬ (∀ n ∈ ns, 0 ≤ n ∧ n < r) ∧ e = .returned (.tuple #[.agg #[.int .i64 0, .int .i64 0, .slice none 0 0], errAt s]) ∧ Below w.heap.size w w' := by
  have hlt0 := World.block_lt_of_cell? w _ hs
  simp at hlt0
  have HL : Hid _ := hl
  have HX : Hid _ := hx
  have HR : Hid (Row8 w a xs) := hX
  have HN : Hid _ := hnil
  have HLN : Hid _ := hln
  have HI : Hid _ := hN
  have HS : Hid _ := hs
  clear hl hx hX hnil hln hN hs
  have hmk := run_makeS ln hn
  rw [slW_nil] at hmk
  unfold errAt at *
  go_enter Tryz.func89, Tryz.ntmps89
  go_wp2_with fail
  refine Calls.mono (check_ok r c a l cap _ hr hc HL.out) ?_
  rintro e w1 ⟨rfl, hb1⟩
  have z1 := hb1.size
  simp only [World.size_alloc] at z1
  have z2 : w.heap.size < w1.heap.size := by omega
  have z3 : w.heap.size + 1 < w1.heap.size := by omega
  have B0' : Hid _ := heap_later (heap_alloc2_old w (.cells #[.int .i64 r, .int .i64 c, .slice a l cap] 73) (.cells #[.int .i64 0, .int .i64 0, .slice none 0 0] 73)) hb1
  have B1' : Hid _ := heap_later (heap_alloc2_new w (.cells #[.int .i64 r, .int .i64 c, .slice a l cap] 73) (.cells #[.int .i64 0, .int .i64 0, .slice none 0 0] 73)) hb1
  have HB1 : Hid (Below w.heap.size w w1) := (((Below.refl w.heap.size w).alloc (Nat.le_refl _) _).alloc (by simp) _).trans (hb1.mono (by simp; omega))
  clear hb1
  go_wp2
  have B0 : Hid _ := (Below.heap_alloc w1 (.cells (slW [] ln) 23) _ z2).trans B0'.out
  have B1 : Hid _ := (Below.heap_alloc w1 (.cells (slW [] ln) 23) _ z3).trans B1'.out
  have B3 : Hid _ := heap_alloc_last w1 (.cells (slW [] ln) 23)
  have B4 : Hid (Below w.heap.size w (w1.alloc (.cells (slW [] ln) 23))) := HB1.out.alloc (by omega) _
  clear HB1 B0' B1' hmk
  generalize hM : w1.heap.size = M at *
  generalize (w1.alloc (.cells (slW [] ln) 23)) = W3 at *
  clear hM
  go_loopw [24] (fun i wr => ∃ k : Nat, ∃ vs : List Value, k ≤ ln ∧ i = .int .i64 k ∧ vs.length = k ∧ W3.grownBy wr (some M) ∧ wr.heap[M]? = some (.cells (slW vs ln) 23 (0, 0)) ∧ Lists8 w c vs (takeM c xs (ns.take k)) ∧ ∀ n ∈ ns.take k, 0 ≤ n ∧ n < r) (fun i _ => ln - (intOf i).toNat)
  case atStart => exact ⟨0, [], by omega, rfl, rfl, World.grownBy.refl _ _, B3.out, by simpa [takeM] using lists8_nil w c, by simp⟩
  case round =>
    obtain ⟨k, vs, hk, rfl, hvs, hgb, hs, hls, hall⟩ := hrel
    have hbw := below_grown B4.out hgb (by omega)
    have k0 := grown_block hgb B0.out (by omega)
    have k1 := grown_block hgb B1.out (by omega)
    have HGB : Hid _ := hgb
    have HG : Hid _ := hs
    have HV : Hid _ := hvs
    have HLS : Hid _ := hls
    have HA : Hid _ := hall
    have HBW : Hid _ := hbw
    by_cases hlt : k < ln
    · have hkn : k < ns.length := by rw [← HLN.out]; exact hlt
      have hget : ns[k]? = some ns[k] := List.getElem?_eq_getElem hkn
      generalize ns[k] = x at hget
      have c0 := cellAt k0 0 _ rfl
      have c1 := cellAt k0 1 _ rfl
      have c2 := cellAt k0 2 _ rfl
      have HGet : Hid _ := hget
      rcases HI.out with e0 | ⟨b, off, rfl, hrows⟩
      · rw [e0] at hkn; simp at hkn
      have c3 := cell_later hbw (hrows k x hget)
      have HK1 : Hid _ := k1
      clear k0 k1 hgb hs hls hall hbw hget hrows hvs
      by_cases hin : 0 ≤ x ∧ x < r
      · obtain ⟨i, rfl⟩ := Int.eq_ofNat_of_zero_le hin.1
        have hi : i < r := by omega
        clear hin
        go_wp2_with (go_at_call 98; refine (there_yes _ _ _ (by omega) (by omega)).mono ?_; rintro e w' ⟨rfl, rfl⟩)
        refine Calls.mono (rowOf_G r c i l cap a xs w _ hr hc hi HL.out HX.out hcap HR.out HN.out) ?_
        rintro e w4 ⟨a', cap', rfl, hr4, hc4, hn4, hs4, hb4⟩
        have hs5 := heap_later HG.out hb4
        have c7 : w4.cell? ⟨M, k, none⟩ = some (.slice none 0 0) := cellAt hs5 k _ (by have e := slW_next (vs := vs) (r := ln) (by rw [HV.out]; exact hlt); rwa [HV.out] at e)
        have c8 : w4.frozen? ⟨M, k, none⟩ = false := frozen_of_row _ _ _ _ _ hs5
        have HGB4 : Hid _ := grown_below HGB.out hb4
        have HG4 : Hid _ := hs5
        have HR4 : Hid _ := hr4
        clear hs5 hb4 hr4 hc4 hn4 hs4 c0 c1 c2 c3
        go_wp2
        refine ⟨⟨k + 1, vs ++ [.slice a' c cap'], by omega, by go_num, by simp [HV.out], grownBy_setCell HGB4.out _, ?_, ?_, ?_⟩, by simp [intOf]; omega⟩
        · have e := slW_set (.slice a' c cap') (vs := vs) (r := ln) (by rw [HV.out]; exact hlt)
          rw [HV.out] at e
          rw [heap_setCell_same _ _ _ _ _ _ HG4.out, e]
        · rw [List.take_succ_eq_append_getElem (by omega)]
          have e2 : ns[k]'(by omega) = (i : Int) := by have := HGet.out; rw [List.getElem?_eq_getElem (by omega)] at this; exact Option.some.inj this
          rw [e2, takeM, List.map_append]
          exact lists8_snoc HLS.out (rowAt_len HX.out hi) HR4.out
        · rw [List.take_succ_eq_append_getElem (by omega)]
          have e2 : ns[k]'(by omega) = (i : Int) := by have := HGet.out; rw [List.getElem?_eq_getElem (by omega)] at this; exact Option.some.inj this
          intro n hn
          rw [e2, List.mem_append, List.mem_singleton] at hn
          rcases hn with hn | rfl
          · exact HA.out n hn
          · omega
      · have HIN : Hid _ := hin
        have c9 := (HBW.out.cell (p := ⟨3, 0, none⟩) hlt0).trans HS.out
        have c4 := cellAt HK1.out 0 _ rfl
        have c5 := cellAt HK1.out 1 _ rfl
        have c6 := cellAt HK1.out 2 _ rfl
        have d4 : wr.frozen? ⟨w.heap.size + 1, 0, none⟩ = false := frozen_of_row _ _ _ _ _ HK1.out
        have d5 : wr.frozen? ⟨w.heap.size + 1, 1, none⟩ = false := frozen_of_row _ _ _ _ _ HK1.out
        have d6 : wr.frozen? ⟨w.heap.size + 1, 2, none⟩ = false := frozen_of_row _ _ _ _ _ HK1.out
        clear hin
        go_wp2_with (go_at_call 98; refine (there_no _ _ _ HIN.out).mono ?_; rintro e w' ⟨rfl, rfl⟩)
        go_region
        go_wp2
        refine bodyPost_ret (v := .tuple #[.agg #[.int .i64 0, .int .i64 0, .slice none 0 0], .iface 191 (.pointer (some s))]) (by simp [results, Tryz.results89, go_sem, c4, c5, c6]) rfl (.inr ⟨fun h => HIN.out (h x (List.mem_of_getElem? HGet.out)), rfl, ?_⟩)
        exact (((HBW.out.drew).setCell (by simp) _).setCell (by simp) _).setCell (by simp) _
    · have e : k = ln := by omega
      subst e
      have hd : ns.take k = ns := List.take_of_length_le (by rw [HLN.out]; exact Nat.le_refl _)
      have c0 := cellAt k0 0 _ rfl
      have c1 := cellAt k0 1 _ rfl
      have c2 := cellAt k0 2 _ rfl
      rw [hd] at hall hls
      have hr8 := lists8_rows hls hbw (M := M) (fun j v hj => cellAt hs j v (slW_at hj))
      have HALL : Hid _ := hall
      have HLL : Hid _ := lists8_len hls
      have HR8 : Hid _ := hr8
      have HL2 : Hid (k = (takeM c xs ns).length) := by show _ = _; rw [takeM, List.length_map]; exact HLN.out
      have HK1 : Hid _ := k1
      clear k0 k1 hgb hs hls hall hbw hvs hd hr8
      go_wp2_with fail
      refine Calls.mono (of_F c k k _ (takeM c xs ns) _ hc HL2.out hn HLL.out HR8.out) ?_
      rintro e w5 ⟨g, m, rfl, hm, hg, hh, hb5⟩
      have k5 := heap_later HK1.out hb5
      have c4 := cellAt k5 0 _ rfl
      have c5 := cellAt k5 1 _ rfl
      have c6 := cellAt k5 2 _ rfl
      have d4 : w5.frozen? ⟨w.heap.size + 1, 0, none⟩ = false := frozen_of_row _ _ _ _ _ k5
      have d5 : w5.frozen? ⟨w.heap.size + 1, 1, none⟩ = false := frozen_of_row _ _ _ _ _ k5
      have d6 : w5.frozen? ⟨w.heap.size + 1, 2, none⟩ = false := frozen_of_row _ _ _ _ _ k5
      have zg := HBW.out.size
      have z5 := ltHeap HK1.out
      have HB5 : Hid (Below w.heap.size w w5) := HBW.out.trans (hb5.mono zg)
      have HH : Hid _ := hh
      have HM : Hid _ := hm
      clear k5 hb5 hh hm c0 c1 c2
      go_wp2
      refine bodyPost_ret (v := .tuple #[.agg #[.int .i64 k, .int .i64 c, .slice (some ⟨g, 0, none⟩) m m], .nilIface]) (by simp [results, Tryz.results89, go_sem, c4, c5, c6]) rfl (.inl ⟨HALL.out, g, m, rfl, HM.out, by omega, ?_, ?_⟩)
      · rw [heap_setCell_other _ _ _ _ (by show g ≠ w.heap.size + 1; omega), heap_setCell_other _ _ _ _ (by show g ≠ w.heap.size + 1; omega), heap_setCell_other _ _ _ _ (by show g ≠ w.heap.size + 1; omega)]
        exact HH.out
      · exact ((HB5.out.setCell (by simp) _).setCell (by simp) _).setCell (by simp) _
end Go.Proofs.YtkoakingmnjdoaaGreatDoor
