/- Facts for the statement MatPlaces: refusals of Take, two lists apart, the document's own Row, an append in a drawn region. -/
import Derived.Test.YtanmgpgiepkogaaDoorMatTake
import Derived.Test.YtanmgpgiepkogaaDoorRegHeld
import Derived.Test.YtanmgpgiepkogaaDoorNumApart
import Derived.Laws.OwnMore
import Derived.Test.YtanmgpgiepkogaaDoorRef2
import Derived.Test.YtanmgpgiepkogaaDoorMatRow
import Derived.Test.YtanmgpgiepkogaaDoorRefOf
namespace Go.Proofs.YtanmgpgiepkogaaDoor
open Go.RowKit Gf
set_option linter.unusedVariables false
set_option maxRecDepth 20000
theorem wanted_append_run {P : Program} {w : World} {o : Oper} {a : Act} {K : Act → World → Prop} {Q : Exit → Act → World → Prop} {ys : Nat → Option Bool} {L : Prop} (hgd : o.guard = none) (s x : Operand) (t : TypeId)
    (ho : o.op = .call { callee := .builtin .append, args := #[s, x], argTypes := #[t, t] }) (v u r : Value) (w' : World) (hs : a.eval s = v) (hx : a.eval x = u)
    (hr : (Builtin.append_ #[t, t] o.type #[v, u]).run P w = .ok r w') (h : K (a.put o.dst r) w') : if Region.wanted o ys = true then Oper.wp P o a w K Q else L := by
  rw [if_pos (by simp [Region.wanted, hgd])]
  unfold Oper.wp execOp
  simp only [ho, resolve, invoke, builtin, Sem.run_bind, Sem.run_pure, Result.andThen_ok, List.map_toArray, List.map_cons, List.map_nil, hs, hx, hr]
  exact h
theorem kind_ne {w : World} {a b : Nat} {cs ds : Array Value} {t u : TypeId} {f1 f2 : Nat × Nat} (h1 : w.heap[a]? = some (.cells cs t f1)) (h2 : w.heap[b]? = some (.cells ds u f2)) (h : t ≠ u) : a ≠ b := fun e => by
  subst e; rw [h1] at h2; cases h2; exact h rfl
theorem grown_some {w w' : World} (g : Nat) (h : w.grownBy w' none) : w.grownBy w' (some g) := ⟨h.os, h.tape, h.output, h.size, fun k hk _ => h.block k hk (by simp)⟩
theorem grown_keep {w w' : World} {r : Option Nat} {k : Nat} {o : Obj} (h : w.grownBy w' r) (hk : w.heap[k]? = some o) (hne : some k ≠ r) : w'.heap[k]? = some o := (h.block k (Array.getElem?_eq_some_iff.1 hk).1 hne).trans hk

theorem has8_take {w : World} {g cap : Nat} {xs : List F} (h : Has8 w g xs cap) (m : Nat) : Has8 w g (xs.take m) cap := by
  obtain ⟨cur, hg, hs, hl, hm, ht⟩ := h
  refine ⟨cur, hg, hs, by rw [List.length_take]; omega, hm, ?_⟩
  rw [List.map_take, ← ht, List.take_take, List.length_take]
theorem row8_grown {w w' : World} {r : Option Nat} {g : Nat} {xs : List F} (h : Row8 w (some ⟨g, 0, none⟩) xs) (hb : w.grownBy w' r) (hg : g < w.heap.size) (hne : some g ≠ r) : Row8 w' (some ⟨g, 0, none⟩) xs := by
  rcases h with e | ⟨b, off, e, h⟩
  · exact .inl e
  · cases e
    refine .inr ⟨g, 0, rfl, fun j hj => ?_⟩
    rw [← h j hj]
    simp only [World.cell?, hb.block g hg hne]
theorem append8_both {w : World} {g n cap : Nat} {xs ys : List F} {ad : Addr} {m c : Nat} (ty : TypeId) (h : Has8 w g xs cap) (hn : n = xs.length) (hm : m = ys.length) (hb : n + m ≤ 140737488355328)
    (hy : ∀ j, j < ys.length → w.cell? (ad.add j) = some (.int .u8 ((at8 ys j).toNat : Int))) :
    ∃ g' cap' w', (Builtin.append_ #[31, 31] ty #[.slice (some ⟨g, 0, none⟩) n cap, .slice (some ad) m c]).run Tryd.prog w = .ok (.slice (some ⟨g', 0, none⟩) (n + m) cap') w' ∧
      Has8 w' g' (xs ++ ys) cap' ∧ w.grownBy w' (some g) ∧ (g' = g ∨ w.heap.size ≤ g' ∧ w.grownBy w' none) := by
  by_cases hroom : n + m ≤ cap
  · subst hn hm
    obtain ⟨i, hi, h1, h2, h3⟩ := info8
    obtain ⟨cur, hg, hs, hl, hmx, ht⟩ := h
    have hown : w.ownsRow 0 5 1 (.slice (some ⟨g, 0, none⟩) xs.length cap) xs.length (xs.map vf) :=
      ⟨by simp, .inr ⟨g, cap, cur, rfl, Nat.zero_le _, hg, hl, hmx, by omega, by rw [Nat.mul_one]; exact ht⟩⟩
    obtain ⟨w', hrun, ho, hgr⟩ := run_append_fits (P := Tryd.prog) w 0 31 ty 5 i 1 Tryd.underlying31 hi h1 g xs.length cap _ hown ad ys.length c (ys.map vf) (by simp) (fun j v hv => by
        simp only [List.getElem?_map, Option.map_eq_some_iff] at hv
        obtain ⟨x, hx1, rfl⟩ := hv
        have hj : j < ys.length := (List.getElem?_eq_some_iff.1 hx1).1
        have e : at8 ys j = x := by simp [at8, hx1]
        rw [hy j hj, e]; rfl) (fun v hv => by
        simp only [List.mem_map] at hv
        obtain ⟨x, _, rfl⟩ := hv
        rfl) hroom
    rcases ho.2 with ⟨hv, _⟩ | ⟨g', cap', cur', hv, _, hg', hl', hm', hs', ht'⟩
    · cases hv
    · cases hv
      exact ⟨g, cap, w', hrun, ⟨cur', hg', by omega, by simpa using hl', hm', by rw [List.length_append, List.map_append, ← ht', Nat.mul_one]⟩, hgr, .inl rfl⟩
  · obtain ⟨g', cap', w', h1, h2, h3, h4⟩ := append8_grows (cap := cap) (m := m) (c := c) ty (row8_has h) hn hm (by omega) hb hy
    exact ⟨g', cap', w', h1, h2, ⟨h3.os, h3.tape, h3.output, h3.size, fun k hk _ => h3.block k hk (by simp)⟩, .inr ⟨h4, h3⟩⟩
set_option maxHeartbeats 4000000 in
theorem apart_H (a : Option Addr) (n ca gb m cb : Nat) (xs ys : List F) (w : World) (hn : n = xs.length) (hm : m = ys.length) (hb : m ≤ 140737488351232)
    (hx : ∀ w', w.grownBy w' (some gb) → Row8 w' a xs) (hy : Has8 w gb ys cb) :
    Calls Tryd.prog 31 #[.slice a n ca, .slice (some ⟨gb, 0, none⟩) m cb] w fun e w' => e = .returned (.bool true) ∧ w.grownBy w' (some gb) ∧ Row8 w' (some ⟨gb, 0, none⟩) (ys.map fl) := by
  have k0 := conv8 (ca := ca) hn (hx w (grownBy_refl _ _))
  have hgb : gb < w.heap.size := by obtain ⟨cur, hg, _⟩ := hy; exact (Array.getElem?_eq_some_iff.1 hg).1
  have HX : Hid _ := hx
  have HY : Hid _ := hy
  have HN : Hid _ := hn
  have HM : Hid _ := hm
  clear hx hy hn hm
  go_enter Tryd.func31, Tryd.ntmps31
  go_wp2
  clear k0
  go_loopw [13] (fun i wr => ∃ k : Nat, k ≤ m ∧ i = .int .i64 k ∧ w.grownBy wr (some gb) ∧ Has8 wr gb (flTo ys k) cb) (fun i _ => m - (intOf i).toNat)
  case atStart => exact ⟨0, by omega, rfl, grownBy_refl _ _, by rw [flTo_zero]; exact HY.out⟩
  case round =>
    obtain ⟨k, hk, rfl, hg1, hh1⟩ := hrel
    by_cases hlt : k < m
    · have hky : k < ys.length := by have := HM.out; omega
      obtain ⟨c1, c2⟩ := has8_cell (j := k) hh1 (by rw [flTo_len]; exact hky)
      rw [flTo_at] at c1
      have ex := fl_val (at8 ys k)
      have HG : Hid _ := hg1
      have HH : Hid _ := hh1
      have HS : Hid _ := flTo_succ ys k hky
      have HK : Hid _ := has8_set (j := k) hh1 (by rw [flTo_len]; exact hky) (fl (at8 ys k))
      clear hg1 hh1
      go_wp2
      exact ⟨⟨k + 1, by omega, by go_num, grownBy_setCell HG.out _, by rw [← HS.out]; exact HK.out⟩, by simp [intOf]; omega⟩
    · have hk' : k = ys.length := by have := HM.out; omega
      have hh2 : Has8 wr gb (ys.map fl) cb := by rw [hk', flTo_all] at hh1; exact hh1
      have k1 := conv8 (ca := ca) HN.out (HX.out wr hg1)
      have hsz := hg1.size
      have hh2' : Has8 (wr.alloc (.cells (vfs sevens) 5)) gb (ys.map fl) cb := has8_grown hh2 (World.grownBy_alloc wr _ none) (by simp)
      obtain ⟨g2, cap2, w2, hrun, hs2, hgr2, hge2⟩ := append8_both (n := m) (ys := sevens) (ad := ⟨wr.heap.size, 0, none⟩) (m := 8) (c := 8) 31
        hh2' (by have := HM.out; simpa using this) rfl (by omega) (fun j hj => by
          have hadd : (⟨wr.heap.size, 0, none⟩ : Addr).add j = ⟨wr.heap.size, j, none⟩ := by unfold Addr.add; split <;> simp_all
          rw [hadd, World.cell?_alloc_at _ _ _ _ rfl, vfs_get _ _ hj])
      have hgr3 : w.grownBy w2 (some gb) := grownBy_trans (grownBy_trans hg1 (World.grownBy_alloc wr (.cells (vfs sevens) 5) none) (by simp)) hgr2 (fun j _ h => h)
      have hge : g2 = gb ∨ wr.heap.size + 1 ≤ g2 ∧ Has8 w2 gb (ys.map fl) cb := by
        rcases hge2 with e | ⟨e1, e2⟩
        · exact .inl e
        · simp only [World.size_alloc] at e1
          exact .inr ⟨e1, has8_grown hh2' e2 (by simp)⟩
      have HSV : Hid (vfs sevens = #[.int .u8 7, .int .u8 7, .int .u8 7, .int .u8 7, .int .u8 7, .int .u8 7, .int .u8 7, .int .u8 7]) := rfl
      have HR : Hid _ := hrun
      have HS2 : Hid _ := hs2
      have HG3 : Hid _ := hgr3
      have HGE : Hid _ := hge
      have HL : Hid ((ys.map fl).length = m) := by have := HM.out; show _ = _; rw [List.length_map]; exact this.symm
      have HLS : Hid ((ys.map fl ++ sevens).length = m + 8) := by show _ = _; rw [List.length_append, HL.out]; rfl
      have HK : Hid _ := hk'
      clear hg1 hh1 hh2 hh2' hrun hs2 hgr3 hgr2 hge2 hge hk'
      go_wp2_with (at_builtin; rw [← HSV.out]; refine wpList_append_run rfl _ _ 31 rfl _ _ _ _ rfl rfl HR.out ?_)
      clear k1
      go_loopw [8] (fun i wv => ∃ j : Nat, ∃ zs : List F, j ≤ 8 ∧ i = .int .i64 ((m + j : Nat) : Int) ∧ zs.length = m + 8 ∧ zs.take m = ys.map fl ∧ w2.grownBy wv (some g2) ∧ Has8 wv g2 zs cap2) (fun i _ => m + 8 - (intOf i).toNat)
      case atStart => exact ⟨0, _, by omega, rfl, HLS.out, by rw [← HL.out, List.take_left'] ; rfl, grownBy_refl _ _, HS2.out⟩
      case round =>
        obtain ⟨j, zs, hj, rfl, hz, hzt, hgv, hhv⟩ := hrel
        by_cases hlt2 : j < 8
        · obtain ⟨c1, c2⟩ := has8_cell (j := m + j) hhv (by omega)
          have ex := fl_val (at8 zs (m + j))
          have HG : Hid _ := hgv
          have HS : Hid _ := has8_set (j := m + j) hhv (by omega) (fl (at8 zs (m + j)))
          have HZ : Hid _ := hz
          have HZT : Hid _ := hzt
          clear hgv hhv hz hzt
          go_wp2
          exact ⟨⟨j + 1, zs.set (m + j) (fl (at8 zs (m + j))), by omega, by go_num, by rw [List.length_set]; exact HZ.out, by rw [List.take_set_of_le (by omega)]; exact HZT.out, grownBy_setCell HG.out _, HS.out⟩, by simp [intOf]; omega⟩
        · have hj8 : j = 8 := by omega
          have hfin : w.grownBy wr (some gb) := grownBy_trans HG3.out hgv (fun q hq hne => by
            rcases HGE.out with e | e
            · rw [e]; exact hne
            · simp; omega)
          have hhb : Row8 wr (some ⟨gb, 0, none⟩) (ys.map fl) := by
            rcases HGE.out with e | ⟨e, h⟩
            · subst e
              have := has8_take hhv m
              rw [hzt] at this
              exact row8_has this
            · exact row8_has (has8_grown h hgv (by simp; omega))
          have k2 := conv8 (ca := ca) HN.out (HX.out wr hfin)
          have HF : Hid _ := hfin
          have HB : Hid _ := hhb
          clear hgv hhv hfin hhb hz hzt
          subst hj8
          go_wp2
          go_ret
          exact ⟨rfl, HF.out, HB.out⟩
/-- the second list nil -/
theorem append8_nil (w : World) {ys : List F} {ad : Addr} {m c : Nat} (ty : TypeId) (hm : m = ys.length) (h0 : 0 < m) (hb : m ≤ 140737488355328)
    (hy : ∀ j, j < ys.length → w.cell? (ad.add j) = some (.int .u8 ((at8 ys j).toNat : Int))) :
    ∃ g' cap' w', (Builtin.append_ #[31, 31] ty #[.slice none 0 0, .slice (some ad) m c]).run Tryd.prog w = .ok (.slice (some ⟨g', 0, none⟩) m cap') w' ∧
      Has8 w' g' ys cap' ∧ w.grownBy w' none ∧ w.heap.size ≤ g' := by
  subst hm
  obtain ⟨i, hi, h1, h2, h3⟩ := info8
  obtain ⟨v', w', hrun, ho, hgr, hnil, hat⟩ := run_append_own_at (P := Tryd.prog) w w.heap.size 31 ty 5 i _ 1 1 Tryd.underlying31 hi h3 h1 h2 rfl (by decide)
    (.slice none 0 0) 0 [] ⟨rfl, .inl ⟨rfl, rfl⟩⟩ ad ys.length c (ys.map vf) (by simp) (fun j v hv => by
      simp only [List.getElem?_map, Option.map_eq_some_iff] at hv
      obtain ⟨x, hx1, rfl⟩ := hv
      have hj : j < ys.length := (List.getElem?_eq_some_iff.1 hx1).1
      have e : at8 ys j = x := by simp [at8, hx1]
      rw [hy j hj, e]; rfl) (fun v hv => by
      simp only [List.mem_map] at hv
      obtain ⟨x, _, rfl⟩ := hv
      rfl) (by simp only [maxLen]; omega) (by omega) (Nat.le_refl _)
  rcases ho.2 with ⟨hv, hn⟩ | ⟨g', cap', cur', hv, hg, hg', hl', hm', hs', ht'⟩
  · have := (hnil.1 hv).2
    omega
  · subst hv
    refine ⟨g', cap', w', by rw [hrun, Nat.zero_add], ⟨cur', hg', by omega, by simpa using hl', hm', ?_⟩, hgr, hg⟩
    rw [← List.nil_append (ys.map vf), ← ht', Nat.mul_one, Nat.zero_add]
set_option maxHeartbeats 4000000 in
theorem apart_nil (a : Option Addr) (n ca : Nat) (xs : List F) (w : World) (hn : n = xs.length) (hx : ∀ w', w.grownBy w' none → Row8 w' a xs) :
    Calls Tryd.prog 31 #[.slice a n ca, .slice none 0 0] w fun e w' => e = .returned (.bool true) ∧ w.grownBy w' none := by
  have k0 := conv8 (ca := ca) hn (hx w (grownBy_refl _ _))
  have HX : Hid _ := hx
  have HN : Hid _ := hn
  clear hx hn
  go_enter Tryd.func31, Tryd.ntmps31
  go_wp2
  go_loopw [13] (fun i wr => i = .int .i64 0 ∧ w = wr) (fun i _ => 0)
  case atStart => exact ⟨rfl, rfl⟩
  case round =>
    obtain ⟨rfl, rfl⟩ := hrel
    obtain ⟨g2, cap2, w2, hrun, hs2, hgr2, hge2⟩ := append8_nil (w.alloc (.cells (vfs sevens) 5)) (ys := sevens) (ad := ⟨w.heap.size, 0, none⟩) (m := 8) (c := 8) 31 rfl (by omega) (by omega) (fun j hj => by
          have hadd : (⟨w.heap.size, 0, none⟩ : Addr).add j = ⟨w.heap.size, j, none⟩ := by unfold Addr.add; split <;> simp_all
          rw [hadd, World.cell?_alloc_at _ _ _ _ rfl, vfs_get _ _ hj])
    have hgr3 : w.grownBy w2 none := grownBy_trans (World.grownBy_alloc w (.cells (vfs sevens) 5) none) hgr2 (by simp)
    have HSV : Hid (vfs sevens = #[.int .u8 7, .int .u8 7, .int .u8 7, .int .u8 7, .int .u8 7, .int .u8 7, .int .u8 7, .int .u8 7]) := rfl
    have HR : Hid _ := hrun
    have HS2 : Hid _ := hs2
    have HG3 : Hid _ := hgr3
    have HGE : Hid (w.heap.size ≤ g2) := by simp only [World.size_alloc] at hge2; show _ ≤ _; omega
    clear hrun hs2 hgr3 hgr2 hge2
    go_wp2_with (at_builtin; rw [← HSV.out]; refine wpList_append_run rfl _ _ 31 rfl _ _ _ _ rfl rfl HR.out ?_)
    clear k0
    go_loopw [8] (fun i wv => ∃ j : Nat, ∃ zs : List F, j ≤ 8 ∧ i = .int .i64 (j : Int) ∧ zs.length = 8 ∧ w2.grownBy wv (some g2) ∧ Has8 wv g2 zs cap2) (fun i _ => 8 - (intOf i).toNat)
    case atStart => exact ⟨0, _, by omega, rfl, rfl, grownBy_refl _ _, HS2.out⟩
    case round =>
      obtain ⟨j, zs, hj, rfl, hz, hgv, hhv⟩ := hrel
      by_cases hlt2 : j < 8
      · obtain ⟨c1, c2⟩ := has8_cell (j := j) hhv (by omega)
        have ex := fl_val (at8 zs j)
        have HG : Hid _ := hgv
        have HS : Hid _ := has8_set (j := j) hhv (by omega) (fl (at8 zs j))
        have HZ : Hid _ := hz
        clear hgv hhv hz
        go_wp2
        exact ⟨⟨j + 1, zs.set j (fl (at8 zs j)), by omega, by go_num, by rw [List.length_set]; exact HZ.out, grownBy_setCell HG.out _, HS.out⟩, by simp [intOf]; omega⟩
      · have hj8 : j = 8 := by omega
        have hfin : w.grownBy wr none := grownBy_trans HG3.out hgv (fun q hq _ => by have := HGE.out; simp; omega)
        have k2 := conv8 (ca := ca) HN.out (HX.out wr hfin)
        have HF : Hid _ := hfin
        clear hgv hhv hfin hz
        subst hj8
        go_wp2
        go_ret
        exact ⟨rfl, HF.out⟩

end Go.Proofs.YtanmgpgiepkogaaDoor
