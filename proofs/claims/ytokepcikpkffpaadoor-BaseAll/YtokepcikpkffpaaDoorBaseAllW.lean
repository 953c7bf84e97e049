/- The walk of BaseAll: at all numbers. -/
import Derived.Test.YtokepcikpkffpaaDoorAllL
import Derived.Test.YtokepcikpkffpaaDoorBaseA
import Derived.Test.YtokepcikpkffpaaDoorErrs
namespace Go.Proofs.YtokepcikpkffpaaDoor
open Go.RowKit Go.Shelf Gf
set_option linter.unusedVariables false
set_option maxRecDepth 20000
attribute [local go_sem] Oper.semAt_some
def gsBaseB : List Nat := [0, 1]
/-- what stands between two rounds of a range -/
def AllI (w0 : World) (b0 nb kb rb : Nat) (sb : Nat) (stop : Int) (ds : List Deferred) (res : Nat) (pre : List (Int × Int)) (W : World) : Prop :=
  (pre <+: allPairs ∧ W.heap[nb]? = some (.cells #[.int .i64 (pre.length : Int)] 3 (0, 0)) ∧ W.heap[kb]? = some (.cells #[.int .i64 (stP pre.length).1] 3 (0, 0)) ∧ W.heap[rb]? = some (.cells #[.int .i64 (stP pre.length).2] 3 (0, 0)) ∧
    W.heap[sb]? = some (.cells #[.int .i64 stop] 3 (0, 0)) ∧ W.heap[res]? = some (.cells #[.bool false] 4 (0, 0))) ∧ Marks b0 W ds ∧ Below b0 w0 W
def AllX (w0 : World) (b0 nb : Nat) (sb : Nat) (stop : Int) (ds : List Deferred) (res : Nat) (c : Code) (pre : List (Int × Int)) (W : World) : Prop :=
  (c = .ret ∧ ¬ pre <+: allPairs) ∨ (c = .exit 2 ∧ (W.heap[nb]? = some (.cells #[.int .i64 stop] 3 (0, 0)) ∧
    W.heap[sb]? = some (.cells #[.int .i64 stop] 3 (0, 0)) ∧ W.heap[res]? = some (.cells #[.bool false] 4 (0, 0))) ∧ Marks b0 W ds ∧ Below b0 w0 W)
theorem cells_from {W W' : World} {row : Option Nat} {B k : Nat} {cs : Array Value} {t : TypeId} {fr : Nat × Nat} (h : W.heap[k]? = some (.cells cs t fr)) (hg : W.grownBy W' row) (hr : ∀ r, row = some r → B ≤ r ∧ ∃ o : Obj, W.heap[r]? = some o ∧ o.isCells = false) : W'.heap[k]? = some (.cells cs t fr) :=
  (hg.block k (Array.getElem?_eq_some_iff.1 h).1 (fun e => by
    obtain ⟨_, o, ho, hc⟩ := hr k e.symm
    rw [h] at ho; cases ho; cases hc)).trans h
theorem marks_from {W W' : World} {row : Option Nat} {B b0 : Nat} {ds : List Deferred} (hB : ∀ D, ({ target := .collected D, args := #[] } : Deferred) ∈ ds → D < B) (h : Marks b0 W ds) (hg : W.grownBy W' row) (hr : ∀ r, row = some r → B ≤ r ∧ ∃ o : Obj, W.heap[r]? = some o ∧ o.isCells = false) : Marks b0 W' ds :=
  marks_kept (fun D hd hD => (hg.block D (Array.getElem?_eq_some_iff.1 hD).1 (fun e => by
    have := (hr D e.symm).1
    have := hB D hd
    omega)).trans hD) h
theorem allI_from {w0 : World} {b0 nb kb rb sb : Nat} {stop : Int} {ds : List Deferred} {res B : Nat} (hB : ∀ D, ({ target := .collected D, args := #[] } : Deferred) ∈ ds → D < B) (h1 : b0 ≤ w0.heap.size) (h2 : b0 ≤ B) : OwnFrom B (AllI w0 b0 nb kb rb sb stop ds res) := fun s W W' row hs hg hr =>
  ⟨⟨hs.1.1, cells_from hs.1.2.1 hg hr, cells_from hs.1.2.2.1 hg hr, cells_from hs.1.2.2.2.1 hg hr, cells_from hs.1.2.2.2.2.1 hg hr, cells_from hs.1.2.2.2.2.2 hg hr⟩, marks_from hB hs.2.1 hg hr, ownFrom_below (β := Unit) h1 h2 () W W' row hs.2.2 hg hr⟩
theorem allX_from {w0 : World} {b0 nb sb : Nat} {stop : Int} {ds : List Deferred} {res B : Nat} (hB : ∀ D, ({ target := .collected D, args := #[] } : Deferred) ∈ ds → D < B) (h1 : b0 ≤ w0.heap.size) (h2 : b0 ≤ B) (c : Code) : OwnFrom B (AllX w0 b0 nb sb stop ds res c) := fun s W W' row hs hg hr => by
  rcases hs with h | ⟨e, ⟨a, b, c⟩, m, hb⟩
  · exact .inl h
  · exact .inr ⟨e, ⟨cells_from a hg hr, cells_from b hg hr, cells_from c hg hr⟩, marks_from hB m hg hr, ownFrom_below (β := Unit) h1 h2 () W W' row hb hg hr⟩
set_option maxHeartbeats 4000000 in
theorem all_in (F : Fence) (n : Nat) (h5 : F.fn 19) (hro : F.round = none) (w : World) : CallsIn F n Tryd.prog 19 #[] w fun e w' => e = .returned (.func (.func 32) #[] #[]) ∧ w = w' := by
  refine callsIn_of_wp Tryd.func19 rfl h5 ?_ hro
  simp only [Tryd.ntmps19, List.size_toArray, List.length_nil, Nat.reduceSub, Array.replicate_succ, Array.replicate_zero, List.push_toArray, List.append_toArray, List.nil_append]
  gi_wp2
  refine bodyPost_ret (results_tmp rfl _ _ _) rfl ⟨rfl, rfl⟩
theorem one_same {W : World} {k : Nat} {v v' : Value} {t : TypeId} (h : W.heap[k]? = some (.cells #[v] t (0, 0))) : (W.setCell ⟨k, 0, none⟩ v').heap[k]? = some (.cells #[v'] t (0, 0)) := by
  rw [heap_setCell_same _ _ _ _ _ _ h]; rfl
theorem one_other {W : World} {j k : Nat} {v : Value} {o : Obj} (h : W.heap[j]? = some o) (hne : j ≠ k) : (W.setCell ⟨k, 0, none⟩ v).heap[j]? = some o := (heap_setCell_other _ _ _ _ hne).trans h
theorem marks_set {b0 : Nat} {W : World} {ds : List Deferred} {p : Addr} {v : Value} (h : Marks b0 W ds) : Marks b0 (W.setCell p v) ds := marks_kept (fun D _ hD => (KeepsOthers.setCell W _ _).same D _ hD rfl) h
def OutI (w : World) (stop : Int) (a : Act) (W : World) : Prop := ∃ (i : Nat) (ds : List Deferred) (u4 u5 u6 u13 u14 u38 u39 u40 u41 u42 u43 u44 u45 : Value), i ≤ 2 ∧ a = { tmps := #[.int .i64 stop, .pointer (some ⟨w.heap.size, 0, none⟩), .pointer (some ⟨w.heap.size + 1, 0, none⟩), .func (.func 32) #[] #[], u4, u5, u6, undef, undef, .bool true, .bool false, .func (.func 32) #[] #[], .int .i64 i, u13, u14, undef, undef, undef, undef, undef, undef, undef, undef, undef, undef, undef, undef, undef, undef, undef, undef, undef, undef, undef, undef, undef, undef, undef, u38, u39, u40, u41, u42, u43, u44, u45], defers := ds } ∧
  Marks w.heap.size W ds ∧ W.heap[w.heap.size]? = some (.cells #[.int .i64 stop] 3 (0, 0)) ∧ W.heap[w.heap.size + 1]? = some (.cells #[.bool false] 4 (0, 0)) ∧ Below w.heap.size w W
set_option maxHeartbeats 8000000 in
theorem all_walk0 (stop : Int) (w : World) : CallsIn Fence.wide 5 Tryd.prog 4 #[.int .i64 stop] w fun e w' => e = .returned (.bool true) ∧ Below w.heap.size w w' := by
  refine callsIn_of_wp_marks Tryd.func4 rfl trivial ?_ rfl
  simp only [Tryd.ntmps4, List.size_toArray, List.length_cons, List.length_nil, Nat.reduceAdd, Nat.reduceSub, Array.replicate_succ, Array.replicate_zero, List.push_toArray, List.append_toArray, List.nil_append, List.cons_append]
  have hA := holds_new (holds_new (holds_nil w) #[.int .i64 stop] 3) #[.bool false] 4
  rw [World.size_alloc] at hA
  have HA0 : Hid _ := hA
  have HB0 : Hid (Below w.heap.size w ((w.alloc (.cells #[.int .i64 stop] 3)).alloc (.cells #[.bool false] 4))) := ((Below.refl _ w).alloc (Nat.le_refl _) _).alloc (by simp) _
  clear hA
  gi_wp2_with fail
  refine ⟨trivial, (callsIn_wide.2 (alive4_ok _)).mono ?_⟩
  rintro e w1 ⟨rfl, hb1⟩
  have HA1 : Hid _ := holds_later HA0.out hb1
  have HB1 : Hid (Below w.heap.size w w1) := HB0.out.trans (hb1.mono HB0.out.size)
  clear hb1 HA0 HB0
  gi_wp2_with fail
  refine ⟨trivial, (all_in _ _ trivial rfl _).mono ?_⟩
  rintro e w2 ⟨rfl, rfl⟩
  gi_wp2
  refine wpIn_loop (OutI w stop) (fun a _ => 2 - (intOf (a.tmps.getD 12 undef)).toNat) ?_ ?_
  · exact ⟨0, [], _, _, _, _, _, _, _, _, _, _, _, _, _, by omega, rfl, trivial, holds_at HA1.out 1 rfl, holds_at HA1.out 0 rfl, HB1.out⟩
  rintro a W ⟨i, ds, u4, u5, u6, u13, u14, u38, u39, u40, u41, u42, u43, u44, u45, hi, rfl, hm, hs, hr, hB⟩
  have HM : Hid _ := hm
  have HS : Hid _ := hs
  have HR : Hid _ := hr
  have HB : Hid _ := hB
  clear hm hs hr hB HA1 HB1
  by_cases hlt : i < 2
  rotate_left
  · obtain rfl : i = 2 := by omega
    have f0 : W.frozen? ⟨w.heap.size + 1, 0, none⟩ = false := frozen_of_row _ _ _ _ _ HR.out
    have c0 := cellAt HR.out 0 _ rfl
    have hm2 : Marks w.heap.size (W.setCell ⟨w.heap.size + 1, 0, none⟩ (.bool true)) ds := marks_kept (fun D _ h => (KeepsOthers.setCell W _ _).same D _ h rfl) HM.out
    have hr2 : (W.setCell ⟨w.heap.size + 1, 0, none⟩ (.bool true)).heap[w.heap.size + 1]? = some (.cells #[.bool true] 4 (0, 0)) := by rw [heap_setCell_same _ _ _ _ _ _ HR.out]; rfl
    have HM2 : Hid _ := hm2
    have HR2 : Hid _ := hr2
    clear hm2 hr2
    gi_wp2
    exact leaves_marks (rb := w.heap.size + 1) (fun W' h => by have c := cellAt h 0 _ rfl; simp [results, Tryd.f4, go_sem, c]) rfl ds _ HM2.out HR2.out (HB.out.setCell (by simp) _)
  gi_wp2
  have hA := holds_new (holds_new (holds_new (holds_cons (holds_cons (holds_nil W) HS.out) HR.out) #[.int .i64 0] 3) #[.int .i64 1] 3) #[.int .i64 1] 3
  simp only [World.size_alloc] at hA
  have HA : Hid _ := hA
  have HB3 : Hid (Below w.heap.size w (((W.alloc (.cells #[.int .i64 0] 3)).alloc (.cells #[.int .i64 1] 3)).alloc (.cells #[.int .i64 1] 3))) := ((HB.out.alloc HB.out.size _).alloc (Nat.le_trans HB.out.size (by simp)) _).alloc (Nat.le_trans HB.out.size (by simp; omega)) _
  have hm3 : Marks w.heap.size (((W.alloc (.cells #[.int .i64 0] 3)).alloc (.cells #[.int .i64 1] 3)).alloc (.cells #[.int .i64 1] 3)) ds := marks_kept (fun D hd h => by
    have hlt := marks_lt HM.out D hd
    exact (Below.heap_alloc _ _ _ (by simp; omega)).trans ((Below.heap_alloc _ _ _ (by simp; omega)).trans ((Below.heap_alloc _ _ _ hlt).trans h))) HM.out
  have HM3 : Hid _ := hm3
  have hsz : (((W.alloc (.cells #[.int .i64 0] 3)).alloc (.cells #[.int .i64 1] 3)).alloc (.cells #[.int .i64 1] 3)).heap.size = W.heap.size + 3 := by simp
  have hwN : w.heap.size + 1 < W.heap.size := ltHeap HR.out
  have hD : ∀ D, ({ target := .collected D, args := #[] } : Deferred) ∈ ds → D < W.heap.size + 3 := fun D hd => by have := marks_lt HM.out D hd; omega
  have HSZ : Hid _ := hsz
  have HDD : Hid _ := hD
  clear hA hm3 hsz hD HM HS HR HB
  generalize (((W.alloc (.cells #[.int .i64 0] 3)).alloc (.cells #[.int .i64 1] 3)).alloc (.cells #[.int .i64 1] 3)) = W3 at *
  generalize W.heap.size = N at *
  refine wpIn_rangeFunc_ownF rfl (by omega) (gf := 32) (lb := #[]) rfl trivial (enters_of Tryd.func32 (by kernel_rfl) rfl) (all_stops Fence.wide (5 - 1) trivial rfl (by omega) w) (fun _ _ => trivial) (fun _ _ _ _ _ _ _ _ => trivial) (HB3.out) (fun _ => rfl)
    (AllI w w.heap.size N (N + 1) (N + 1 + 1) w.heap.size stop ds (w.heap.size + 1))
    (AllX w w.heap.size N w.heap.size stop ds (w.heap.size + 1))
    (allI_from (fun D h => by rw [HSZ.out]; exact HDD.out D h) (Nat.le_refl _) HB3.out.size) (fun c => allX_from (fun D h => by rw [HSZ.out]; exact HDD.out D h) (Nat.le_refl _) HB3.out.size c)
    ⟨⟨List.nil_prefix, holds_at HA.out 2 rfl, holds_at HA.out 1 rfl, holds_at HA.out 0 rfl, holds_at HA.out 4 rfl, holds_at HA.out 3 rfl⟩, HM3.out, HB3.out⟩
    (fun x => { tmps := #[.int .i64 stop, .pointer (some ⟨w.heap.size, 0, none⟩), .pointer (some ⟨w.heap.size + 1, 0, none⟩), .func (.func 32) #[] #[], .pointer (some ⟨N, 0, none⟩), .pointer (some ⟨N + 1, 0, none⟩), .pointer (some ⟨N + 1 + 1, 0, none⟩), .int .i64 x.1, .int .i64 x.2, .bool true, .bool false, .func (.func 32) #[] #[], .int .i64 i, .bool true, .func (.func 32) #[] #[], .int .i64 x.1, .int .i64 x.2, undef, undef, undef, undef, undef, undef, undef, undef, undef, undef, undef, undef, undef, undef, undef, undef, undef, undef, undef, undef, undef, u38, u39, u40, u41, u42, u43, u44, u45], defers := [] }) ?assign ?body ?done ?stop
  case assign =>
    intro l x Wx K hK
    gi_wp2
    exact hK
  case body =>
    rintro l pre ⟨x1, x2⟩ Wb ⟨⟨hpre, hn, hk, hr, hs, hres⟩, hm, hB⟩ hlen
    obtain ⟨⟨b1, b2, b3, b4⟩, stA, stB⟩ := stP_step pre.length hlen
    obtain ⟨nx1, nx2⟩ := stP_next hpre hlen
    have hlen' : (pre ++ [(x1, x2)]).length = pre.length + 1 := by simp
    have HLEN : Hid _ := hlen'
    generalize stP pre.length = pp at *
    obtain ⟨k, r⟩ := pp
    simp only at b1 b2 b3 b4 stA stB hk hr
    have c0 := cellAt hn 0 _ rfl
    have c1 := cellAt hk 0 _ rfl
    have c2 := cellAt hr 0 _ rfl
    have c3 := cellAt hs 0 _ rfl
    have c4 := cellAt hres 0 _ rfl
    have f0 : Wb.frozen? ⟨N, 0, none⟩ = false := frozen_of_row _ _ _ _ _ hn
    have f1 : Wb.frozen? ⟨N + 1, 0, none⟩ = false := frozen_of_row _ _ _ _ _ hk
    have f2 : Wb.frozen? ⟨N + 1 + 1, 0, none⟩ = false := frozen_of_row _ _ _ _ _ hr
    have f4 : Wb.frozen? ⟨w.heap.size + 1, 0, none⟩ = false := frozen_of_row _ _ _ _ _ hres
    have HN : Hid _ := hn
    have HK1 : Hid _ := hk
    have HR1 : Hid _ := hr
    have HS1 : Hid _ := hs
    have HRES : Hid _ := hres
    have HM : Hid _ := hm
    have HB : Hid _ := hB
    have NX1 : Hid _ := nx1
    have NX2 : Hid _ := nx2
    have l1 : (pre.length : Int) < 105 := by omega
    have hwB : w.heap.size ≤ N := by omega
    clear hpre hn hk hr hs hres hm hB nx1 nx2 hlen' hlen
    by_cases hg : 16 < k + (r + 1)
    · have HNX : Hid _ := stA hg
      have hg' := hg
      clear stA stB
      by_cases e1 : x1 = k + 1
      · subst e1
        by_cases e2 : x2 = 2
        · subst e2
          have hpr := NX1.out
          rw [HNX.out] at hpr
          have HPR : Hid _ := hpr
          clear hpr
          by_cases e3 : (pre.length : Int) + 1 = stop
          · have hq : ((pre.length : Int) + 1 == stop) = true := by simpa using e3
            have E3 : Hid _ := e3
            clear e3
            gi_wp2
            refine ⟨(((KeepsOthers.setCell _ _ _).trans (KeepsOthers.setCell _ _ _)).trans (KeepsOthers.setCell _ _ _)).trans (KeepsOthers.setCell _ _ _), .inr ⟨rfl, ⟨?_, one_other (one_other (one_other (one_other HS1.out (by omega)) (by omega)) (by omega)) (by omega), one_other (one_other (one_other (one_other HRES.out (by omega)) (by omega)) (by omega)) (by omega)⟩, marks_set (marks_set (marks_set (marks_set HM.out))), (((HB.out.setCell (by show w.heap.size ≤ N + 1 + 1; omega) _).setCell (by show w.heap.size ≤ N + 1; omega) _).setCell (by show w.heap.size ≤ N + 1 + 1; omega) _).setCell (by show w.heap.size ≤ N; omega) _⟩⟩
            rw [← E3.out]
            exact one_same (one_other (one_other (one_other HN.out (by omega)) (by omega)) (by omega))
          · have hq : ((pre.length : Int) + 1 == stop) = false := by simpa using e3
            clear e3
            gi_wp2
            refine ⟨(((KeepsOthers.setCell _ _ _).trans (KeepsOthers.setCell _ _ _)).trans (KeepsOthers.setCell _ _ _)).trans (KeepsOthers.setCell _ _ _), trivial, ⟨⟨HPR.out, ?_, ?_, ?_, one_other (one_other (one_other (one_other HS1.out (by omega)) (by omega)) (by omega)) (by omega), one_other (one_other (one_other (one_other HRES.out (by omega)) (by omega)) (by omega)) (by omega)⟩, marks_set (marks_set (marks_set (marks_set HM.out))), (((HB.out.setCell (by show w.heap.size ≤ N + 1 + 1; omega) _).setCell (by show w.heap.size ≤ N + 1; omega) _).setCell (by show w.heap.size ≤ N + 1 + 1; omega) _).setCell (by show w.heap.size ≤ N; omega) _⟩⟩
            · rw [HLEN.out]; exact one_same (one_other (one_other (one_other HN.out (by omega)) (by omega)) (by omega))
            · rw [HLEN.out, HNX.out]; exact one_other (one_other (one_same (one_other HK1.out (by omega))) (by omega)) (by omega)
            · rw [HLEN.out, HNX.out]; exact one_other (one_same (one_other (one_same HR1.out) (by omega))) (by omega)
        · have hq : (x2 != 2) = true := by simpa [bne_iff_ne] using e2
          have E2 : Hid _ := e2
          clear e2
          gi_wp2
          exact ⟨(((KeepsOthers.setCell _ _ _).trans (KeepsOthers.setCell _ _ _)).trans (KeepsOthers.setCell _ _ _)).trans (KeepsOthers.setCell _ _ _), .inl ⟨rfl, NX2.out _ (fun h => by rw [HNX.out] at h; exact E2.out (Prod.mk.inj h).2)⟩⟩
      · have hq : (x1 != k + 1) = true := by simpa [bne_iff_ne] using e1
        have E1 : Hid _ := e1
        clear e1
        gi_wp2
        exact ⟨(((KeepsOthers.setCell _ _ _).trans (KeepsOthers.setCell _ _ _)).trans (KeepsOthers.setCell _ _ _)).trans (KeepsOthers.setCell _ _ _), .inl ⟨rfl, NX2.out _ (fun h => by rw [HNX.out] at h; exact E1.out (Prod.mk.inj h).1)⟩⟩
    · have HNX : Hid _ := stB (by omega)
      have hg' := hg
      clear stA stB
      by_cases e1 : x1 = k
      · subst e1
        by_cases e2 : x2 = r + 1
        · subst e2
          have hpr := NX1.out
          rw [HNX.out] at hpr
          have HPR : Hid _ := hpr
          clear hpr
          by_cases e3 : (pre.length : Int) + 1 = stop
          · have hq : ((pre.length : Int) + 1 == stop) = true := by simpa using e3
            have E3 : Hid _ := e3
            clear e3
            gi_wp2
            refine ⟨(KeepsOthers.setCell _ _ _).trans (KeepsOthers.setCell _ _ _), .inr ⟨rfl, ⟨?_, one_other (one_other HS1.out (by omega)) (by omega), one_other (one_other HRES.out (by omega)) (by omega)⟩, marks_set (marks_set HM.out), (HB.out.setCell (by show w.heap.size ≤ N + 1 + 1; omega) _).setCell (by show w.heap.size ≤ N; omega) _⟩⟩
            rw [← E3.out]
            exact one_same (one_other HN.out (by omega))
          · have hq : ((pre.length : Int) + 1 == stop) = false := by simpa using e3
            clear e3
            gi_wp2
            refine ⟨(KeepsOthers.setCell _ _ _).trans (KeepsOthers.setCell _ _ _), trivial, ⟨⟨HPR.out, ?_, ?_, ?_, one_other (one_other HS1.out (by omega)) (by omega), one_other (one_other HRES.out (by omega)) (by omega)⟩, marks_set (marks_set HM.out), (HB.out.setCell (by show w.heap.size ≤ N + 1 + 1; omega) _).setCell (by show w.heap.size ≤ N; omega) _⟩⟩
            · rw [HLEN.out]; exact one_same (one_other HN.out (by omega))
            · rw [HLEN.out, HNX.out]; exact one_other (one_other HK1.out (by omega)) (by omega)
            · rw [HLEN.out, HNX.out]; exact one_other (one_same HR1.out) (by omega)
        · have hq : (x2 != r + 1) = true := by simpa [bne_iff_ne] using e2
          have E2 : Hid _ := e2
          clear e2
          gi_wp2
          exact ⟨(KeepsOthers.setCell _ _ _).trans (KeepsOthers.setCell _ _ _), .inl ⟨rfl, NX2.out _ (fun h => by rw [HNX.out] at h; exact E2.out (Prod.mk.inj h).2)⟩⟩
      · have hq : (x1 != k) = true := by simpa [bne_iff_ne] using e1
        have E1 : Hid _ := e1
        clear e1
        gi_wp2
        exact ⟨(KeepsOthers.setCell _ _ _).trans (KeepsOthers.setCell _ _ _), .inl ⟨rfl, NX2.out _ (fun h => by rw [HNX.out] at h; exact E1.out (Prod.mk.inj h).1)⟩⟩
  case done =>
    rintro D xs Wd hd rfl ⟨⟨_, hn, hk, hr, hs, hres⟩, hm, hB⟩ hK
    rw [allPairs_len] at hn
    have c0 := cellAt hn 0 _ rfl
    have HM : Hid _ := hm
    have HS : Hid _ := hs
    have HR : Hid _ := hres
    have HB : Hid _ := hB
    have HK : Hid _ := hK
    have HNE : Hid (∀ d' ∈ ds, d' ≠ ({ target := .collected D, args := #[] } : Deferred)) := fun d' h e => by
      subst e
      have := HDD.out D h
      have := HSZ.out
      omega
    clear hn hk hr hs hres hm hB hK
    gi_wp2
    exact ⟨⟨i + 1, _ :: ds, _, _, _, _, _, _, _, _, _, _, _, _, _, by omega, by rw [show ((i + 1 : Nat) : Int) = (i : Int) + 1 from rfl], ⟨⟨D, rfl, by have := HB3.out.size; omega, HK.out, HNE.out⟩, HM.out⟩, HS.out, HR.out, HB.out⟩, by simp [intOf]; omega⟩
  case stop =>
    rintro D c pre Wd hd hpre hX hK
    rcases hX with ⟨_, hno⟩ | ⟨rfl, ⟨hn, hs, hres⟩, hm, hB⟩
    · exact absurd hpre hno
    have c0 := cellAt hn 0 _ rfl
    have c1 := cellAt hs 0 _ rfl
    have HM : Hid _ := hm
    have HS : Hid _ := hs
    have HR : Hid _ := hres
    have HB : Hid _ := hB
    have HK : Hid _ := hK
    have HNE : Hid (∀ d' ∈ ds, d' ≠ ({ target := .collected D, args := #[] } : Deferred)) := fun d' h e => by
      subst e
      have := HDD.out D h
      have := HSZ.out
      omega
    clear hn hs hres hm hB hK
    by_cases h105 : stop = 105
    · have hq : (stop != 105) = false := by simp [h105]
      clear h105
      gi_wp2
      exact ⟨⟨i + 1, _ :: ds, _, _, _, _, _, _, _, _, _, _, _, _, _, by omega, by rw [show ((i + 1 : Nat) : Int) = (i : Int) + 1 from rfl], ⟨⟨D, rfl, by have := HB3.out.size; omega, HK.out, HNE.out⟩, HM.out⟩, HS.out, HR.out, HB.out⟩, by simp [intOf]; omega⟩
    · have hq : (stop != 105) = true := by simp [h105]
      clear h105
      gi_wp2
      exact ⟨⟨i + 1, _ :: ds, _, _, _, _, _, _, _, _, _, _, _, _, _, by omega, by rw [show ((i + 1 : Nat) : Int) = (i : Int) + 1 from rfl], ⟨⟨D, rfl, by have := HB3.out.size; omega, HK.out, HNE.out⟩, HM.out⟩, HS.out, HR.out, HB.out⟩, by simp [intOf]; omega⟩
theorem all_walk (stop : Int) (w : World) : Calls Tryd.prog 4 #[.int .i64 stop] w fun e w' => e = .returned (.bool true) ∧ Below w.heap.size w w' := callsIn_wide.1 (all_walk0 stop w)
end Go.Proofs.YtokepcikpkffpaaDoor
