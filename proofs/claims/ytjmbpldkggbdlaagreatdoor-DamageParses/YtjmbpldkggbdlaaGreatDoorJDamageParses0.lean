/- The law DamageParses holds: Parse of every text answers as the chapter says, and what is read is written as it was, at all numbers and texts; no condition but what the card ties. -/
import Derived.Test.YtjmbpldkggbdlaaGreatDoorGfDot
import Derived.ProofKit
import Derived.OpenShut
import Derived.SizedLaws
import Derived.Lib.SmallJoins
import Derived.Test.YtjmbpldkggbdlaaGreatDoorJDamageParses1
import Derived.Test.YtjmbpldkggbdlaaGreatDoorSolveF
import Derived.Test.YtjmbpldkggbdlaaGreatDoorSpanA
import Derived.RangeFuncNested
import Derived.RangeFuncBound
import Derived.RangeFuncCalls
import Derived.RangeFuncLeaves
import Derived.Shelf.Abstract
import Derived.Shelf.RegionOpen
import Derived.WalkKit
import Derived.OwnWalkIn
import Derived.TacticsInMore
import Derived.LoopNIn
import Derived.LoopIn
import Derived.Test.YtjmbpldkggbdlaaGreatDoorRegHeld
import Derived.LaidSub
import Derived.Test.YtjmbpldkggbdlaaGreatDoorRows
import Derived.Test.YtjmbpldkggbdlaaGreatDoorCards
import Derived.Test.YtjmbpldkggbdlaaGreatDoorTie
import Derived.ShutString
import Derived.ChangeOld
import Derived.Below
import Derived.Lay
import Derived.SevenTiedAt
import Derived.Stop.Joined
/- How a list of bytes that came in is read: facts for the frames of the laws; nothing of the program is proved here. -/
namespace Go.Proofs.YtjmbpldkggbdlaaGreatDoor
open Go.ChangeShapes Go.WideShapes Go.ChangeAt Go.RowKit Gf
set_option maxRecDepth 20000
theorem own : ownKnob Tryz.prog.godebug = none := by kernel_rfl
theorem laidOut : laidOutB Tryz.prog = true := by kernel_rfl
theorem bytes8 : Tryz.prog.bytesOf 5 = 1 := by kernel_rfl
theorem getD_get {α : Type} (l : List α) (j : Nat) (d : α) (h : j < l.length) : l.getD j d = l[j] := by simp [List.getD, h]
theorem open8_cells {H : Type} {enc : TypeId × Value → H} {W : World} {cs : List Value} {x : DataW H × List MemPlace} {fuel : Nat}
    (h : DataW.trod enc Tryz.prog W 0 (fun _ => true) true fuel 61 cs = some x) :
    ∃ a len cap xs, cs = [.slice a len cap] ∧ len = xs.length ∧ len ≤ cap ∧ Row8 W a xs ∧ (x.1 = .nil ∧ a = none ∧ cap = 0 ∨ ∃ es sp, x.1 = .slice es sp ∧ es.length + sp.length = cap) ∧ (a = none → cap = 0) := by
  rcases open_ints Tryz.underlying61 Tryz.underlying5 (by kernel_rfl) h with ⟨hcs, hx⟩ | ⟨ad, l, c, zs, hcs, _, hl, hm, hz, hx, hcell, hwz⟩
  · exact ⟨none, 0, 0, [], hcs, rfl, Nat.le_refl _, .inl rfl, .inl ⟨by rw [hx], rfl, rfl⟩, fun _ => rfl⟩
  · have hz' : zs.length = c := by simpa using hz
    refine ⟨some ad, l, c, (zs.take l).map toF, hcs, by simp; omega, hl, ?_, .inr ⟨_, _, by rw [hx], by simp [lits]; omega⟩, fun e => by cases e⟩
    by_cases h0 : l = 0
    · left; simp [h0]
    · right
      have hc := hcell 0 (by omega)
      obtain ⟨b, off, spot⟩ := ad
      have hspot : spot = none := by simpa [Addr.add] using World.cell?_spot hc
      subst hspot
      refine ⟨b, off, rfl, fun j hj => ?_⟩
      have hj' : j < l := by simp at hj; omega
      have hcj := hcell j (by omega)
      have hw := hwz (zs.getD j 0) (by
        rw [getD_get _ _ _ (by omega)]; exact List.getElem_mem _)
      have hb := bounds_u8 hw
      have e : ((at8 ((zs.take l).map toF) j).toNat : Int) = zs.getD j 0 := by
        unfold at8
        rw [getD_get _ _ _ (by simp; omega)]
        simp only [List.getElem_map, List.getElem_take]
        rw [getD_get _ _ _ (by omega)] at hb ⊢
        exact val_toF hb.1 hb.2
      rw [e, ← hcj]
      by_cases hj0 : j = 0
      · subst hj0; rfl
      · simp [Addr.add, hj0]
theorem open8 {H : Type} {enc : TypeId × Value → H} {W : World} {v : Value} {d : DataW H} {p : List MemPlace} {base : Nat}
    (hv : Value.okWide Tryz.prog W .any base 61 v) (h : DataW.Trod enc Tryz.prog W 0 (fun _ => true) true 61 v d p) :
    ∃ a len cap xs, v = .slice a len cap ∧ len = xs.length ∧ len ≤ cap ∧ Row8 W a xs ∧ (d = .nil ∧ a = none ∧ cap = 0 ∨ ∃ es sp, d = .slice es sp ∧ es.length + sp.length = cap) ∧ (a = none → cap = 0) := by
  obtain ⟨fuel, hf⟩ := h
  obtain ⟨a, len, cap, xs, hcs, h1, h2, h3, h4, h5⟩ := open8_cells hf
  obtain ⟨a', len', cap', rfl⟩ := okWide_slice Tryz.underlying61 hv
  simp [Value.cells] at hcs
  obtain ⟨rfl, rfl, rfl⟩ := hcs
  exact ⟨_, _, _, xs, rfl, h1, h2, h3, h4, h5⟩
end Go.Proofs.YtjmbpldkggbdlaaGreatDoor

/- How a matrix, and two numbers, come in: facts for the frames of the laws; nothing of the program is proved here. -/
namespace Go.Proofs.YtjmbpldkggbdlaaGreatDoor
open Go.ChangeShapes Go.WideShapes Go.ChangeAt Go.RowKit Gf Go.Joins
set_option linter.unusedVariables false
set_option maxRecDepth 20000
theorem cellsMat : Tryz.prog.cellsOf 63 = 3 := by kernel_rfl
theorem cellsInt : Tryz.prog.cellsOf 3 = 1 := by kernel_rfl
/-- a list's datum, and its room -/
def Room2 {H : Type} (d : DataW H) (cap : Nat) : Prop := d = .nil ∧ cap = 0 ∨ ∃ es sp, d = .slice es sp ∧ es.length + sp.length = cap
theorem room2_le {H : Type} {d : DataW H} {cap : Nat} (h : Room2 d cap) (hw : ∀ n ∈ DataW.weights Tryz.prog 61 d, n ≤ reachBytes) : cap ≤ 140737488351232 := by
  rcases h with ⟨_, rfl⟩ | ⟨es, sp, rfl, rfl⟩
  · omega
  · have := hw ((es.length + sp.length) * Tryz.prog.bytesOf 5) (by simp [DataW.weights, Tryz.underlying61])
    rw [bytes8] at this
    simp only [reachBytes] at this
    omega
theorem openMat {H : Type} {enc : TypeId × Value → H} {W : World} {v : Value} {d : DataW H} {p : List MemPlace} {base : Nat} {ts : List TypeId} {ds : List (DataW H)} {j : Nat}
    (hv : Value.okWide Tryz.prog W .any base 63 v) (h : DataW.Trod enc Tryz.prog W 0 (fun _ => true) true 63 v d p)
    (hsz : (DataW.weightsEach Tryz.prog ts ds).all (· ≤ reachBytes) = true) (ht : ts[j]? = some 63) (hd : ds[j]? = some d) :
    ∃ (r c : Int) (a : Option Addr) (l cap : Nat) (xs : List F), v = .agg #[.int .i64 r, .int .i64 c, .slice a l cap] ∧ l = xs.length ∧ Row8 W a xs ∧ l ≤ cap ∧ cap ≤ 140737488351232 ∧ (a = none → cap = 0) ∧
      -9223372036854775808 ≤ r ∧ r ≤ 9223372036854775807 ∧ -9223372036854775808 ≤ c ∧ c ≤ 9223372036854775807 := by
  obtain ⟨v0, v1, v2, y0, y1, y2, n, rfl, rfl, _, e0, e1, e2⟩ := open_agg3 Tryz.underlying63 (by kernel_rfl) cellsMat hv h
  obtain ⟨r, s0, _, w0⟩ := DataW.trod_int Tryz.underlying3 e0
  obtain ⟨c, s1, _, w1⟩ := DataW.trod_int Tryz.underlying3 e1
  obtain ⟨a, la, ca, xs, s2, e, ka, ra, da, na⟩ := open8_cells e2
  simp only [List.cons.injEq, and_true] at s0 s1 s2
  subst s0 s1 s2
  have hw : ∀ n ∈ DataW.weights Tryz.prog 63 (.agg [y0.1, y1.1, y2.1]), n ≤ reachBytes := fun n hn => by
    simpa using List.all_eq_true.1 hsz _ (DataW.weights_mem_each ht hd n hn)
  simp only [DataW.weights, Tryz.underlying63] at hw
  have r2 : Room2 y2.1 ca := da.imp (fun h => ⟨h.1, h.2.2⟩) id
  refine ⟨r, c, a, la, ca, xs, rfl, e, ra, ka, room2_le r2 ?_, na, (bounds_i64 w0).1, (bounds_i64 w0).2, (bounds_i64 w1).1, (bounds_i64 w1).2⟩
  exact fun n hn => hw n (by simp [DataW.weightsEach, hn])
end Go.Proofs.YtjmbpldkggbdlaaGreatDoor

/- How the statement's parameters, a half and a text come in: facts for the frame of HalfNames; nothing of the program is proved here. -/
namespace Go.Proofs.YtjmbpldkggbdlaaGreatDoor
open Go.ChangeShapes Go.WideShapes Go.ChangeAt Go.RowKit Gf Go.Joins
set_option maxRecDepth 20000
end Go.Proofs.YtjmbpldkggbdlaaGreatDoor

/- What Whole and Kind of package damage answer; nothing that was there turns. -/
namespace Go.Proofs.YtjmbpldkggbdlaaGreatDoor
open Go.RowKit Go.Maps Gf
set_option linter.unusedVariables false
set_option maxRecDepth 20000
theorem map_below {w w' : World} {b n : Nat} {D : DataW Unit} (h : w.ownsMap Tryz.prog 3 (unitElem (H := Unit)) b n D) (hb : Below w.heap.size w w') : w'.ownsMap Tryz.prog 3 (unitElem (H := Unit)) b n D := by
  have hl := h.lt
  obtain ⟨es, clock, hbk, r⟩ := h
  exact ⟨es, clock, (hb.block b hl).trans hbk, r⟩
theorem leftOf_E (k r l cap : Nat) (a : Option Addr) (ns : List Nat) (w : World) (h3 : k + r ≤ 16) (hl : l = ns.length) (hcap : l ≤ cap) (hX : RowI w a (natJ8 ns)) (hr : ∀ x ∈ ns, x < 2 * (k + r)) (hl9 : l ≤ 32) :
    Calls Tryz.prog 33 #[.int .i64 k, .int .i64 r, .slice a l cap] w fun e w' => ∃ (b : Nat) (D : DataW Unit), e = .returned (.map (some b)) ∧ w'.ownsMap Tryz.prog 3 (unitElem (H := Unit)) b 32 D ∧
      SetF D (fun x => x ∈ natJ8 (leftL (2 * (k + r)) ns)) ∧ Below w.heap.size w w' :=
  (leftOf_F k r l cap a ns w h3 hl hcap hX hr hl9).mono fun e w' ⟨D, h⟩ => ⟨_, D, h⟩
theorem zeroU (w : World) : (zeroValue 58).run Tryz.prog w = .ok (.agg #[]) w := Tryz.zeroValue58 w
/-- is a half left? -/
theorem setF_left {D : DataW Unit} {n x : Nat} {ns : List Nat} {y : Int} (h : SetF D (fun x => x ∈ natJ8 (leftL n ns))) (e : y = ((x : Nat) : Int)) (hx : x < n) : has D (.int .i64 y) = decide (¬ x ∈ ns) := by
  subst e
  cases hb : has D (.int .i64 (x : Int)) with
  | true => exact (decide_eq_true ((mem_leftL.1 (natJ8_mem.1 ((h _).1 hb))).2)).symm
  | false => exact (decide_eq_false (fun hn => by rw [(h _).2 (natJ8_mem.2 (mem_leftL.2 ⟨hx, hn⟩))] at hb; cases hb)).symm
set_option maxRecDepth 100000 in
set_option maxHeartbeats 4000000 in
theorem whole_legal (k r l cap : Nat) (a : Option Addr) (ns : List Nat) (w : World) (E : Nat → Addr) (hE : ErrsH w E) (h1 : 1 ≤ k) (h2 : 2 ≤ r) (h3 : k + r ≤ 16) (hl : l = ns.length) (hcap : l ≤ cap) (hX : RowI w a (natJ8 ns)) (hu : ns.Pairwise (· < ·)) (hr : ∀ x ∈ ns, x < 2 * (k + r)) :
    Calls Tryz.prog 13 #[.int .i64 k, .int .i64 r, .slice a l cap] w fun e w' => ∃ v, e = .returned (.tuple #[v, .nilIface]) ∧ ListOf w' w.heap.size v (wholeL (k + r) ns) ∧ Below w.heap.size w w' := by
  have hlen : l ≤ 32 := by have := pair_len hu hr; omega
  have HC : Hid _ := dcheck_legal k r l cap a (natJ8 ns) w E hE h1 h2 h3 (by rw [natJ8_len]; exact hl) (by omega) hcap hX
  have HZ : Hid _ := chkE_ok h1 h2 h3 (goodH_of hu hr)
  have HL : Hid (l = ns.length) := hl
  have HX : Hid (RowI w a (natJ8 ns)) := hX
  have HR : Hid (∀ x ∈ ns, x < 2 * (k + r)) := hr
  clear hl hX hr hu hE
  go_enter Tryz.func13, Tryz.ntmps13
  go_wp2_with fail
  refine Calls.mono HC.out ?_
  rw [HZ.out]
  rintro e w1 ⟨rfl, hb1⟩
  have HB1 : Hid _ := hb1
  clear hb1
  rw [show evH E 0 = Value.nilIface from rfl]
  go_wp2_with fail
  refine Calls.mono (leftOf_E k r l cap a ns w1 h3 HL.out hcap (rowI_below HX.out HB1.out) HR.out hlen) ?_
  rintro e w2 ⟨bm, D, rfl, hown, hset, hb2⟩
  have HB2 : Hid _ := HB1.out.trans (hb2.mono HB1.out.size)
  have HOWN : Hid (w2.ownsMap Tryz.prog 3 (unitElem (H := Unit)) bm 32 D) := hown
  have HSET : Hid (SetF D (fun x => x ∈ natJ8 (leftL (2 * (k + r)) ns))) := hset
  have H12 : Hid _ := HB1.out.size
  clear hb2 hown hset
  go_wp2
  obtain ⟨m, hm⟩ : ∃ m : Nat, m = k + r := ⟨_, rfl⟩
  have em : (k : Int) + r = (m : Int) := by omega
  rw [em]
  rw [← hm] at HSET HR
  have hm16 : m ≤ 16 := by omega
  have HMM : Hid _ := hm
  clear em hm
  go_loopw [30, 10] (fun i v wr => ∃ j : Nat, j ≤ m ∧ i = .int .i64 j ∧ (∃ av cv, v = .slice av (wholeL j ns).length cv) ∧ Below w2.heap.size w2 wr ∧ wr.ownsRow w2.heap.size 3 1 v (wholeL j ns).length ((natJ8 (wholeL j ns)).map (Value.int .i64))) (fun i _ _ => m - (intOf i).toNat)
  case atStart => exact ⟨0, by omega, rfl, ⟨none, 0, rfl⟩, Below.refl _ _, World.ownsRow_nil _ _ _ _⟩
  case round =>
    obtain ⟨j, hj, rfl, ⟨av, cv, rfl⟩, hb, ho⟩ := hrel
    have HB : Hid _ := hb
    clear hb
    by_cases hlt : j < m
    · have HK1 : Hid _ := key_i64 (x := 2 * (j : Int)) (by omega)
      have HK2 : Hid _ := key_i64 (x := 2 * (j : Int) + 1) (by omega)
      have p1 := setF_left (y := 2 * (j : Int)) (x := 2 * j) HSET.out (by omega) (by omega)
      have p2 := setF_left (y := 2 * (j : Int) + 1) (x := 2 * j + 1) HSET.out (by omega) (by omega)
      have hs := wholeL_succ j ns
      have HWL : Hid _ := wholeL_le j ns
      have HM : Hid (wr.ownsMap Tryz.prog 3 (unitElem (H := Unit)) bm 32 D) := map_below HOWN.out HB.out
      by_cases q1 : 2 * j ∈ ns
      · rw [decide_eq_false (not_not_intro q1)] at p1
        have P1 : Hid _ := p1
        clear p1
        by_cases q2 : 2 * j + 1 ∈ ns
        · rw [decide_eq_false (not_not_intro q2)] at p2
          have P2 : Hid _ := p2
          clear p2
          rw [if_pos ⟨q1, q2⟩] at hs
          have hz : ((wr.alloc (.cells #[] 58)).alloc (.cells #[] 58)).heap.size = wr.heap.size + 1 + 1 := by simp
          have hb5 := ((HB.out.alloc HB.out.size (.cells #[] 58)).alloc (by have := HB.out.size; simp; omega) (.cells #[] 58)).alloc (by have := HB.out.size; simp; omega) (.cells #[.int .i64 j] 3)
          have ho5 := ((ho.alloc (.cells #[] 58)).alloc (.cells #[] 58)).alloc (.cells #[.int .i64 j] 3)
          obtain ⟨g2, cap2, w6, hrun, ho2, hgr, hor, hlt2⟩ := appendI (b := wr.heap.size + 1 + 1) (c := 1) (x := (j : Int)) 22 ho5 (cellAt (by rw [← hz]; exact heap_alloc_last ((wr.alloc (.cells #[] 58)).alloc (.cells #[] 58)) (.cells #[.int .i64 j] 3)) 0 _ rfl) (by have := HWL.out; omega) (by have := HB.out.size; simp; omega)
          have hb6 := below_own hb5 ho5 hgr (by have := HB.out.size; simp; omega)
          have hn6 : (wholeL (j + 1) ns).length = (wholeL j ns).length + 1 := by rw [hs]; simp
          have hv6 : (natJ8 (wholeL j ns)).map (Value.int .i64) ++ [.int .i64 (j : Int)] = (natJ8 (wholeL (j + 1) ns)).map (Value.int .i64) := by rw [hs]; simp [natJ8]
          rw [hv6] at ho2
          have HRun : Hid _ := hrun
          have HO2 : Hid (w6.ownsRow w2.heap.size 3 1 (.slice (some ⟨g2, 0, none⟩) ((wholeL j ns).length + 1) cap2) ((wholeL j ns).length + 1) ((natJ8 (wholeL (j + 1) ns)).map (Value.int .i64))) := ho2
          have HB6 : Hid _ := hb6
          have HN6 : Hid _ := hn6
          clear hs ho q1 q2 hz hb5 ho5 hrun ho2 hgr hor hlt2 hb6 hn6 hv6
          have tok1 : True := trivial
          go_wp2_with (first | (at_lookup; have _t := tok1; refine wpList_lookup_own_unit _ rfl _ _ 57 rfl 3 58 lawI Tryz.underlying57 (zeroU _) bm 32 D rfl HM.out _ _ rfl HK1.out ?_; rw [P1.out]; clear tok1) | (at_lookup; refine wpList_lookup_own_unit _ rfl _ _ 57 rfl 3 58 lawI Tryz.underlying57 (zeroU _) bm 32 D rfl (World.ownsMap.alloc HM.out _) _ _ rfl HK2.out ?_; rw [P2.out]) | (at_builtin; refine wpList_append_run rfl _ _ 22 rfl _ _ _ _ rfl rfl HRun.out ?_))
          refine ⟨⟨j + 1, by omega, by go_num, ⟨_, _, by rw [HN6.out]⟩, HB6.out, by rw [HN6.out]; exact HO2.out⟩, by simp [intOf]; omega⟩
        · rw [decide_eq_true q2] at p2
          have P2 : Hid _ := p2
          clear p2
          rw [if_neg (fun h => q2 h.2), List.append_nil] at hs
          have HS : Hid _ := hs
          have HO : Hid (wr.ownsRow w2.heap.size 3 1 (.slice av (wholeL j ns).length cv) (wholeL j ns).length ((natJ8 (wholeL j ns)).map (Value.int .i64))) := ho
          have HB5 : Hid _ := ((HB.out.alloc HB.out.size (.cells #[] 58)).alloc (by have := HB.out.size; simp; omega) (.cells #[] 58))
          clear hs ho q1 q2
          have tok1 : True := trivial
          go_wp2_with (first | (at_lookup; have _t := tok1; refine wpList_lookup_own_unit _ rfl _ _ 57 rfl 3 58 lawI Tryz.underlying57 (zeroU _) bm 32 D rfl HM.out _ _ rfl HK1.out ?_; rw [P1.out]; clear tok1) | (at_lookup; refine wpList_lookup_own_unit _ rfl _ _ 57 rfl 3 58 lawI Tryz.underlying57 (zeroU _) bm 32 D rfl (World.ownsMap.alloc HM.out _) _ _ rfl HK2.out ?_; rw [P2.out]))
          refine ⟨⟨j + 1, by omega, by go_num, ⟨av, cv, by rw [HS.out]⟩, HB5.out, by rw [HS.out]; exact (HO.out.alloc _).alloc _⟩, by simp [intOf]; omega⟩
      · rw [decide_eq_true q1] at p1
        have P1 : Hid _ := p1
        clear p1
        cases q2 : decide (¬ 2 * j + 1 ∈ ns) with
        | true =>
          rw [q2] at p2
          have P2 : Hid _ := p2
          clear p2 q2
          rw [if_neg (fun h => q1 h.1), List.append_nil] at hs
          have HS : Hid _ := hs
          have HO : Hid (wr.ownsRow w2.heap.size 3 1 (.slice av (wholeL j ns).length cv) (wholeL j ns).length ((natJ8 (wholeL j ns)).map (Value.int .i64))) := ho
          have HB5 : Hid _ := ((HB.out.alloc HB.out.size (.cells #[] 58)).alloc (by have := HB.out.size; simp; omega) (.cells #[] 58))
          clear hs ho q1
          have tok1 : True := trivial
          go_wp2_with (first | (at_lookup; have _t := tok1; refine wpList_lookup_own_unit _ rfl _ _ 57 rfl 3 58 lawI Tryz.underlying57 (zeroU _) bm 32 D rfl HM.out _ _ rfl HK1.out ?_; rw [P1.out]; clear tok1) | (at_lookup; refine wpList_lookup_own_unit _ rfl _ _ 57 rfl 3 58 lawI Tryz.underlying57 (zeroU _) bm 32 D rfl (World.ownsMap.alloc HM.out _) _ _ rfl HK2.out ?_; rw [P2.out]))
          refine ⟨⟨j + 1, by omega, by go_num, ⟨av, cv, by rw [HS.out]⟩, HB5.out, by rw [HS.out]; exact (HO.out.alloc _).alloc _⟩, by simp [intOf]; omega⟩
        | false =>
          rw [q2] at p2
          have P2 : Hid _ := p2
          clear p2 q2
          rw [if_neg (fun h => q1 h.1), List.append_nil] at hs
          have HS : Hid _ := hs
          have HO : Hid (wr.ownsRow w2.heap.size 3 1 (.slice av (wholeL j ns).length cv) (wholeL j ns).length ((natJ8 (wholeL j ns)).map (Value.int .i64))) := ho
          have HB5 : Hid _ := ((HB.out.alloc HB.out.size (.cells #[] 58)).alloc (by have := HB.out.size; simp; omega) (.cells #[] 58))
          clear hs ho q1
          have tok1 : True := trivial
          go_wp2_with (first | (at_lookup; have _t := tok1; refine wpList_lookup_own_unit _ rfl _ _ 57 rfl 3 58 lawI Tryz.underlying57 (zeroU _) bm 32 D rfl HM.out _ _ rfl HK1.out ?_; rw [P1.out]; clear tok1) | (at_lookup; refine wpList_lookup_own_unit _ rfl _ _ 57 rfl 3 58 lawI Tryz.underlying57 (zeroU _) bm 32 D rfl (World.ownsMap.alloc HM.out _) _ _ rfl HK2.out ?_; rw [P2.out]))
          refine ⟨⟨j + 1, by omega, by go_num, ⟨av, cv, by rw [HS.out]⟩, HB5.out, by rw [HS.out]; exact (HO.out.alloc _).alloc _⟩, by simp [intOf]; omega⟩
    · obtain rfl : j = m := by omega
      have HV : Hid (ListOf wr w.heap.size (.slice av (wholeL j ns).length cv) (wholeL (k + r) ns)) := by rw [← HMM.out]; exact listOf_own HB2.out.size rfl ho
      have HB4 : Hid _ := HB2.out.trans (HB.out.mono HB2.out.size)
      clear ho
      go_wp2
      go_ret2
      exact ⟨_, rfl, HV.out, HB4.out⟩
end Go.Proofs.YtjmbpldkggbdlaaGreatDoor

/- What Kind of package damage answers of legal arguments. -/
namespace Go.Proofs.YtjmbpldkggbdlaaGreatDoor
open Go.RowKit Go.Maps Gf
set_option linter.unusedVariables false
set_option maxRecDepth 20000
set_option maxHeartbeats 4000000 in
theorem kind_legal (k r l cap : Nat) (a : Option Addr) (ns : List Nat) (w : World) (E : Nat → Addr) (hE : ErrsH w E) (h1 : 1 ≤ k) (h2 : 2 ≤ r) (h3 : k + r ≤ 16) (hl : l = ns.length) (hcap : l ≤ cap) (hX : RowI w a (natJ8 ns)) (hu : ns.Pairwise (· < ·)) (hr : ∀ x ∈ ns, x < 2 * (k + r)) :
    Calls Tryz.prog 14 #[.int .i64 k, .int .i64 r, .slice a l cap] w fun e w' => e = .returned (.tuple #[.int .i64 (kindN k ns), .nilIface]) ∧ Below w.heap.size w w' := by
  have HK : Hid (kindN k ns = if ns.length = 0 then 0 else if ns.length = 2 ∧ (wholeL (k + r) ns).length = 1 ∧ (wholeL (k + r) ns).getD 0 0 < k then 1 else 2) := kind_way (by omega) hu
  have HW : Hid _ := whole_legal k r l cap a ns w E hE h1 h2 h3 hl hcap hX hu hr
  have HL : Hid (l = ns.length) := hl
  clear hl hX hr hu hE
  go_enter Tryz.func14, Tryz.ntmps14
  go_wp2_with fail
  refine Calls.mono HW.out ?_
  rintro e w1 ⟨v, rfl, ⟨av, cv, rfl, hl9, hm9, hn9, hx9, hf9⟩, hb1⟩
  have HB1 : Hid _ := hb1
  clear hb1
  have hk := HK.out
  generalize wholeL (k + r) ns = wl at *
  rw [← HL.out] at hk
  have HK2 : Hid _ := hk
  clear hk HK HL HW
  by_cases h0 : l = 0
  · rw [if_pos h0] at HK2
    subst h0
    clear hx9 hf9 hn9
    go_wp2
    go_ret2
    exact ⟨by rw [HK2.out]; rfl, HB1.out⟩
  · rw [if_neg h0] at HK2
    by_cases hl2 : l = 2
    · by_cases hw1 : wl.length = 1
      · obtain ⟨x, rfl⟩ := List.length_eq_one_iff.1 hw1
        obtain ⟨b, off, rfl, hbl, hc⟩ := rowI_cell hx9 (show 0 < (natJ8 [x]).length by simp [natJ8])
        have c1 := hc 0 (by simp [natJ8])
        rw [show (natJ8 [x]).getD 0 0 = (x : Int) from rfl, Nat.add_zero] at c1
        rw [show [x].length = 1 from rfl]
        by_cases hxk : x < k
        · rw [if_pos ⟨hl2, rfl, hxk⟩] at HK2
          clear hx9 hf9 hn9 hc hw1
          subst hl2
          go_wp2
          go_ret2
          exact ⟨by rw [HK2.out]; rfl, HB1.out⟩
        · rw [if_neg (fun h => hxk h.2.2)] at HK2
          clear hx9 hf9 hn9 hc hw1
          subst hl2
          go_wp2
          go_ret2
          exact ⟨by rw [HK2.out]; rfl, HB1.out⟩
      · rw [if_neg (fun h => hw1 h.2.1)] at HK2
        generalize wl.length = wn at *
        clear hx9 hf9 hn9
        subst hl2
        go_wp2
        go_ret2
        exact ⟨by rw [HK2.out]; rfl, HB1.out⟩
    · rw [if_neg (fun h => hl2 h.1)] at HK2
      generalize wl.length = wn at *
      clear hx9 hf9 hn9
      go_wp2
      go_ret2
      exact ⟨by rw [HK2.out]; rfl, HB1.out⟩
end Go.Proofs.YtjmbpldkggbdlaaGreatDoor

/- What Gone of package damage answers of legal arguments: by the rank of the rows that are left. -/
namespace Go.Proofs.YtjmbpldkggbdlaaGreatDoor
open Go.RowKit Go.Maps Gf
set_option linter.unusedVariables false
set_option maxRecDepth 20000
theorem take_grid8 {k n : Nat} {xs : List F} {A : Nat → Nat → F} {L : List Nat} (hn : ∀ x ∈ L, x < n) (hx : xs = grid k A n) : (takeM k xs (natJ8 L)).flatten = grid k (fun i j => A (L.getD i 0) j) L.length := by
  subst hx
  rw [grid_flat k (fun i j => A (L.getD i 0) j)]
  congr 1
  apply List.ext_getElem
  · simp [takeM, natJ8]
  · intro i h1 h2
    have hi : i < L.length := by simpa [takeM, natJ8] using h1
    have e : L.getD i 0 = L[i] := by simp [List.getD, hi]
    simp only [takeM, natJ8, List.getElem_map, List.getElem_range, Int.toNat_natCast]
    rw [rowAt_grid (hn _ (List.getElem_mem hi)), e]
theorem take_rank8 {k r : Nat} {L : List Nat} (hn : ∀ x ∈ L, x < 2 * (k + r)) :
    (pivL (cellF (2 * k) (takeM (2 * k) (halfM k r) (natJ8 L)).flatten) L.length (2 * k)).length = rankL k (carN (groupN k r)) L := by
  rw [take_grid8 (xs := halfM k r) (A := halfF k (carN (groupN k r))) hn rfl]
  exact congrArg List.length (pivL_congr fun i hi j hj => at8_grid hi hj)
theorem take_len8 {k r : Nat} {L : List Nat} (hn : ∀ x ∈ L, x < 2 * (k + r)) : (takeM (2 * k) (halfM k r) (natJ8 L)).flatten.length = L.length * (2 * k) := by
  rw [take_grid8 (xs := halfM k r) (A := halfF k (carN (groupN k r))) hn rfl, grid_len]
/-- what Gone names -/
def ErrsG (w : World) (E : Nat → Addr) : Prop := ErrsH w E ∧ w.cell? ⟨2, 0, none⟩ = some (errAt (E 1)) ∧ w.cell? ⟨3, 0, none⟩ = some (errAt (E 11))
theorem errsG_below {w w' : World} {E : Nat → Addr} (h : ErrsG w E) (hb : Below w.heap.size w w') : ErrsG w' E := ⟨errsH_below h.1 hb, cell_later hb h.2.1, cell_later hb h.2.2⟩
set_option maxHeartbeats 4000000 in
theorem gone_legal (k r l cap : Nat) (a : Option Addr) (ns : List Nat) (w : World) (E : Nat → Addr) (hE : ErrsG w E) (h1 : 1 ≤ k) (h2 : 2 ≤ r) (h3 : k + r ≤ 16) (hl : l = ns.length) (hcap : l ≤ cap) (hX : RowI w a (natJ8 ns)) (hu : ns.Pairwise (· < ·)) (hr : ∀ x ∈ ns, x < 2 * (k + r)) :
    Calls Tryz.prog 15 #[.int .i64 k, .int .i64 r, .slice a l cap] w fun e w' => e = .returned (.tuple #[.bool (goneB k (2 * (k + r)) (carN (groupN k r)) ns), .nilIface]) ∧ Below w.heap.size w w' := by
  have HW : Hid _ := left_legal k r l cap a ns w E hE.1 h1 h2 h3 hl hcap hX hu hr
  have HE : Hid _ := hE
  have HV : Hid _ := fun w s hs => hrows_F k r w s hs h1 h2 h3
  have hml := halfM_len k r
  have HML : Hid _ := hml
  have hlin : ∀ x ∈ leftL (2 * (k + r)) ns, x < 2 * (k + r) := fun x hx => (mem_leftL.1 hx).1
  have HRK : Hid _ := take_rank8 hlin
  have HTL : Hid _ := take_len8 hlin
  have HG : Hid (goneB k (2 * (k + r)) (carN (groupN k r)) ns = decide (rankL k (carN (groupN k r)) (leftL (2 * (k + r)) ns) < 2 * k)) := rfl
  have HLE : Hid _ := leftL_le (2 * (k + r)) ns
  have HLIN : Hid _ := hlin
  clear hl hX hr hu hE hml hlin
  rw [HG.out]
  clear HG
  generalize leftL (2 * (k + r)) ns = lf at *
  obtain ⟨n, hn⟩ : ∃ n, n = 2 * (k + r) := ⟨_, rfl⟩
  obtain ⟨c, hc⟩ : ∃ c, c = 2 * k := ⟨_, rfl⟩
  rw [← hn, ← hc] at HV HML
  rw [← hn] at HLE HLIN
  rw [← hc] at HRK HTL
  rw [← hc]
  have hn32 : n ≤ 32 := by omega
  have hc32 : c ≤ 32 := by omega
  clear hn hc
  go_enter Tryz.func15, Tryz.ntmps15
  go_wp2_with fail
  refine Calls.mono HW.out ?_
  rintro e w1 ⟨v, rfl, ⟨av, cv, rfl, hl9, hm9, hn9, hx9, hf9⟩, hb1⟩
  have HB1 : Hid _ := hb1
  have HX9 : Hid _ := hx9
  clear hb1 hx9 hf9 hn9
  go_wp2_with fail
  refine Calls.mono (HV.out _ (E 1) (errsG_below HE.out HB1.out).2.1) ?_
  rintro e w2 ⟨g2, m2, rfl, hm2, hg2, hh2, hb2⟩
  have HM2 : Hid _ := hm2
  have HA2 : Hid _ := holds_new (holds_cons (holds_nil w2) hh2) #[.int .i64 n, .int .i64 c, .slice (some ⟨g2, 0, none⟩) m2 m2] 63
  have hB2 := HB1.out.trans (hb2.mono HB1.out.size)
  have HX2 : Hid _ := rowI_alloc (rowI_below HX9.out hb2) (.cells #[.int .i64 n, .int .i64 c, .slice (some ⟨g2, 0, none⟩) m2 m2] 63)
  have HB2 : Hid _ := hB2.alloc hB2.size (.cells #[.int .i64 n, .int .i64 c, .slice (some ⟨g2, 0, none⟩) m2 m2] 63)
  clear hb2 hh2 hm2 hB2
  have c1 := cellAt (holds_at HA2.out 0 rfl) 0 _ rfl
  have c2 := cellAt (holds_at HA2.out 0 rfl) 1 _ rfl
  have c3 := cellAt (holds_at HA2.out 0 rfl) 2 _ rfl
  have z3 := ltHeap (holds_at HA2.out 0 rfl)
  go_wp2_with fail
  refine Calls.mono (take_F n c m2 m2 lf.length cv (some ⟨g2, 0, none⟩) av (halfM k r) (natJ8 lf) _ (by omega) (by omega) HM2.out HML.out (Nat.le_refl _) (holds_row HA2.out 1 rfl) (fun h => by cases h) (natJ8_len _).symm (by have := HLE.out; omega) HX2.out (E 11) (errsG_below HE.out HB2.out).2.2) ?_
  rintro e w3 (⟨_, g3, m3, rfl, hm3, hg3, hh3, hb3⟩ | ⟨hno, _⟩)
  · have HM3 : Hid _ := hm3
    have HA3 : Hid _ := holds_new (holds_cons (holds_later HA2.out hb3) hh3) #[.int .i64 lf.length, .int .i64 c, .slice (some ⟨g3, 0, none⟩) m3 m3] 63
    have hB3 := HB2.out.trans (hb3.mono HB2.out.size)
    have HB3 : Hid _ := hB3.alloc hB3.size (.cells #[.int .i64 lf.length, .int .i64 c, .slice (some ⟨g3, 0, none⟩) m3 m3] 63)
    clear hb3 hh3 hm3 hB3 c1 c2 c3 z3
    have c1 := cellAt (holds_at HA3.out 0 rfl) 0 _ rfl
    have c2 := cellAt (holds_at HA3.out 0 rfl) 1 _ rfl
    have c3 := cellAt (holds_at HA3.out 0 rfl) 2 _ rfl
    have z3 := ltHeap (holds_at HA3.out 0 rfl)
    have hlf : lf.length ≤ 32 := by have := HLE.out; omega
    go_wp2_with fail
    refine Calls.mono (rank_F lf.length c m3 m3 (some ⟨g3, 0, none⟩) (takeM c (halfM k r) (natJ8 lf)).flatten _ (by omega) (by omega) HM3.out HTL.out (Nat.le_refl _) (holds_row HA3.out 1 rfl) (fun h => by cases h)) ?_
    rw [HRK.out]
    rintro e w4 ⟨rfl, hb4⟩
    have HB4 : Hid _ := HB3.out.trans (hb4.mono HB3.out.size)
    have h9 := holds_later HA3.out hb4
    have HCOL : Hid _ := holds_at h9 2 rfl
    clear hb4 c1 c2 c3 z3
    have c1 := cellAt HCOL.out 1 _ rfl
    go_wp2
    go_ret2
    exact ⟨rfl, HB4.out⟩
  · exact absurd (fun x hx => by
      obtain ⟨y, hy, rfl⟩ := List.mem_map.1 hx
      have := HLIN.out y hy
      omega) hno
end Go.Proofs.YtjmbpldkggbdlaaGreatDoor

/- What Name and Parse of package half answer, at all numbers and texts; unlike halves have unlike names; nothing that was there turns. -/
namespace Go.Proofs.YtjmbpldkggbdlaaGreatDoor
open Go.RowKit Gf
set_option linter.unusedVariables false
set_option maxRecDepth 20000
theorem strB_eq {a b : List UInt8} (h : a = b) : ((strB a).toList == (strB b).toList) = true := by rw [h]; exact beq_self_eq_true _
theorem strB_ne {a b : List UInt8} (h : ¬ a = b) : ((strB a).toList == (strB b).toList) = false := by rw [strB_list, strB_list]; exact beq_eq_false_iff_ne.2 h
theorem nameB_inj : ∀ k < 15, ∀ h < 32, ∀ j < 32, nameB k h = nameB k j → h = j := by decide +kernel
theorem nameB_len : ∀ k < 15, ∀ h < 32, 3 ≤ (nameB k h).length ∧ (nameB k h).length ≤ 4 := by decide +kernel
set_option maxHeartbeats 1000000 in
theorem name_ok (k r h : Nat) (w : World) (h1 : 1 ≤ k) (h2 : 2 ≤ r) (h3 : k + r ≤ 16) (hh : h < 2 * (k + r)) :
    Calls Tryz.prog 37 #[.int .i64 k, .int .i64 r, .int .i64 h] w fun e w' => e = .returned (.tuple #[.string (strB (nameB k h)), .nilIface]) ∧ Below w.heap.size w w' := by
  obtain ⟨s, p, hp, hs, en⟩ : ∃ s p : Nat, p < 2 ∧ s < k + r ∧ h = 2 * s + p := ⟨h / 2, h % 2, by omega, by omega, by omega⟩
  have HE : Hid _ := en
  clear en hh
  go_enter Tryz.func37, Tryz.ntmps37
  go_wp2_with fail
  refine (find_ok k r h s p _ h1 h2 h3 HE.out hp hs).mono ?_
  rintro e w1 ⟨rfl, hb1⟩
  have HB1 : Hid _ := hb1.alloc hb1.size (.cells #[.int .i64 s, .int .i64 p] 77)
  clear hb1
  go_wp2_with fail
  refine (nameOf_F k h s p _ HE.out hp (by omega) (by omega)).mono ?_
  rintro e w2 ⟨rfl, hb2⟩
  have HB2 : Hid (Below w.heap.size w w2) := HB1.out.trans (hb2.mono HB1.out.size)
  clear hb2
  go_wp2
  go_ret2
  exact ⟨rfl, HB2.out⟩
theorem name_err (k r h : Int) (s : Addr) (w : World) (hF : ∀ w0 : World, w0 = w → Calls Tryz.prog 43 #[.int .i64 k, .int .i64 r, .int .i64 h] w0 fun e w' => e = .returned (.tuple #[.agg #[.int .i64 0, .int .i64 0], errAt s]) ∧ Below w0.heap.size w0 w') :
    Calls Tryz.prog 37 #[.int .i64 k, .int .i64 r, .int .i64 h] w fun e w' => e = .returned (.tuple #[.string (strB []), errAt s]) ∧ Below w.heap.size w w' := by
  have HF : Hid _ := hF
  clear hF
  unfold errAt at HF ⊢
  go_enter Tryz.func37, Tryz.ntmps37
  go_wp2_with fail
  refine (HF.out _ rfl).mono ?_
  rintro e w1 ⟨rfl, hb⟩
  have HB : Hid _ := hb
  clear hb
  go_wp2
  go_ret2
  exact ⟨rfl, HB.out.alloc HB.out.size _⟩
theorem name_bad (k r h : Int) (w : World) (s : Addr) (hs : w.cell? ⟨0, 0, none⟩ = some (errAt s)) (hk0 : -9223372036854775808 ≤ k) (hk1 : k ≤ 9223372036854775807) (hr0 : -9223372036854775808 ≤ r) (hr1 : r ≤ 9223372036854775807) (hL : ¬ LegalP k r) :
    Calls Tryz.prog 37 #[.int .i64 k, .int .i64 r, .int .i64 h] w fun e w' => e = .returned (.tuple #[.string (strB []), errAt s]) ∧ Below w.heap.size w w' :=
  name_err k r h s w fun w0 e => find_bad k r h w0 s (e ▸ hs) hk0 hk1 hr0 hr1 hL
theorem name_no (k r : Nat) (h : Int) (w : World) (s : Addr) (hs : w.cell? ⟨1, 0, none⟩ = some (errAt s)) (h1 : 1 ≤ k) (h2 : 2 ≤ r) (h3 : k + r ≤ 16) (hh : ¬ (0 ≤ h ∧ h < 2 * (k + r))) :
    Calls Tryz.prog 37 #[.int .i64 k, .int .i64 r, .int .i64 h] w fun e w' => e = .returned (.tuple #[.string (strB []), errAt s]) ∧ Below w.heap.size w w' :=
  name_err k r h s w fun w0 e => find_no k r h w0 s (e ▸ hs) h1 h2 h3 hh
theorem parse_bad (k r : Int) (b : ByteArray) (w : World) (s : Addr) (hs : w.cell? ⟨0, 0, none⟩ = some (errAt s)) (hk0 : -9223372036854775808 ≤ k) (hk1 : k ≤ 9223372036854775807) (hr0 : -9223372036854775808 ≤ r) (hr1 : r ≤ 9223372036854775807) (hL : ¬ LegalP k r) :
    Calls Tryz.prog 42 #[.int .i64 k, .int .i64 r, .string b] w fun e w' => e = .returned (.tuple #[.int .i64 0, errAt s]) ∧ w = w' := by
  have HS : Hid _ := hs
  have H : Hid _ := hL
  clear hs hL
  go_enter Tryz.func42, Tryz.ntmps42
  go_wp2_with fail
  refine (bcheck_bad k r _ s HS.out hk0 hk1 hr0 hr1 H.out).mono ?_
  unfold errAt
  rintro e w' ⟨rfl, rfl⟩
  go_wp2
  go_ret2
  exact ⟨rfl, rfl⟩
/-- which half a name is -/
def ParsedAs (k n : Nat) (l : List UInt8) (s : Addr) (v : Value) : Prop :=
  (∃ h : Nat, h < n ∧ nameB k h = l ∧ v = .tuple #[.int .i64 h, .nilIface]) ∨ (∀ h, h < n → nameB k h ≠ l) ∧ v = .tuple #[.int .i64 0, errAt s]
set_option maxHeartbeats 1000000 in
theorem parse_F (k r : Nat) (l : List UInt8) (w : World) (s : Addr) (hs : w.cell? ⟨1, 0, none⟩ = some (errAt s)) (h1 : 1 ≤ k) (h2 : 2 ≤ r) (h3 : k + r ≤ 16) :
    Calls Tryz.prog 42 #[.int .i64 k, .int .i64 r, .string (strB l)] w fun e w' => (∃ v, e = .returned v ∧ ParsedAs k (2 * (k + r)) l s v) ∧ Below w.heap.size w w' := by
  have HS : Hid _ := hs
  clear hs
  go_enter Tryz.func42, Tryz.ntmps42
  go_wp2_with fail
  refine (bcheck_ok _ _ _ h1 h2 h3).mono ?_
  rintro e w' ⟨rfl, rfl⟩
  go_wp2
  go_loopw [20] (fun i wr => ∃ j : Nat, j ≤ 2 * (k + r) ∧ i = .int .i64 j ∧ Below w.heap.size w wr ∧ ∀ h, h < j → nameB k h ≠ l) (fun i _ => 2 * (k + r) - (intOf i).toNat)
  case atStart => exact ⟨0, by omega, rfl, Below.refl _ _, fun h hh => absurd hh (Nat.not_lt_zero h)⟩
  case round =>
    obtain ⟨j, hj, rfl, hb, hno⟩ := hrel
    have HB : Hid _ := hb
    have HNO : Hid _ := hno
    clear hb hno
    by_cases hlt : j < 2 * (k + r)
    · have a1 : (j : Int) < 2 * ((k : Int) + r) := by omega
      obtain ⟨s1, p, hp, hs1, en⟩ : ∃ s p : Nat, p < 2 ∧ s < k + r ∧ j = 2 * s + p := ⟨j / 2, j % 2, by omega, by omega, by omega⟩
      have HE : Hid _ := en
      clear en
      go_wp2_with fail
      refine (placeOf_F j s1 p _ HE.out hp (by omega)).mono ?_
      rintro e w2 ⟨rfl, hb2⟩
      have HB2 : Hid (Below w.heap.size w w2) := HB.out.trans (hb2.mono HB.out.size)
      clear hb2
      go_wp2_with fail
      refine (nameOf_F k j s1 p _ HE.out hp (by omega) (by omega)).mono ?_
      rintro e w3 ⟨rfl, hb3⟩
      have HB3 : Hid (Below w.heap.size w w3) := HB2.out.trans (hb3.mono HB2.out.size)
      clear hb3
      by_cases he : nameB k j = l
      · have hq := strB_eq he
        go_wp2
        go_ret2
        exact ⟨⟨_, rfl, .inl ⟨j, hlt, he, rfl⟩⟩, HB3.out⟩
      · have hq := strB_ne he
        go_wp2
        refine ⟨⟨j + 1, by omega, by go_num, HB3.out, fun h hh => ?_⟩, by simp [intOf]; omega⟩
        by_cases e : h = j
        · rw [e]; exact he
        · exact HNO.out h (by omega)
    · have a1 : ¬ (j : Int) < 2 * ((k : Int) + r) := by omega
      obtain rfl : j = 2 * (k + r) := by omega
      have hsx := cell_later HB.out HS.out
      have hg := World.block_lt_of_cell? _ _ hsx
      unfold errAt at hsx
      go_wp2
      go_region
      go_wp2
      go_ret2
      exact ⟨⟨_, rfl, .inr ⟨HNO.out, rfl⟩⟩, HB.out.drew⟩
end Go.Proofs.YtjmbpldkggbdlaaGreatDoor

/- What Text of package damage answers of legal arguments. -/
namespace Go.Proofs.YtjmbpldkggbdlaaGreatDoor
open Go.RowKit Go.Maps Gf
set_option linter.unusedVariables false
set_option maxRecDepth 20000
/-- texts with room behind -/
def smW (vs : List Value) (r : Nat) : Array Value := (vs ++ List.replicate (r - vs.length) (Value.string ⟨#[]⟩)).toArray
theorem smW_at {vs : List Value} {r i : Nat} {v : Value} (h : vs[i]? = some v) : (smW vs r)[i]? = some v := by
  have hi := (List.getElem?_eq_some_iff.1 h).1
  simp only [smW, List.getElem?_toArray]
  rw [List.getElem?_append_left hi, h]
theorem smW_next {vs : List Value} {r : Nat} (h : vs.length < r) : (smW vs r)[vs.length]? = some (.string ⟨#[]⟩) := by
  simp only [smW, List.getElem?_toArray]
  rw [List.getElem?_append_right (Nat.le_refl _), Nat.sub_self, List.getElem?_replicate, if_pos (by omega)]
theorem smW_set {vs : List Value} {r : Nat} (v : Value) (h : vs.length < r) : (smW vs r).setIfInBounds vs.length v = smW (vs ++ [v]) r := by
  simp only [smW]
  apply Array.toList_inj.1
  simp only [Array.toList_setIfInBounds, List.length_append, List.length_singleton, List.append_assoc]
  rw [List.set_append_right _ _ (Nat.le_refl _), Nat.sub_self]
  rw [show r - vs.length = (r - (vs.length + 1)) + 1 from by omega, List.replicate_succ]
  simp
theorem run_makeStr (n : Nat) (hn : n ≤ 64) (w : World) :
    (Instr.makeSlice 68 (.int .i64 (n : Int)) (.int .i64 (n : Int))).run Tryz.prog w = .ok (.slice (some ⟨w.heap.size, 0, none⟩) n n) (w.alloc (.cells (smW [] n) 9)) := by
  have hi : (Tryz.prog.info? 9).map (fun i => (i.size, i.bytes, i.zero)) = some (1, 16, some (.string ⟨#[]⟩)) := by kernel_rfl
  cases hq : Tryz.prog.info? 9 with
  | none => simp [hq] at hi
  | some i =>
    simp only [hq, Option.map_some, Option.some.injEq, Prod.mk.injEq] at hi
    have := run_make (P := Tryz.prog) w 68 9 i _ Tryz.underlying68 hq hi.2.2 .i64 .i64 n n (by omega) (by omega) (by rw [hi.2.1]; omega) (by omega)
    rw [this, hi.1]
    have e : madeCells (Value.string ⟨#[]⟩).cells n = smW [] n := by
      apply Array.ext_getElem?
      intro i
      by_cases h : i < n <;> simp [madeCells, smW, Value.cells, h, Nat.mod_one]
    simp only [Int.toNat_natCast, Nat.mul_one, e]
/-- the text of lost halves -/
def textB (k : Nat) (ns : List Nat) : List UInt8 := if ns = [] then [110, 111, 110, 101] else Lib.join (ns.map (nameB k)) [44]
def strsV (k : Nat) (ns : List Nat) : List Value := ns.map fun h => .string (strB (nameB k h))
theorem strsV_len (k : Nat) (ns : List Nat) : (strsV k ns).length = ns.length := by simp [strsV]
theorem strB_data (l : List UInt8) : (strB l).data.toList = l := by simp [strB]
theorem names_join (k : Nat) (ns : List Nat) : ((ns.map fun h => strB (nameB k h)).map (·.data.toList)) = ns.map (nameB k) := by
  rw [List.map_map]
  apply List.map_congr_left
  intro h _
  exact strB_data _
theorem join_short {k : Nat} (hk : k < 15) : ∀ (ns : List Nat), (∀ x ∈ ns, x < 32) → Lib.lens (ns.map (nameB k)) ≤ 4 * ns.length
  | [], _ => by simp [Lib.lens]
  | x :: ns, h => by
    have := join_short hk ns (fun y hy => h y (List.mem_cons_of_mem _ hy))
    have h4 := (nameB_len k hk x (h x (by simp))).2
    simp only [Lib.lens, List.map_cons, List.sum_cons, List.length_cons] at *
    omega
theorem textB_len {k n : Nat} {ns : List Nat} (hk : k < 15) (hn : n ≤ 32) (h1 : ns.Pairwise (· < ·)) (h2 : ∀ x ∈ ns, x < n) : (Lib.join (ns.map (nameB k)) [44]).length ≤ 200 := by
  have hl := pair_len h1 h2
  have hs := join_short hk ns (fun x hx => by have := h2 x hx; omega)
  cases ns with
  | nil => simp [Lib.join_nil]
  | cons x ns =>
    rw [List.map_cons] at hs ⊢
    rw [Lib.join_length]
    simp only [List.length_cons, List.length_nil, List.length_map] at *
    omega
set_option maxHeartbeats 4000000 in
theorem text_legal (k r l cap : Nat) (a : Option Addr) (ns : List Nat) (w : World) (E : Nat → Addr) (hE : ErrsH w E) (h1 : 1 ≤ k) (h2 : 2 ≤ r) (h3 : k + r ≤ 16) (hl : l = ns.length) (hcap : l ≤ cap) (hX : RowI w a (natJ8 ns)) (hu : ns.Pairwise (· < ·)) (hr : ∀ x ∈ ns, x < 2 * (k + r)) :
    Calls Tryz.prog 16 #[.int .i64 k, .int .i64 r, .slice a l cap] w fun e w' => e = .returned (.tuple #[.string (strB (textB k ns)), .nilIface]) ∧ Below w.heap.size w w' := by
  have hlen : l ≤ 32 := by have := pair_len hu hr; omega
  have HC : Hid _ := dcheck_legal k r l cap a (natJ8 ns) w E hE h1 h2 h3 (by rw [natJ8_len]; exact hl) (by omega) hcap hX
  have HZ : Hid _ := chkE_ok h1 h2 h3 (goodH_of hu hr)
  have HT : Hid (textB k ns = if ns = [] then [110, 111, 110, 101] else Lib.join (ns.map (nameB k)) [44]) := rfl
  have HJL : Hid ((Lib.join (ns.map (nameB k)) [44]).length ≤ 200) := textB_len (by omega) (by omega) hu hr
  have HL : Hid (l = ns.length) := hl
  have HX : Hid (RowI w a (natJ8 ns)) := hX
  have HR : Hid (∀ x ∈ ns, x < 2 * (k + r)) := hr
  have hmk := run_makeStr l (by omega)
  clear hl hX hr hu hE
  go_enter Tryz.func16, Tryz.ntmps16
  go_wp2_with fail
  refine Calls.mono HC.out ?_
  rw [HZ.out]
  rintro e w1 ⟨rfl, hb1⟩
  have HB1 : Hid _ := hb1
  clear hb1
  rw [show evH E 0 = Value.nilIface from rfl]
  by_cases h0 : l = 0
  · have hns : ns = [] := List.eq_nil_of_length_eq_zero (by rw [← HL.out]; exact h0)
    have HT2 : Hid (textB k ns = [110, 111, 110, 101]) := by have := HT.out; rwa [if_pos hns] at this
    subst h0
    clear hns
    go_wp2
    go_ret2
    exact ⟨by rw [HT2.out]; rfl, HB1.out⟩
  · have hns : ¬ ns = [] := fun h => h0 (by rw [HL.out, h]; rfl)
    have HT2 : Hid (textB k ns = Lib.join (ns.map (nameB k)) [44]) := by have := HT.out; rwa [if_neg hns] at this
    clear hns HT
    have HM0 : Hid _ := heap_alloc_last w1 (.cells (smW [] l) 9)
    have HB2 : Hid _ := HB1.out.alloc HB1.out.size (.cells (smW [] l) 9)
    have HZ1 : Hid _ := HB1.out.size
    go_wp2
    have e0 : ((l : Int) == 0) = false := by
      rw [beq_eq_false_iff_ne]; omega
    rw [e0]
    clear e0
    go_loopw [29] (fun i wr => ∃ j : Nat, j ≤ l ∧ i = .int .i64 j ∧ Below w.heap.size w wr ∧ wr.heap[w1.heap.size]? = some (.cells (smW (strsV k (ns.take j)) l) 9 (0, 0))) (fun i _ => l - (intOf i).toNat)
    case atStart => exact ⟨0, by omega, rfl, HB2.out, by rw [List.take_zero]; exact HM0.out⟩
    case round =>
      obtain ⟨j, hj, rfl, hb, hm⟩ := hrel
      have HB : Hid _ := hb
      have HM : Hid _ := hm
      clear hb hm
      by_cases hlt : j < l
      · have hin : j < ns.length := by rw [← HL.out]; exact hlt
        obtain ⟨b, off, hab, hbl, hc⟩ := rowI_cell (rowI_below HX.out HB.out) (show j < (natJ8 ns).length by rw [natJ8_len]; exact hin)
        have c1 := hc j (by rw [natJ8_len]; exact hin)
        rw [show (natJ8 ns).getD j 0 = ((ns[j] : Nat) : Int) by simp [natJ8, List.getD, hin]] at c1
        have hx9 := HR.out _ (List.getElem_mem hin)
        have HTK : Hid (ns.take (j + 1) = ns.take j ++ [ns[j]]) := List.take_succ_eq_append_getElem hin
        generalize ns[j] = x at *
        have HTJ : Hid ((strsV k (ns.take j)).length = j) := by show _ = _; rw [strsV_len, List.length_take]; omega
        clear hc
        subst hab
        go_wp2_with fail
        refine Calls.mono (name_ok k r x _ h1 h2 h3 hx9) ?_
        rintro e w4 ⟨rfl, hb4⟩
        have HB4 : Hid _ := HB.out.trans (hb4.mono HB.out.size)
        have hs5 := (hb4.block _ (ltHeap HM.out)).trans HM.out
        have c7 : w4.cell? ⟨w1.heap.size, j, none⟩ = some (.string ⟨#[]⟩) := cellAt hs5 j _ (by have e := smW_next (vs := strsV k (ns.take j)) (r := l) (by rw [HTJ.out]; exact hlt); rwa [HTJ.out] at e)
        have d7 : w4.frozen? ⟨w1.heap.size, j, none⟩ = false := frozen_of_row _ _ _ _ _ hs5
        have z7 := ltHeap hs5
        have HS6 : Hid ((w4.setCell ⟨w1.heap.size, j, none⟩ (.string (strB (nameB k x)))).heap[w1.heap.size]? = some (.cells (smW (strsV k (ns.take (j + 1))) l) 9 (0, 0))) := by
          show _ = _
          rw [heap_setCell_same _ _ _ _ _ _ hs5]
          have e := smW_set (.string (strB (nameB k x))) (vs := strsV k (ns.take j)) (r := l) (by rw [HTJ.out]; exact hlt)
          rw [HTJ.out] at e
          rw [e, HTK.out]
          simp [strsV]
        have HB6 : Hid _ := HB4.out.setCell (p := ⟨w1.heap.size, j, none⟩) HZ1.out (.string (strB (nameB k x)))
        clear hs5 hb4 c1
        go_wp2
        exact ⟨⟨j + 1, by omega, by go_num, HB6.out, HS6.out⟩, by simp [intOf]; omega⟩
      · obtain rfl : j = l := by omega
        have hm := HM.out
        rw [show ns.take j = ns by rw [HL.out, List.take_length]] at hm
        have hz := ltHeap hm
        have hjn := names_join k ns
        have HCJ : Hid _ := join_F w1.heap.size 0 j (ns.map fun h => strB (nameB k h)) (strB [44]) wr (fun q x hq => by
          rw [Nat.zero_add]
          refine cellAt hm q _ (smW_at ?_)
          rw [List.getElem?_map] at hq
          rw [strsV, List.getElem?_map]
          cases hg : ns[q]? with
          | none => rw [hg] at hq; cases hq
          | some y => rw [hg] at hq; cases hq; rfl) hz (by rw [List.length_map, ← HL.out]; omega) (by rw [List.length_map, ← HL.out]; exact Nat.le_refl _) (by rw [hjn, strB_data]; have := HJL.out; omega)
        have HJ2 : Hid (strB (Lib.join ((ns.map fun h => strB (nameB k h)).map (·.data.toList)) (strB [44]).data.toList) = strB (textB k ns)) := by show _ = _; rw [hjn, strB_data, HT2.out]
        clear hm hjn
        rw [HJ2.out] at HCJ
        have HCK : Hid (Calls Tryz.prog 38 #[.slice (some ⟨w1.heap.size, 0, none⟩) j j, .string (strB [44])] wr fun e w' => e = .returned (.string (strB (textB k ns))) ∧ Below wr.heap.size wr w') := by
          have h := HCJ.out
          rw [show (ns.map fun h => strB (nameB k h)).length = j by rw [List.length_map]; exact HL.out.symm] at h
          exact h
        clear HCJ HJ2
        go_wp2_with fail
        refine Calls.mono HCK.out ?_
        rintro e w5 ⟨rfl, hb5⟩
        have HB5 : Hid _ := HB.out.trans (hb5.mono HB.out.size)
        clear hb5
        go_wp2
        go_ret2
        exact ⟨rfl, HB5.out⟩
end Go.Proofs.YtjmbpldkggbdlaaGreatDoor

/- alive of stage 8. -/
namespace Go.Proofs.YtjmbpldkggbdlaaGreatDoor
open Go.RowKit Go.Maps Gf
set_option linter.unusedVariables false
set_option maxRecDepth 20000
theorem textA : textB 2 [0, 5] = [100, 48, 97, 44, 112, 48, 98] := by decide +kernel
theorem rowI_new (w : World) (ns : List Nat) : RowI (w.alloc (.cells (vis (natJ8 ns)) 3)) (some ⟨w.heap.size, 0, none⟩) (natJ8 ns) := rowI_vis (heap_alloc_last w _)
set_option maxHeartbeats 4000000 in
theorem alive8_ok (w : World) (E : Nat → Addr) (hE : ErrsG w E) : Calls Tryz.prog 9 #[] w fun e w' => e = .returned (.bool true) ∧ Below w.heap.size w w' := by
  have HE : Hid (ErrsG w E) := hE
  have HK : Hid (∀ W, Below w.heap.size w W → Calls Tryz.prog 14 #[.int .i64 2, .int .i64 2, .slice (some ⟨W.heap.size, 0, none⟩) 2 2] (W.alloc (.cells #[.int .i64 2, .int .i64 3] 3)) fun e w' => e = .returned (.tuple #[.int .i64 1, .nilIface]) ∧ Below w.heap.size w w') := fun W hb => by
    have hb2 := hb.alloc hb.size (.cells #[.int .i64 2, .int .i64 3] 3)
    have h := kind_legal 2 2 2 2 (some ⟨W.heap.size, 0, none⟩) [2, 3] (W.alloc (.cells #[.int .i64 2, .int .i64 3] 3)) E (errsG_below HE.out hb2).1 (by decide) (by decide) (by decide) rfl (by decide) (rowI_new W [2, 3]) (by decide) (by decide)
    rw [show kindN 2 [2, 3] = 1 by decide] at h
    exact h.mono fun e w' ⟨h1, h2⟩ => ⟨h1, hb2.trans (h2.mono hb2.size)⟩
  have HT : Hid (∀ W, Below w.heap.size w W → Calls Tryz.prog 16 #[.int .i64 2, .int .i64 2, .slice (some ⟨W.heap.size, 0, none⟩) 2 2] (W.alloc (.cells #[.int .i64 0, .int .i64 5] 3)) fun e w' => e = .returned (.tuple #[.string ⟨#[100, 48, 97, 44, 112, 48, 98]⟩, .nilIface]) ∧ Below w.heap.size w w') := fun W hb => by
    have hb2 := hb.alloc hb.size (.cells #[.int .i64 0, .int .i64 5] 3)
    have h := text_legal 2 2 2 2 (some ⟨W.heap.size, 0, none⟩) [0, 5] (W.alloc (.cells #[.int .i64 0, .int .i64 5] 3)) E (errsG_below HE.out hb2).1 (by decide) (by decide) (by decide) rfl (by decide) (rowI_new W [0, 5]) (by decide) (by decide)
    rw [textA] at h
    exact h.mono fun e w' ⟨h1, h2⟩ => ⟨h1, hb2.trans (h2.mono hb2.size)⟩
  have HG : Hid (∀ W, Below w.heap.size w W → Calls Tryz.prog 15 #[.int .i64 2, .int .i64 2, .slice (some ⟨W.heap.size, 0, none⟩) 5 5] (W.alloc (.cells #[.int .i64 0, .int .i64 1, .int .i64 2, .int .i64 3, .int .i64 4] 3)) fun e w' => e = .returned (.tuple #[.bool true, .nilIface]) ∧ Below w.heap.size w w') := fun W hb => by
    have hb2 := hb.alloc hb.size (.cells #[.int .i64 0, .int .i64 1, .int .i64 2, .int .i64 3, .int .i64 4] 3)
    have h := gone_legal 2 2 5 5 (some ⟨W.heap.size, 0, none⟩) [0, 1, 2, 3, 4] (W.alloc (.cells #[.int .i64 0, .int .i64 1, .int .i64 2, .int .i64 3, .int .i64 4] 3)) E (errsG_below HE.out hb2) (by decide) (by decide) (by decide) rfl (by decide) (rowI_new W [0, 1, 2, 3, 4]) (by decide) (by decide)
    rw [gone_many (by decide) (by decide) (by decide)] at h
    exact h.mono fun e w' ⟨h1, h2⟩ => ⟨h1, hb2.trans (h2.mono hb2.size)⟩
  clear hE
  go_enter Tryz.func9, Tryz.ntmps9
  go_wp2_with fail
  refine Calls.mono (HK.out w (Below.refl _ _)) ?_
  rintro e w1 ⟨rfl, hb1⟩
  have HB1 : Hid _ := hb1
  clear hb1
  go_wp2_with fail
  refine Calls.mono (HT.out w1 HB1.out) ?_
  rintro e w2 ⟨rfl, hb2⟩
  have HB2 : Hid _ := hb2
  clear hb2
  go_wp2_with fail
  refine Calls.mono (HG.out w2 HB2.out) ?_
  rintro e w3 ⟨rfl, hb3⟩
  have HB3 : Hid _ := hb3
  clear hb3
  go_wp2
  go_ret
  exact ⟨rfl, HB3.out⟩
end Go.Proofs.YtjmbpldkggbdlaaGreatDoor

/- The errors that the statements of stage 8 lay, by number; short lists in memory. -/
namespace Go.Proofs.YtjmbpldkggbdlaaGreatDoor
open Go.RowKit Gf
set_option linter.unusedVariables false
set_option maxRecDepth 20000
def gsDam : List Nat := [0, 2, 1, 3]
def ofDam (es : List Addr) : Nat → Addr := fun n => es.getD (if n = 1 then 1 else if n = 3 then 2 else if n = 11 then 3 else 0) ⟨0, 0, none⟩
theorem errsG_of {w : World} {es : List Addr} (h : ErrsAt w gsDam es) : ErrsG w (ofDam es) := by
  have hl : es.length = 4 := h.1.symm
  match es, hl with
  | [a, b, c, d], _ => exact ⟨⟨(h.2.2 0 _ a rfl rfl).1, (h.2.2 2 _ c rfl rfl).1⟩, (h.2.2 1 _ b rfl rfl).1, (h.2.2 3 _ d rfl rfl).1⟩
theorem errsG_other {w : World} {es : List Addr} (h : ErrsAt w gsDam es) : ofDam es 0 ≠ ofDam es 3 := by
  have hl : es.length = 4 := h.1.symm
  have hn := h.2.1
  intro h9
  match es, hl with
  | [a, b, c, d], _ =>
    have e1 : a = c := h9
    subst e1
    simp at hn
theorem rowI_list {w : World} {g o : Nat} {cs : Array Value} {t : TypeId} {fr : Nat × Nat} {ns : List Int} (h : w.heap[g]? = some (.cells cs t fr)) (hn : ∀ j n, ns[j]? = some n → cs[o + j]? = some (.int .i64 n)) : RowI w (some ⟨g, o, none⟩) ns :=
  .inr ⟨g, o, rfl, fun j n hj => cellAt h (o + j) _ (hn j n hj)⟩
theorem rowI_pair {w : World} {g a b : Nat} {x y : Int} {t : TypeId} {fr : Nat × Nat} (h : w.heap[g]? = some (.cells #[.int .i64 x, .int .i64 y] t fr)) (hx : x = a) (hy : y = b) : RowI w (some ⟨g, 0, none⟩) (natJ8 [a, b]) ∧ RowI w (some ⟨g, 1, none⟩) (natJ8 [b]) := by
  subst hx hy
  refine ⟨rowI_list h fun j n hj => ?_, rowI_list h fun j n hj => ?_⟩
  · match j, hj with
    | 0, hj => cases hj; rfl
    | 1, hj => cases hj; rfl
    | j + 2, hj => cases hj
  · match j, hj with
    | 0, hj => cases hj; rfl
    | j + 1, hj => cases hj
theorem kind_two {k j : Nat} : kindN k [2 * j, 2 * j + 1] = if j < k then 1 else 2 := by
  unfold kindN
  rw [if_neg (by simp)]
  by_cases h : j < k
  · rw [if_pos h, if_pos ⟨j, h, rfl⟩]
  · rw [if_neg h, if_neg]
    rintro ⟨q, hq, e⟩
    simp at e
    omega
theorem kind_single {k x : Nat} : kindN k [x] = 2 := by
  unfold kindN
  rw [if_neg (by simp), if_neg]
  rintro ⟨q, hq, e⟩
  simp at e
theorem kind_nil {k : Nat} : kindN k [] = 0 := by unfold kindN; rw [if_pos rfl]
end Go.Proofs.YtjmbpldkggbdlaaGreatDoor

/- The document's own answers for elimination: a matrix's span, what is a combination, the rank. -/
namespace Go.Proofs.YtjmbpldkggbdlaaGreatDoor
open Go.RowKit Gf
set_option linter.unusedVariables false
set_option maxRecDepth 20000
/-- the rows of a matrix as lists' cells: 0 behind their end -/
def rowsF (c : Nat) (xs : List F) : Mt := fun i => at8 (rowAt c xs i)
theorem rowsF_cell {c : Nat} {xs : List F} {i j : Nat} (hj : j < c) : rowsF c xs i j = cellF c xs i j := at8_rowAt hj
theorem tr_rowsF {c r : Nat} {xs : List F} : ∀ i, i < c → ∀ j, j < r → tr (rowsF c xs) i j = tr (cellF c xs) i j := fun i hi j _ => rowsF_cell hi
set_option maxHeartbeats 4000000 in
theorem rof_F (r c l cap : Nat) (a : Option Addr) (xs : List F) (w : World) (hr : r ≤ 64) (hc : c ≤ 64) (hl : l = r * c) (hx : xs.length = r * c) (hcap : l ≤ cap) (hX : Row8 w a xs) (hnil : a = none → cap = 0) :
    Calls Tryz.prog 82 #[.agg #[.int .i64 r, .int .i64 c, .slice a l cap]] w fun e w' => ∃ SB t vR vM vF vB fr fm V Ms f, e = .returned (.pointer (some ⟨SB, 0, none⟩)) ∧ w.heap.size ≤ SB ∧
      SpanW w' w.heap.size SB c r t t t t vR vM vF vB fr fm V Ms f (pivL (tr (rowsF c xs)) c r) ∧ SpanOf (rowsF c xs) c r t V (madeF Ms) (f.getD · 0) ∧ Below w.heap.size w w' := by
  have HL : Hid _ := hl
  have HX : Hid _ := hx
  have HRX : Hid (Row8 w a xs) := hX
  have HNA : Hid _ := hnil
  have hA := holds_new (holds_new (holds_nil w) #[.int .i64 r, .int .i64 c, .slice a l cap] 63) #[.int .i64 c, .slice none 0 0, .slice none 0 0, .slice none 0 0, .int .i64 0, .slice none 0 0] 118
  rw [World.size_alloc] at hA
  have HA : Hid _ := hA
  have hB : Below w.heap.size w ((w.alloc (.cells #[.int .i64 r, .int .i64 c, .slice a l cap] 63)).alloc (.cells #[.int .i64 c, .slice none 0 0, .slice none 0 0, .slice none 0 0, .int .i64 0, .slice none 0 0] 118)) := ((Below.refl w.heap.size w).alloc (Nat.le_refl _) _).alloc (by simp) _
  have HB : Hid _ := hB
  clear hl hx hX hnil hA hB
  go_enter Tryz.func82, Tryz.ntmps82
  go_wp2
  generalize hW0 : ((w.alloc (.cells #[.int .i64 r, .int .i64 c, .slice a l cap] 63)).alloc (.cells #[.int .i64 c, .slice none 0 0, .slice none 0 0, .slice none 0 0, .int .i64 0, .slice none 0 0] 118)) = W0 at *
  clear hW0
  go_loopw [4] (fun i wr => ∃ k : Nat, k ≤ r ∧ i = .int .i64 k ∧ wr.heap[w.heap.size]? = some (.cells #[.int .i64 r, .int .i64 c, .slice a l cap] 63 (0, 0)) ∧ Below w.heap.size w wr ∧ Below (w.heap.size + 1) W0 wr ∧ ∃ t vR vM vF vB fr fm V Ms f,
    SpanW wr (w.heap.size + 1) (w.heap.size + 1) c k t t t t vR vM vF vB fr fm V Ms f (pivL (tr (rowsF c xs)) c k) ∧ SpanOf (rowsF c xs) c k t V (madeF Ms) (f.getD · 0)) (fun i _ => r - (intOf i).toNat)
  case atStart =>
    refine ⟨0, by omega, rfl, holds_at HA.out 1 rfl, HB.out, Below.refl _ _, 0, _, _, _, _, fun _ => (none, 0), fun _ => (none, 0), fun _ _ => 0, fun _ => [], [], ⟨holds_at HA.out 0 rfl, ⟨rfl, .inl ⟨rfl, rfl⟩⟩, ⟨rfl, .inl ⟨rfl, rfl⟩⟩, ⟨rfl, .inl ⟨rfl, rfl⟩⟩, ⟨by simp [pivL, natV], .inl ⟨rfl, rfl⟩⟩, rfl, by simp [pivL], fun i h => by omega, fun i h => by omega, fun i h => by omega, .inl rfl, .inl rfl, .inl rfl, .inl rfl⟩, SpanOf.start _ _ _ _ _⟩
  case round =>
    obtain ⟨k, hk, rfl, hbox, hbw, hb0, t, vR, vM, vF, vB, fr, fm, V, Ms, f, hsp, hso⟩ := hrel
    have c1 := cellAt hbox 0 _ rfl
    have HBOX : Hid _ := hbox
    have HBW : Hid _ := hbw
    have HB0 : Hid _ := hb0
    have HSP : Hid _ := hsp
    have HSO : Hid _ := hso
    have hsz := hsp.box
    have zz := ltHeap hsz
    clear hbox hbw hb0 hsp hso hsz
    by_cases hlt : k < r
    · have c2 := cellAt HBOX.out 1 _ rfl
      have c3 := cellAt HBOX.out 2 _ rfl
      go_wp2_with fail
      refine Calls.mono (rrow_F r c k l cap a xs _ hr hc hlt HL.out HX.out hcap (row8_below HRX.out HBW.out) HNA.out) ?_
      rintro e w2 ⟨g2, cap2, rfl, hg2, hh2, hb2⟩
      have hS2 := HSP.out.below hb2
      have HS2 : Hid _ := hS2
      have HBX2 : Hid _ := heap_later HBOX.out hb2
      have HB2 : Hid _ := hb2
      have HH2 : Hid _ := row8_has hh2
      have hsz2 := hb2.size
      have HRL : Hid ((rowAt c xs k).length = c) := rowAt_len HX.out hlt
      clear hS2 hb2 hh2 c1 c2 c3
      go_wp2_with fail
      refine Calls.mono (radd_F (rowsF c xs) (w.heap.size + 1) (w.heap.size + 1) c k t vR vM vF vB fr fm V Ms f (some ⟨g2, 0, none⟩) cap2 (rowAt c xs k) _ HS2.out HSO.out rfl hc (by omega) HRL.out HH2.out (fun h => by cases h) (by omega) (Nat.le_refl _)) ?_
      rintro e w3 ⟨rfl, hb3, t', vR', vM', vF', vB', fr', fm', V', Ms', f', hsp3, hso3⟩
      have HB3 : Hid (Below w.heap.size w w3) := (HBW.out.trans (HB2.out.mono HBW.out.size)).trans (hb3.mono (by omega))
      have HB03 : Hid (Below (w.heap.size + 1) W0 w3) := (HB0.out.trans (HB2.out.mono (by omega))).trans hb3
      have HBX3 : Hid _ := (hb3.block w.heap.size (by omega)).trans HBX2.out
      have HSP3 : Hid _ := hsp3
      have HSO3 : Hid _ := hso3
      clear hb3 hsp3 hso3
      go_wp2
      exact ⟨⟨k + 1, by omega, by go_num, HBX3.out, HB3.out, HB03.out, t', vR', vM', vF', vB', fr', fm', V', Ms', f', HSP3.out, HSO3.out⟩, by simp [intOf]; omega⟩
    · obtain rfl : k = r := by omega
      go_wp2
      go_ret
      have h := HSP.out
      exact ⟨w.heap.size + 1, t, vR, vM, vF, vB, fr, fm, V, Ms, f, rfl, by omega, ⟨h.box, own_lower h.rows (by omega), own_lower h.made (by omega), own_lower h.firsts (by omega), own_lower h.basis (by omega), h.fl, h.bl, h.rowT, h.madeT, h.ml, h.ne1, h.ne2, h.ne3, h.ne4⟩, HSO.out, HBW.out⟩
theorem rrank_F (r c l cap : Nat) (a : Option Addr) (xs : List F) (w : World) (hr : r ≤ 64) (hc : c ≤ 64) (hl : l = r * c) (hx : xs.length = r * c) (hcap : l ≤ cap) (hX : Row8 w a xs) (hnil : a = none → cap = 0) :
    Calls Tryz.prog 62 #[.agg #[.int .i64 r, .int .i64 c, .slice a l cap]] w fun e w' => e = .returned (.int .i64 (pivL (cellF c xs) r c).length) ∧ Below w.heap.size w w' := by
  have H : Hid _ := rof_F r c l cap a xs (w.alloc (.cells #[.int .i64 r, .int .i64 c, .slice a l cap] 63)) hr hc hl hx hcap (row8_alloc hX _) hnil
  clear hl hx hX hnil
  go_enter Tryz.func62, Tryz.ntmps62
  go_wp2_with fail
  refine Calls.mono H.out ?_
  rintro e w2 ⟨SB, t, vR, vM, vF, vB, fr, fm, V, Ms, f, rfl, hSB, hsp, hso, hb⟩
  obtain ⟨aB, cB, rfl⟩ := own_shape hsp.basis
  have ht : t = (pivL (cellF c xs) r c).length := by rw [← rk_tr, ← pivL_congr tr_rowsF]; exact hso.len
  have HT : Hid _ := ht
  have c1 := cellAt hsp.box 5 _ rfl
  have HB : Hid (Below w.heap.size w w2) := ((Below.refl w.heap.size w).alloc (Nat.le_refl _) _).trans (hb.mono (by simp))
  clear hsp hso hb ht H
  go_wp2
  go_ret
  exact ⟨by rw [← HT.out]; rfl, HB.out⟩
end Go.Proofs.YtjmbpldkggbdlaaGreatDoor

/- The document's own Kind, Text, Rank and Gone of lost halves. -/
namespace Go.Proofs.YtjmbpldkggbdlaaGreatDoor
open Go.RowKit Go.Maps Gf
set_option linter.unusedVariables false
set_option maxRecDepth 20000
set_option maxHeartbeats 2000000 in
theorem rkind_F (k r : Int) (kn l cap : Nat) (a : Option Addr) (ns : List Nat) (w : World) (hk : k = kn) (h3 : kn ≤ 16) (hl : l = ns.length) (hl9 : l ≤ 32) (hX : RowI w a (natJ8 ns)) :
    Calls Tryz.prog 23 #[.int .i64 k, .int .i64 r, .slice a l cap] w fun e w' => e = .returned (.int .i64 (kindN kn ns)) ∧ w = w' := by
  subst hk
  have HL : Hid (l = ns.length) := hl
  have HX : Hid (RowI w a (natJ8 ns)) := hX
  obtain ⟨d, hd⟩ : ∃ d, d = kindN kn ns := ⟨_, rfl⟩
  rw [← hd]
  have H0 : Hid (ns = [] → d = 0) := fun h => by rw [hd, kindN, if_pos h]
  have H1 : Hid (ns ≠ [] → (∃ j, j < kn ∧ ns = [2 * j, 2 * j + 1]) → d = 1) := fun h h2 => by rw [hd, kindN, if_neg h, if_pos h2]
  have H2 : Hid (ns ≠ [] → (¬ ∃ j, j < kn ∧ ns = [2 * j, 2 * j + 1]) → d = 2) := fun h h2 => by rw [hd, kindN, if_neg h, if_neg h2]
  clear hl hX hd
  by_cases h0 : l = 0
  · have HD : Hid _ := H0.out (List.eq_nil_of_length_eq_zero (by rw [← HL.out]; exact h0))
    clear H0 H1 H2 HX
    subst h0
    go_enter Tryz.func23, Tryz.ntmps23
    go_wp2
    go_ret
    exact ⟨by rw [HD.out]; rfl, rfl⟩
  have HNE : Hid (ns ≠ []) := fun h => h0 (by rw [HL.out, h]; rfl)
  go_enter Tryz.func23, Tryz.ntmps23
  go_wp2
  have e0 : ((l : Int) == 0) = false := by
    rw [beq_eq_false_iff_ne]; omega
  try rw [e0]
  clear e0
  go_loopw [7] (fun i wr => ∃ j : Nat, j ≤ kn ∧ i = .int .i64 j ∧ wr = w ∧ (∀ q, q < j → ns ≠ [2 * q, 2 * q + 1])) (fun i _ => kn - (intOf i).toNat)
  case atStart => exact ⟨0, by omega, rfl, rfl, fun q h => by omega⟩
  case round =>
    obtain ⟨j, hj, rfl, rfl, hq⟩ := hrel
    have HQ : Hid (∀ q, q < j → ns ≠ [2 * q, 2 * q + 1]) := hq
    clear hq
    by_cases hlt : j < kn
    · by_cases h2 : l = 2
      · obtain ⟨x, y, hxy⟩ : ∃ x y, ns = [x, y] := by
          have := HL.out
          match ns, (show ns.length = 2 by omega) with
          | [x, y], _ => exact ⟨x, y, rfl⟩
        have HXY : Hid _ := hxy
        obtain ⟨b, off, rfl, hb, hc⟩ := rowI_cell HX.out (show 0 < (natJ8 ns).length by rw [natJ8_len, ← HL.out, h2]; omega)
        have c0 := hc 0 (by rw [natJ8_len, ← HL.out, h2]; omega)
        have c1 := hc 1 (by rw [natJ8_len, ← HL.out, h2]; omega)
        rw [show (natJ8 ns).getD 0 0 = (x : Int) by rw [hxy]; rfl, Nat.add_zero] at c0
        rw [show (natJ8 ns).getD 1 0 = (y : Int) by rw [hxy]; rfl] at c1
        clear hc hxy HX
        subst h2
        by_cases q1 : x = 2 * j
        · by_cases q2 : y = 2 * j + 1
          · have HD : Hid _ := H1.out HNE.out ⟨j, hlt, by rw [HXY.out, q1, q2]⟩
            have e1 : ((x : Int) == 2 * (j : Int)) = true := by rw [beq_iff_eq]; omega
            have e2 : ((y : Int) == 2 * (j : Int) + 1) = true := by rw [beq_iff_eq]; omega
            clear q1 q2 H0 H1 H2
            go_wp2
            go_ret
            exact ⟨by rw [HD.out]; rfl, rfl⟩
          · have e1 : ((x : Int) == 2 * (j : Int)) = true := by rw [beq_iff_eq]; omega
            have e2 : ((y : Int) == 2 * (j : Int) + 1) = false := by rw [beq_eq_false_iff_ne]; omega
            have HS : Hid (ns ≠ [2 * j, 2 * j + 1]) := fun h => q2 (by have := HXY.out.symm.trans h; simp at this; exact this.2)
            clear q1 q2
            go_wp2
            refine ⟨⟨j + 1, by omega, by go_num, by first | rfl | trivial, fun q hq => ?_⟩, by simp [intOf]; omega⟩
            by_cases hqj : q < j
            · exact HQ.out q hqj
            · obtain rfl : q = j := by omega
              exact HS.out
        · have e1 : ((x : Int) == 2 * (j : Int)) = false := by rw [beq_eq_false_iff_ne]; omega
          have HS : Hid (ns ≠ [2 * j, 2 * j + 1]) := fun h => q1 (by have := HXY.out.symm.trans h; simp at this; exact this.1)
          clear q1
          go_wp2
          refine ⟨⟨j + 1, by omega, by go_num, by first | rfl | trivial, fun q hq => ?_⟩, by simp [intOf]; omega⟩
          by_cases hqj : q < j
          · exact HQ.out q hqj
          · obtain rfl : q = j := by omega
            exact HS.out
      · have HS : Hid (ns ≠ [2 * j, 2 * j + 1]) := fun h => h2 (by rw [HL.out, h]; rfl)
        have e3 : ((l : Int) == 2) = false := by rw [beq_eq_false_iff_ne]; omega
        go_wp2
        refine ⟨⟨j + 1, by omega, by go_num, by first | rfl | trivial, fun q hq => ?_⟩, by simp [intOf]; omega⟩
        by_cases hqj : q < j
        · exact HQ.out q hqj
        · obtain rfl : q = j := by omega
          exact HS.out
    · obtain rfl : j = kn := by omega
      have HD : Hid _ := H2.out HNE.out (fun ⟨q, hq, h⟩ => HQ.out q hq h)
      clear H0 H1 H2
      go_wp2
      go_ret
      exact ⟨by rw [HD.out]; rfl, rfl⟩
end Go.Proofs.YtjmbpldkggbdlaaGreatDoor

/- The document's own Text, Rank and Gone of lost halves. -/
namespace Go.Proofs.YtjmbpldkggbdlaaGreatDoor
open Go.RowKit Go.Maps Gf
set_option linter.unusedVariables false
set_option maxRecDepth 20000
def preT (k : Nat) (ns : List Nat) : List UInt8 := Lib.join (ns.map (nameB k)) [44]
theorem joinTail_snoc (sep x : List UInt8) (r : List (List UInt8)) : Lib.joinTail sep (r ++ [x]) = Lib.joinTail sep r ++ (sep ++ x) := by simp [Lib.joinTail]
theorem preT_snoc (k x : Nat) : ∀ ns : List Nat, preT k (ns ++ [x]) = if ns = [] then nameB k x else preT k ns ++ [44] ++ nameB k x
  | [] => by simp [preT, Lib.join_one]
  | y :: ns => by
    rw [if_neg (by simp)]
    simp only [preT, List.cons_append, List.map_cons, List.map_append, List.map_nil]
    rw [Lib.join_cons, Lib.join_cons, joinTail_snoc]
    simp [List.append_assoc]
theorem preT_len {k : Nat} (hk : k < 15) {ns : List Nat} (h : ∀ x ∈ ns, x < 32) : (preT k ns).length ≤ 5 * ns.length := by
  have hs := join_short hk ns h
  cases ns with
  | nil => simp [preT, Lib.join_nil]
  | cons x ns =>
    rw [List.map_cons] at hs
    rw [preT, List.map_cons, Lib.join_length]
    simp only [List.length_cons, List.length_nil, List.length_map] at *
    omega
theorem preT_ne {k : Nat} (hk : k < 15) {ns : List Nat} (h : ∀ x ∈ ns, x < 32) (h0 : ns ≠ []) : 1 ≤ (preT k ns).length := by
  cases ns with
  | nil => exact absurd rfl h0
  | cons x ns =>
    have := (nameB_len k hk x (h x (by simp))).1
    rw [preT, List.map_cons, Lib.join_length]
    simp only [Lib.lens, List.map_cons, List.sum_cons] at *
    omega
set_option maxHeartbeats 4000000 in
theorem rtext_F (k l cap : Nat) (r : Int) (a : Option Addr) (ns : List Nat) (w : World) (hk : k < 15) (hl : l = ns.length) (hl9 : l ≤ 32) (hX : RowI w a (natJ8 ns)) (hr : ∀ x ∈ ns, x < 32) :
    Calls Tryz.prog 25 #[.int .i64 k, .int .i64 r, .slice a l cap] w fun e w' => e = .returned (.string (strB (textB k ns))) ∧ Below w.heap.size w w' := by
  have HL : Hid (l = ns.length) := hl
  have HX : Hid (RowI w a (natJ8 ns)) := hX
  have HR : Hid (∀ x ∈ ns, x < 32) := hr
  have HT : Hid (textB k ns = if ns = [] then [110, 111, 110, 101] else preT k ns) := rfl
  clear hl hX hr
  go_enter Tryz.func25, Tryz.ntmps25
  go_wp2
  go_loopw [12, 7] (fun i v wr => ∃ (j : Nat) (S : ByteArray), j ≤ l ∧ i = .int .i64 j ∧ v = .string S ∧ S = strB (preT k (ns.take j)) ∧ Below w.heap.size w wr) (fun i _ _ => l - (intOf i).toNat)
  case atStart => exact ⟨0, _, by omega, rfl, rfl, rfl, Below.refl _ _⟩
  case round =>
    obtain ⟨j, S, hj, rfl, rfl, hS, hb⟩ := hrel
    have HB : Hid _ := hb
    have HS : Hid (S = strB (preT k (ns.take j))) := hS
    have hsz : S.size ≤ 160 := by
      rw [hS, strB_size]
      have := preT_len hk (ns := ns.take j) (fun x hx => HR.out x (List.mem_of_mem_take hx))
      rw [List.length_take] at this
      omega
    clear hb hS
    by_cases hlt : j < l
    · have hin : j < ns.length := by rw [← HL.out]; exact hlt
      obtain ⟨b, off, hab, hbl, hc⟩ := rowI_cell (rowI_below HX.out HB.out) (show j < (natJ8 ns).length by rw [natJ8_len]; exact hin)
      have c1 := hc j (by rw [natJ8_len]; exact hin)
      rw [show (natJ8 ns).getD j 0 = ((ns[j] : Nat) : Int) by simp [natJ8, List.getD, hin]] at c1
      have hx9 := HR.out _ (List.getElem_mem hin)
      have HTK : Hid (ns.take (j + 1) = ns.take j ++ [ns[j]]) := List.take_succ_eq_append_getElem hin
      generalize ns[j] = x at *
      have hz4 : (strB (nameB k x)).size ≤ 4 := by rw [strB_size]; exact (nameB_len k hk x hx9).2
      have HP : Hid _ := preT_snoc k x (ns.take j)
      clear hc
      subst hab
      by_cases h0 : j = 0
      · have HN : Hid (S ++ strB (nameB k x) = strB (preT k (ns.take (j + 1)))) := by
          show _ = _
          rw [HTK.out, HP.out, HS.out, h0, List.take_zero, if_pos rfl]
          simp only [preT, List.map_nil, Lib.join_nil]
          rw [strB_app]; rfl
        subst h0
        rw [Nat.add_zero] at c1
        go_wp2_with fail
        refine Calls.mono (rname_F k x _ (by omega) (by omega)) ?_
        rintro e w4 ⟨rfl, hb4⟩
        have HB4 : Hid _ := HB.out.trans (hb4.mono HB.out.size)
        clear hb4 c1
        go_wp2
        exact ⟨⟨1, _, by omega, by go_num, rfl, HN.out, HB4.out⟩, by simp [intOf]; omega⟩
      · have HN : Hid (S ++ ⟨#[44]⟩ ++ strB (nameB k x) = strB (preT k (ns.take (j + 1)))) := by
          show _ = _
          rw [HTK.out, HP.out, HS.out, if_neg (fun h => h0 (by have := congrArg List.length h; rw [List.length_take, List.length_nil] at this; omega))]
          rw [strB_one, strB_app, strB_app]
        go_wp2_with fail
        refine Calls.mono (rname_F k x _ (by omega) (by omega)) ?_
        rintro e w4 ⟨rfl, hb4⟩
        have HB4 : Hid _ := HB.out.trans (hb4.mono HB.out.size)
        clear hb4 c1
        go_wp2
        exact ⟨⟨j + 1, _, by omega, by go_num, rfl, HN.out, HB4.out⟩, by simp [intOf]; omega⟩
    · obtain rfl : j = l := by omega
      have hS := HS.out
      rw [show ns.take j = ns by rw [HL.out, List.take_length]] at hS
      by_cases h0 : ns = []
      · have HT2 : Hid (textB k ns = [110, 111, 110, 101]) := by have := HT.out; rwa [if_pos h0] at this
        have hS2 : S = ⟨#[]⟩ := by rw [hS, h0]; rfl
        clear HS hS
        subst hS2
        go_wp2
        go_ret
        exact ⟨by rw [HT2.out]; rfl, HB.out⟩
      · have HT2 : Hid (textB k ns = preT k ns) := by have := HT.out; rwa [if_neg h0] at this
        have hne := preT_ne hk HR.out h0
        have he : S.toList.isEmpty = false := by
          rw [hS]
          exact strB_some fun h => by
            have h9 : (preT k ns).length = 0 := congrArg List.length h
            omega
        have HS2 : Hid (S = strB (preT k ns)) := hS
        clear HS hS hne
        go_wp2
        go_ret
        exact ⟨by rw [HT2.out, ← HS2.out]; rfl, HB.out⟩
end Go.Proofs.YtjmbpldkggbdlaaGreatDoor

/- Texts of lost halves as plain lists: cut at commas, read name by name, and written back; no program is spoken of. -/
namespace Go.Proofs.YtjmbpldkggbdlaaGreatDoor
open Go.RowKit Gf
set_option linter.unusedVariables false
set_option maxRecDepth 20000
/-- the pieces between commas -/
def splitC : List UInt8 → List (List UInt8)
  | [] => [[]]
  | c :: l => if c = 44 then [] :: splitC l else ((c :: (splitC l).headD []) :: (splitC l).tail)
theorem splitC_ne (l : List UInt8) : splitC l ≠ [] := by
  cases l with
  | nil => simp [splitC]
  | cons c l => rw [splitC]; split <;> simp
theorem splitC_none : ∀ {l : List UInt8}, 44 ∉ l → splitC l = [l]
  | [], _ => rfl
  | c :: l, h => by
    have h1 : c ≠ 44 := fun e => h (by simp [e])
    have h2 := splitC_none (l := l) (fun hh => h (List.mem_cons_of_mem _ hh))
    rw [splitC, if_neg h1, h2]; rfl
theorem splitC_comma : ∀ {a : List UInt8} (b : List UInt8), 44 ∉ a → splitC (a ++ 44 :: b) = a :: splitC b
  | [], b, _ => by simp [splitC]
  | c :: a, b, h => by
    have h1 : c ≠ 44 := fun e => h (by simp [e])
    have h2 := splitC_comma (a := a) b (fun hh => h (List.mem_cons_of_mem _ hh))
    rw [List.cons_append, splitC, if_neg h1, h2]; rfl
theorem join_split : ∀ l : List UInt8, Lib.join (splitC l) [44] = l
  | [] => by simp [splitC, Lib.join_one]
  | c :: l => by
    have ih := join_split l
    obtain ⟨p, ps, hp⟩ : ∃ p ps, splitC l = p :: ps := by
      cases h : splitC l with
      | nil => exact absurd h (splitC_ne l)
      | cons p ps => exact ⟨p, ps, rfl⟩
    rw [hp, Lib.join_cons] at ih
    rw [splitC, hp]
    split
    · rename_i e
      rw [Lib.join_cons, e, ← ih]
      simp [Lib.joinTail]
    · simp only [List.headD_cons, List.tail_cons]
      rw [Lib.join_cons, ← ih]; rfl
theorem split_join : ∀ {ps : List (List UInt8)}, ps ≠ [] → (∀ p ∈ ps, 44 ∉ p) → splitC (Lib.join ps [44]) = ps
  | [], h, _ => absurd rfl h
  | [p], _, h => by rw [Lib.join_one]; exact splitC_none (h p (by simp))
  | p :: q :: ps, _, h => by
    have ih := split_join (ps := q :: ps) (by simp) (fun x hx => h x (List.mem_cons_of_mem _ hx))
    have e : Lib.join (p :: q :: ps) [44] = p ++ 44 :: Lib.join (q :: ps) [44] := by
      rw [Lib.join_cons, Lib.join_cons]
      simp [Lib.joinTail]
    rw [e, splitC_comma _ (h p (by simp)), ih]
/-- where a byte first stands -/
theorem ix_spec (c : UInt8) : ∀ m : List UInt8, (Lib.indexByte m c = -1 ∧ c ∉ m) ∨ ∃ i : Nat, Lib.indexByte m c = i ∧ i < m.length ∧ m = m.take i ++ c :: m.drop (i + 1) ∧ c ∉ m.take i
  | [] => .inl ⟨rfl, by simp⟩
  | b :: m => by
    rw [Lib.indexByte]
    by_cases h : b = c
    · subst h
      exact .inr ⟨0, by simp, by simp, by simp, by simp⟩
    · rw [if_neg (by simpa using h)]
      rcases ix_spec c m with ⟨h1, h2⟩ | ⟨i, h1, h2, h3, h4⟩
      · rw [if_pos (by simp [h1])]
        exact .inl ⟨rfl, fun hh => by rcases List.mem_cons.1 hh with e | e; exact h e.symm; exact h2 e⟩
      · rw [if_neg (by rw [h1]; simp), h1]
        refine .inr ⟨i + 1, by omega, by simp; omega, ?_, ?_⟩
        · simp only [List.take_succ_cons, List.drop_succ_cons, List.cons_append]
          rw [← h3]
        · simp only [List.take_succ_cons, List.mem_cons, not_or]
          exact ⟨fun e => h e.symm, h4⟩
/-- the half of a name -/
def nameIx (k n : Nat) (p : List UInt8) : Option Nat := (List.range n).find? fun h => decide (nameB k h = p)
theorem nameIx_some {k n h : Nat} {p : List UInt8} (e : nameIx k n p = some h) : h < n ∧ nameB k h = p := by
  have h1 := List.find?_some e
  have h2 := List.mem_of_find?_eq_some e
  exact ⟨List.mem_range.1 h2, of_decide_eq_true h1⟩
theorem nameIx_of {k n h : Nat} {p : List UInt8} (hk : k < 15) (hn : n ≤ 32) (hh : h < n) (e : nameB k h = p) : nameIx k n p = some h := by
  cases hf : nameIx k n p with
  | none =>
    have := List.find?_eq_none.1 hf h (List.mem_range.2 hh)
    simp [e] at this
  | some q =>
    obtain ⟨h1, h2⟩ := nameIx_some hf
    rw [nameB_inj k hk q (by omega) h (by omega) (h2.trans e.symm)]
theorem nameIx_no {k n : Nat} {p : List UInt8} (h : ∀ x, x < n → nameB k x ≠ p) : nameIx k n p = none := by
  cases hf : nameIx k n p with
  | none => rfl
  | some q => obtain ⟨h1, h2⟩ := nameIx_some hf; exact absurd h2 (h q h1)
/-- one name more -/
def stepC (k n : Nat) (acc : List Nat) (p : List UInt8) : Option (List Nat) :=
  match nameIx k n p with
  | none => none
  | some h => if acc = [] ∨ acc.getD (acc.length - 1) 0 < h then some (acc ++ [h]) else none
def readC (k n : Nat) (ps : List (List UInt8)) : Option (List Nat) := ps.foldlM (stepC k n) []
theorem readC_nil (k n : Nat) : readC k n [] = some [] := rfl
theorem readC_snoc (k n : Nat) (ps : List (List UInt8)) (p : List UInt8) : readC k n (ps ++ [p]) = (readC k n ps).bind fun acc => stepC k n acc p := by
  simp only [readC, List.foldlM_append, List.foldlM_cons, List.foldlM_nil]
  cases List.foldlM (stepC k n) [] ps with
  | none => rfl
  | some a => show (stepC k n a p).bind some = stepC k n a p; cases stepC k n a p <;> rfl
theorem readC_dead {k n : Nat} {ps qs : List (List UInt8)} (h : readC k n ps = none) : readC k n (ps ++ qs) = none := by
  have e : readC k n (ps ++ qs) = (readC k n ps).bind fun acc => qs.foldlM (stepC k n) acc := by rw [readC, List.foldlM_append]; rfl
  rw [e, h]; rfl
theorem last_nat {ns : List Nat} (h : ns.Pairwise (· < ·)) {x : Nat} (hx : ns = [] ∨ ns.getD (ns.length - 1) 0 < x) : ∀ y ∈ ns, y < x := by
  rcases hx with rfl | hx
  · intro y hy; cases hy
  · intro y hy
    obtain ⟨i, hi, e⟩ := List.getElem_of_mem hy
    have hl : ns.length - 1 < ns.length := by omega
    rw [List.getD, List.getElem?_eq_getElem hl, Option.getD_some] at hx
    by_cases e2 : i = ns.length - 1
    · subst e2; rw [← e]; exact hx
    · have := List.pairwise_iff_getElem.1 h i (ns.length - 1) hi hl (by omega)
      rw [← e]; omega
theorem stepC_good {k n : Nat} {acc acc' : List Nat} {p : List UInt8} (h1 : acc.Pairwise (· < ·)) (h2 : ∀ x ∈ acc, x < n) (h : stepC k n acc p = some acc') : acc'.Pairwise (· < ·) ∧ (∀ x ∈ acc', x < n) ∧ ∃ x, acc' = acc ++ [x] ∧ nameB k x = p := by
  unfold stepC at h
  cases hf : nameIx k n p with
  | none => rw [hf] at h; cases h
  | some x =>
    rw [hf] at h
    obtain ⟨hx, hxp⟩ := nameIx_some hf
    by_cases hr : acc = [] ∨ acc.getD (acc.length - 1) 0 < x
    · simp only [if_pos hr] at h
      cases h
      refine ⟨List.pairwise_append.2 ⟨h1, by simp, fun y hy z hz => ?_⟩, fun y hy => ?_, x, rfl, hxp⟩
      · rw [List.mem_singleton.1 hz]; exact last_nat h1 hr y hy
      · rcases List.mem_append.1 hy with h | h
        · exact h2 y h
        · rw [List.mem_singleton.1 h]; exact hx
    · simp only [if_neg hr] at h
      cases h
theorem readC_good {k n : Nat} (ps : List (List UInt8)) {acc : List Nat} (h0 : readC k n ps = some acc) : acc.Pairwise (· < ·) ∧ (∀ x ∈ acc, x < n) ∧ acc.map (nameB k) = ps := by
  suffices H : ∀ m (ps : List (List UInt8)), ps.length = m → ∀ (acc : List Nat), readC k n ps = some acc → acc.Pairwise (· < ·) ∧ (∀ x ∈ acc, x < n) ∧ acc.map (nameB k) = ps from H _ ps rfl acc h0
  intro m
  induction m with
  | zero =>
    intro ps hl acc h
    have e : ps = [] := List.eq_nil_of_length_eq_zero hl
    subst e
    cases h
    exact ⟨List.Pairwise.nil, fun x hx => (by cases hx), rfl⟩
  | succ m ih =>
    intro ps hl acc h
    obtain ⟨qs, q, rfl⟩ : ∃ qs q, ps = qs ++ [q] := ⟨ps.dropLast, ps.getLast (fun e => by rw [e] at hl; cases hl), (List.dropLast_concat_getLast _).symm⟩
    rw [readC_snoc] at h
    cases hq : readC k n qs with
    | none => rw [hq] at h; cases h
    | some a =>
      rw [hq] at h
      obtain ⟨i1, i2, i3⟩ := ih qs (by simpa using hl) _ hq
      obtain ⟨j1, j2, x, rfl, hx⟩ := stepC_good i1 i2 h
      exact ⟨j1, j2, by rw [List.map_append, i3, List.map_cons, hx, List.map_nil]⟩
/-- the lost halves of a text -/
def parseC (k n : Nat) (t : List UInt8) : Option (List Nat) := if t = [110, 111, 110, 101] then some [] else readC k n (splitC t)
theorem parseC_good {k n : Nat} {t : List UInt8} {acc : List Nat} (h : parseC k n t = some acc) : acc.Pairwise (· < ·) ∧ (∀ x ∈ acc, x < n) ∧ textB k acc = t := by
  unfold parseC at h
  by_cases ht : t = [110, 111, 110, 101]
  · rw [if_pos ht] at h
    cases h
    exact ⟨List.Pairwise.nil, fun x hx => (by cases hx), by rw [textB, if_pos rfl, ht]⟩
  · rw [if_neg ht] at h
    obtain ⟨h1, h2, h3⟩ := readC_good _ h
    have hne : acc ≠ [] := fun e => by rw [e] at h3; exact splitC_ne t h3.symm
    exact ⟨h1, h2, by rw [textB, if_neg hne, h3, join_split]⟩
theorem name_comma : ∀ k < 15, ∀ h < 32, 44 ∉ nameB k h ∧ (nameB k h).getD 0 0 ≠ 110 := by decide +kernel
theorem readC_names {k n : Nat} (hk : k < 15) (hn : n ≤ 32) : ∀ (ns : List Nat), ns.Pairwise (· < ·) → (∀ x ∈ ns, x < n) → readC k n (ns.map (nameB k)) = some ns := fun ns => by
  suffices H : ∀ m (ns : List Nat), ns.length = m → ns.Pairwise (· < ·) → (∀ x ∈ ns, x < n) → readC k n (ns.map (nameB k)) = some ns from H _ ns rfl
  intro m
  induction m with
  | zero =>
    intro ns hl _ _
    have e : ns = [] := List.eq_nil_of_length_eq_zero hl
    subst e
    rfl
  | succ m ih =>
    intro ns hl h1 h2
    obtain ⟨qs, q, rfl⟩ : ∃ qs q, ns = qs ++ [q] := ⟨ns.dropLast, ns.getLast (fun e => by rw [e] at hl; cases hl), (List.dropLast_concat_getLast _).symm⟩
    obtain ⟨p1, _, p2⟩ := List.pairwise_append.1 h1
    rw [List.map_append, List.map_cons, List.map_nil, readC_snoc, ih qs (by simpa using hl) p1 (fun x hx => h2 x (List.mem_append_left _ hx))]
    show stepC k n qs (nameB k q) = _
    unfold stepC
    rw [nameIx_of hk hn (h2 q (by simp)) rfl]
    have hr : qs = [] ∨ qs.getD (qs.length - 1) 0 < q := by
      by_cases e : qs = []
      · exact .inl e
      · have hl : qs.length - 1 < qs.length := by have := List.length_pos_iff.2 e; omega
        right
        rw [List.getD, List.getElem?_eq_getElem hl, Option.getD_some]
        exact p2 _ (List.getElem_mem hl) q (by simp)
    simp only [if_pos hr]
theorem parse_text {k n : Nat} (hk : k < 15) (hn : n ≤ 32) {ns : List Nat} (h1 : ns.Pairwise (· < ·)) (h2 : ∀ x ∈ ns, x < n) : parseC k n (textB k ns) = some ns := by
  by_cases h0 : ns = []
  · subst h0; rw [textB, if_pos rfl, parseC, if_pos rfl]
  · have hsp : splitC (Lib.join (ns.map (nameB k)) [44]) = ns.map (nameB k) := split_join (by simpa using h0) (fun p hp => by
      obtain ⟨x, hx, rfl⟩ := List.mem_map.1 hp
      exact (name_comma k hk x (by have := h2 x hx; omega)).1)
    have hno : Lib.join (ns.map (nameB k)) [44] ≠ [110, 111, 110, 101] := fun e => by
      rw [e] at hsp
      have e2 : splitC [110, 111, 110, 101] = [[110, 111, 110, 101]] := by decide
      rw [e2] at hsp
      cases ns with
      | nil => exact h0 rfl
      | cons x ns =>
        simp only [List.map_cons, List.cons.injEq] at hsp
        have h9 := (name_comma k hk x (by have := h2 x (by simp); omega)).2
        rw [← hsp.1] at h9
        exact h9 rfl
    rw [textB, if_neg h0, parseC, if_neg hno, hsp, readC_names hk hn ns h1 h2]
end Go.Proofs.YtjmbpldkggbdlaaGreatDoor

/- A range over the pieces of a text: what strings.SplitSeq answers, and what its iterator does with a loop's rounds; the iterator keeps the rest of the text in a cell of its own. -/
namespace Go.Proofs.YtjmbpldkggbdlaaGreatDoor
open Go.RowKit Go.Shelf Gf
set_option linter.unusedVariables false
set_option maxRecDepth 20000
attribute [local go_sem] Oper.semAt_some
set_option maxHeartbeats 2000000 in
/-- three boxes: the text, the comma, nought -/
theorem splitSeq_F (S : ByteArray) (w : World) : Calls Tryz.prog 41 #[.string S, .string ⟨#[44]⟩] w fun e w' =>
    e = .returned (.func (.func 83) #[] #[.pointer (some ⟨w.heap.size + 1, 0, none⟩), .pointer (some ⟨w.heap.size, 0, none⟩), .pointer (some ⟨w.heap.size + 2, 0, none⟩)]) ∧
    w' = ((w.alloc (.cells #[.string S] 9)).alloc (.cells #[.string ⟨#[44]⟩] 9)).alloc (.cells #[.int .i64 0] 3) := by
  go_enter Tryz.func41, Tryz.ntmps41
  go_wp2
  go_ret
  exact ⟨rfl, rfl⟩
/-- one round of a loop: its body walked once -/
theorem round_at {F : Fence} {m : Nat} {P : Program} {R Rb Rd : Loop} {l : Nat} {args : Array Value} {W : World} {a1 : Act} {Go : World → Prop} {Out : Code → World → Prop}
    (hRb : Rb = { R with state := .busy }) (hRd : Rd = { R with state := .done, pending := some .ret })
    (hF : F.fn R.fn) (hl : W.heap[l]? = some (.loop R)) (hs : args.size = R.params.size) (hst : R.state = .ready) (hpe : R.pending = none)
    (hassign : ∀ K : Act → World → Prop, K a1 W → R.assign.wpIn (F.inRound l) m P (Exit.then K (fun _ _ _ => False)) { tmps := (R.params.zip args).foldl (fun t (p, v) => t.setIfInBounds p v) R.tmps, defers := [] } W)
    (hbody : R.body.wpIn (F.inRound l) m P (fun e _ U => match e with
      | .normal => U.heap[l]? = some (.loop Rb) ∧ Go U
      | .ret => U.heap[l]? = some (.loop Rb) ∧ Out .ret U
      | _ => False) a1 (W.putObj l (.loop Rb))) :
    YieldAt F m P l args W fun e U' => (e = .returned (.bool true) ∧ ∃ U, U.heap[l]? = some (.loop Rb) ∧ Go U ∧ U' = U.putObj l (.loop R)) ∨
      (e = .returned (.bool false) ∧ ∃ U, U.heap[l]? = some (.loop Rb) ∧ Out .ret U ∧ U' = U.putObj l (.loop Rd)) := by
  subst hRb hRd
  refine ⟨R.fn, _, R.assign, R.body, run_yield hl hs, roundIn_of_wpIn hF (hassign _ ⟨_, run_beginRound hl hst, wpIn_mono hbody ?_⟩)⟩
  rintro e a U h
  cases e with
  | normal =>
    refine ⟨_, _, run_endRound none h.1, .inl ⟨rfl, U, h.1, h.2, ?_⟩⟩
    obtain ⟨_, _⟩ := R
    simp_all
  | ret =>
    refine ⟨_, _, run_endRound (some .ret) h.1, .inr ⟨rfl, U, h.1, h.2, ?_⟩⟩
    rfl
  | exit id => exact h.elim
  | goto t => exact h.elim
  | panic ch => exact h.elim
  | outgrown => exact h.elim
/-- how much of the text is left -/
def restN (bs : Nat) (w : World) : Nat := match w.cell? ⟨bs, 0, none⟩ with
  | some (.string b) => b.size
  | _ => 0
theorem restN_at {bs : Nat} {w : World} {S : ByteArray} (h : w.cell? ⟨bs, 0, none⟩ = some (.string S)) : restN bs w = S.size := by unfold restN; rw [h]
theorem pre_step {α : Type} {t pre r : List α} {x : α} (h : t = pre ++ x :: r) : pre ++ [x] <+: t := ⟨r, by rw [h]; simp⟩
set_option maxHeartbeats 8000000 in
theorem split1_in (n : Nat) (hn : 1 ≤ n) (l bs : Nat) (t : List UInt8) (ht : t.length ≤ 140737488355328) (J Jx : List (List UInt8) → World → Prop)
    (hbx : ∀ pre W, J pre W → W.heap[bs + 1]? = some (.cells #[.string ⟨#[44]⟩] 9 (0, 0)) ∧ W.heap[bs + 2]? = some (.cells #[.int .i64 0] 3 (0, 0)))
    (hset : ∀ pre W S S', J pre W → W.heap[bs]? = some (.cells #[.string S] 9 (0, 0)) → J pre (W.setCell ⟨bs, 0, none⟩ (.string S')))
    (hY : ∀ pre x W, pre ++ [x] <+: splitC t → J pre W → YieldAt Fence.wide (n - 1) Tryz.prog l #[.string (strB x)] W fun e W' =>
      (e = .returned (.bool true) ∧ J (pre ++ [x]) W' ∧ W'.heap[bs]? = W.heap[bs]?) ∨ (e = .returned (.bool false) ∧ Jx (pre ++ [x]) W'))
    (W0 : World) (h0 : J [] W0) (hs : W0.heap[bs]? = some (.cells #[.string (strB t)] 9 (0, 0))) :
    CallsIn Fence.wide n Tryz.prog 83 #[.func (.yield l) #[] #[], .pointer (some ⟨bs + 1, 0, none⟩), .pointer (some ⟨bs, 0, none⟩), .pointer (some ⟨bs + 2, 0, none⟩)] W0 fun e W' => (∃ v, e = .returned v) ∧
      (J (splitC t) W' ∨ ∃ pre, pre <+: splitC t ∧ Jx pre W') := by
  have HBX : Hid _ := hbx
  have HSET : Hid _ := hset
  have HY : Hid _ := hY
  have c1 := cellAt (hbx _ _ h0).1 0 _ rfl
  have H0 : Hid _ := h0
  have HS : Hid _ := hs
  clear hbx hset hY h0 hs
  refine callsIn_of_wp Tryz.func83 rfl trivial ?_ rfl
  simp only [Tryz.ntmps83, List.size_toArray, List.length_cons, List.length_nil, Nat.reduceAdd, Nat.reduceSub, Array.replicate_succ, Array.replicate_zero, List.push_toArray, List.append_toArray, List.nil_append, List.cons_append]
  gi_wp2
  gi_loopw [7] (fun _ wr => ∃ pre s, splitC t = pre ++ splitC s ∧ s.length ≤ t.length ∧ J pre wr ∧ wr.heap[bs]? = some (.cells #[.string (strB s)] 9 (0, 0))) (fun _ wr => restN bs wr)
  case atStart => exact ⟨[], t, rfl, Nat.le_refl _, H0.out, HS.out⟩
  case round =>
    obtain ⟨pre, s, hsp, hsl, hJ, hb⟩ := hrel
    have hx := HBX.out _ _ hJ
    have c1 := cellAt hx.1 0 _ rfl
    have c2 := cellAt hx.2 0 _ rfl
    have c0 := cellAt hb 0 _ rfl
    have HRN : Hid (restN bs wr = s.length) := by show _ = _; rw [restN_at c0, strB_size]
    rcases ix_spec 44 s with ⟨e1, e2⟩ | ⟨i, e1, e2, e3, e4⟩
    · have hfull : splitC t = pre ++ [s] := by rw [hsp, splitC_none e2]
      obtain ⟨fn, tmps, assign, body, hy, hR⟩ := HY.out pre s _ (by rw [hfull]; exact List.prefix_refl _) hJ
      have HF : Hid _ := hfull
      have HJ : Hid _ := hJ
      clear hfull hJ hsp hsl e2
      gi_wp2_with fail
      refine ⟨trivial, (callsIn_wide.2 (index_S s 44 _)).mono ?_⟩
      rw [e1]
      rintro e w2 ⟨rfl, rfl⟩
      gi_wp2
      refine hR.mono ?_
      rintro e W' (⟨rfl, hJ', _⟩ | ⟨rfl, hx⟩)
      · gi_wp2
        go_end0
        exact ⟨⟨_, rfl⟩, .inl (by rw [HF.out]; exact hJ')⟩
      · gi_wp2
        go_end0
        exact ⟨⟨_, rfl⟩, .inr ⟨_, by rw [HF.out]; exact List.prefix_refl _, hx⟩⟩
    · have hcut : splitC s = s.take i :: splitC (s.drop (i + 1)) := by
        conv => lhs; rw [e3]
        exact splitC_comma _ e4
      have hfull : splitC t = pre ++ s.take i :: splitC (s.drop (i + 1)) := by rw [hsp, hcut]
      obtain ⟨fn, tmps, assign, body, hy, hR⟩ := HY.out pre (s.take i) _ (pre_step hfull) hJ
      have HF : Hid _ := hfull
      have HJ : Hid _ := hJ
      have hS1 : (strB s).extract 0 i = strB (s.take i) := small_ba _ _ (by rw [extr_data, strB_data]; simp)
      have hS2 : (strB s).extract (i + 1) (strB s).size = strB (s.drop (i + 1)) := small_ba _ _ (by rw [extr_data, strB_data, strB_size]; rw [List.take_of_length_le (by rw [List.length_drop]; omega)])
      have hS3 : (strB s).size = s.length := strB_size s
      rw [← hS1] at hy
      have HS2 : Hid _ := hS2
      have HS3 : Hid _ := hS3
      have HB : Hid _ := hb
      have hi1 : i < (strB s).size := by rw [hS3]; exact e2
      have hi9 : (strB s).size ≤ 140737488355328 := by rw [hS3]; omega
      have HSL : Hid _ := hsl
      clear hfull hJ hsp hsl hcut e3 e4 hS1 hS2 hS3 hb
      gi_wp2_with fail
      refine ⟨trivial, (callsIn_wide.2 (index_S s 44 _)).mono ?_⟩
      rw [e1]
      rintro e w2 ⟨rfl, rfl⟩
      generalize strB s = SB at *
      gi_wp2
      refine hR.mono ?_
      rintro e W' (⟨rfl, hJ', hb'⟩ | ⟨rfl, hx⟩)
      · have hb2 := hb'.trans HB.out
        have hx2 := HBX.out _ _ hJ'
        have d1 := cellAt hx2.1 0 _ rfl
        have d0 := cellAt hb2 0 _ rfl
        have f0 : W'.frozen? ⟨bs, 0, none⟩ = false := frozen_of_row _ _ _ _ _ hb2
        have HJ2 : Hid _ := HSET.out _ _ _ (SB.extract (i + 1) SB.size) hJ' hb2
        have hn2 : (W'.setCell ⟨bs, 0, none⟩ (.string (SB.extract (i + 1) SB.size))).heap[bs]? = some (.cells #[.string (SB.extract (i + 1) SB.size)] 9 (0, 0)) := by
          rw [heap_setCell_same _ _ _ _ _ _ hb2]; rfl
        have HM2 : Hid (restN bs (W'.setCell ⟨bs, 0, none⟩ (.string (SB.extract (i + 1) SB.size))) = (SB.extract (i + 1) SB.size).size) := restN_at (cellAt hn2 0 _ rfl)
        have HN2 : Hid _ := hn2
        have HZ2 : Hid ((SB.extract (i + 1) SB.size).size + (i + 1) = SB.size) := by
          show _ = _
          rw [ByteArray.size_extract]; omega
        have HL2 : Hid ((s.drop (i + 1)).length ≤ s.length) := by show _ ≤ _; rw [List.length_drop]; omega
        clear hb2 hb' hn2 hJ' hx2 c0 c1 c2
        gi_wp2
        go_roundw
        case rel => exact ⟨pre ++ [s.take i], s.drop (i + 1), by rw [HF.out]; simp, Nat.le_trans HL2.out HSL.out, HJ2.out, by rw [← HS2.out]; exact HN2.out⟩
        case measure => rw [HM2.out, HRN.out, ← HS3.out]; have := HZ2.out; omega
      · gi_wp2
        refine bodyPost_ret (results_none rfl _ _ _) rfl ?_
        exact ⟨⟨_, rfl⟩, .inr ⟨_, pre_step HF.out, hx⟩⟩
end Go.Proofs.YtjmbpldkggbdlaaGreatDoor

/- What Parse of package damage answers of legal numbers and any text. -/
namespace Go.Proofs.YtjmbpldkggbdlaaGreatDoor
open Go.RowKit Go.Shelf Gf
set_option linter.unusedVariables false
set_option maxRecDepth 20000
attribute [local go_sem] Oper.semAt_some
/-- what stands between two rounds: acc has been read -/
def PCells (N : Nat) (k r : Nat) (w W : World) (acc : List Nat) : Prop :=
  W.heap[N]? = some (.cells #[.int .i64 k] 3 (0, 0)) ∧ W.heap[N + 1]? = some (.cells #[.int .i64 r] 3 (0, 0)) ∧ W.heap[N + 2]? = some (.cells #[.slice none 0 0] 22 (0, 0)) ∧ W.heap[N + 3]? = some (.cells #[.nilIface] 26 (0, 0)) ∧
  (∃ a c, W.heap[N + 4]? = some (.cells #[.slice a acc.length c] 22 (0, 0)) ∧ W.ownsRow (N + 10) 3 1 (.slice a acc.length c) acc.length ((natJ8 acc).map (Value.int .i64))) ∧
  W.heap[N + 5 + 1]? = some (.cells #[.string ⟨#[44]⟩] 9 (0, 0)) ∧ W.heap[N + 5 + 2]? = some (.cells #[.int .i64 0] 3 (0, 0)) ∧ W.heap[N + 8]? = some (.deferred (some [])) ∧ N + 10 ≤ W.heap.size ∧ Below N w W
/-- what stands where a round has left with an error -/
def PBad (N : Nat) (w W : World) (s : Addr) : Prop :=
  W.heap[N + 2]? = some (.cells #[.slice none 0 0] 22 (0, 0)) ∧ W.heap[N + 3]? = some (.cells #[errAt s] 26 (0, 0)) ∧ W.heap[N + 8]? = some (.deferred (some [])) ∧ Below N w W
theorem put_other {W : World} {l k : Nat} {o o' : Obj} (h : W.heap[k]? = some o) (hne : k ≠ l) : (W.putObj l o').heap[k]? = some o := (World.putObj_heap_other hne).trans h
theorem own_put {W : World} {B l n : Nat} {v : Value} {e : TypeId} {xs : List Value} {o' : Obj} (h : W.ownsRow B e 1 v n xs) (hl : l < B) : (W.putObj l o').ownsRow B e 1 v n xs :=
  ⟨h.1, h.2.imp id fun ⟨g, cap, cur, h1, h2, h3, h4⟩ => ⟨g, cap, cur, h1, h2, put_other h3 (by omega), h4⟩⟩
theorem below_put {N l : Nat} {w W : World} {o : Obj} (h : Below N w W) (hl : N ≤ l) (hlt : l < W.heap.size) : Below N w (W.putObj l o) :=
  h.grown (grownBy_putObj' W l o) (by omega) (fun k e => by cases e; exact hl)
theorem pcells_put {N k r : Nat} {w W : World} {acc : List Nat} (h : PCells N k r w W acc) (hw : N = w.heap.size) (o : Obj) : PCells N k r w (W.putObj (N + 9) o) acc := by
  obtain ⟨h0, h1, h2, h3, ⟨a, c, h4, h5⟩, h6, h7, h8, h9, hb⟩ := h
  exact ⟨put_other h0 (by omega), put_other h1 (by omega), put_other h2 (by omega), put_other h3 (by omega), ⟨a, c, put_other h4 (by omega), own_put h5 (by omega)⟩, put_other h6 (by omega), put_other h7 (by omega), put_other h8 (by omega), by simpa using h9, below_put hb (by omega) (by omega)⟩
theorem pcells_set {N k r : Nat} {w W : World} {acc : List Nat} {v : Value} (h : PCells N k r w W acc) (hw : N = w.heap.size) : PCells N k r w (W.setCell ⟨N + 5, 0, none⟩ v) acc := by
  obtain ⟨h0, h1, h2, h3, ⟨a, c, h4, h5⟩, h6, h7, h8, h9, hb⟩ := h
  have hs : ∀ {q : Nat} {o : Obj}, W.heap[q]? = some o → q ≠ N + 5 → (W.setCell ⟨N + 5, 0, none⟩ v).heap[q]? = some o := fun {q o} hq hne => (heap_setCell_other _ _ _ _ hne).trans hq
  exact ⟨hs h0 (by omega), hs h1 (by omega), hs h2 (by omega), hs h3 (by omega), ⟨a, c, hs h4 (by omega), ⟨h5.1, h5.2.imp id fun ⟨g, cap, cur, q1, q2, q3, q4⟩ => ⟨g, cap, cur, q1, q2, hs q3 (by omega), q4⟩⟩⟩, hs h6 (by omega), hs h7 (by omega), hs h8 (by omega), by simpa using h9, hb.setCell (p := ⟨N + 5, 0, none⟩) (by show N ≤ N + 5; omega) _⟩
theorem own_mono8 {w : World} {B B' size n : Nat} {v : Value} {e : TypeId} {xs : List Value} (hb : B' ≤ B) (h : w.ownsRow B e size v n xs) : w.ownsRow B' e size v n xs :=
  ⟨h.1, h.2.imp id fun ⟨g, cap, cur, h1, h2, h3⟩ => ⟨g, cap, cur, h1, Nat.le_trans hb h2, h3⟩⟩
theorem wpListIn_append_run8 {F : Fence} {nF : Nat} {P : Program} {w : World} {ops : Array Oper} {rest : List Oper} {o : Oper} {a : Act} {Q : Exit → Act → World → Prop} (hgd : o.guard = none) (s x : Operand) (t : TypeId)
    (ho : o.op = .call { callee := .builtin .append, args := #[s, x], argTypes := #[t, t] }) (v u r : Value) (w' : World) (hs : a.eval s = v) (hx : a.eval x = u)
    (hr : (Builtin.append_ #[t, t] o.type #[v, u]).run P w = .ok r w') (h : wpListIn F nF P ops Q rest (a.put o.dst r) w') : wpListIn F nF P ops Q (o :: rest) a w := by
  refine wpListIn_plain hgd fun K hK => ?_
  unfold Oper.wpIn
  refine ⟨?_, ?_⟩
  · simp [Oper.about, ho, resolve, Target.leads, Sem.run_pure]
  · rw [Oper.semAt_plain F _ _ (by rw [ho]; intro c hc'; cases hc')]
    simp only [execOp, ho, resolve, invoke, builtin, Sem.run_bind, Sem.run_pure, Result.andThen_ok, List.map_toArray, List.map_cons, List.map_nil, hs, hx, hr]
    exact hK _ _ h
theorem rises_nat {acc : List Nat} {h : Nat} : decide (natJ8 acc = [] ∨ (natJ8 acc).getD ((natJ8 acc).length - 1) 0 < (h : Int)) = decide (acc = [] ∨ acc.getD (acc.length - 1) 0 < h) := by
  simp only [decide_eq_decide]
  rw [natJ8_len]
  by_cases h0 : acc = []
  · simp [h0, natJ8]
  · have hl : acc.length - 1 < acc.length := by have := List.length_pos_iff.2 h0; omega
    have e : (natJ8 acc).getD (acc.length - 1) 0 = ((acc.getD (acc.length - 1) 0 : Nat) : Int) := by simp [natJ8, List.getD, hl]
    rw [e]
    simp [h0, natJ8]
theorem rowI_own8 {w : World} {B : Nat} {a : Option Addr} {c : Nat} {L : List Nat} (ho : w.ownsRow B 3 1 (.slice a L.length c) L.length ((natJ8 L).map (Value.int .i64))) : RowI w a (natJ8 L) := by
  obtain ⟨a2, c2, e, _, _, _, h, _⟩ := listOf_own (Nat.le_refl B) rfl ho
  cases e
  exact h
theorem one_same8 {W : World} {k : Nat} {v v' : Value} {t : TypeId} (h : W.heap[k]? = some (.cells #[v] t (0, 0))) : (W.setCell ⟨k, 0, none⟩ v').heap[k]? = some (.cells #[v'] t (0, 0)) := by
  rw [heap_setCell_same _ _ _ _ _ _ h]; rfl
theorem one_other8 {W : World} {j k : Nat} {v : Value} {o : Obj} (h : W.heap[j]? = some o) (hne : j ≠ k) : (W.setCell ⟨k, 0, none⟩ v).heap[j]? = some o := (heap_setCell_other _ _ _ _ hne).trans h
theorem range_enter {F : Fence} {n : Nat} {P : Program} {g : Operand} {ps : Array Tmp} {assign body : Code} {Q : Exit → Act → World → Prop} {a : Act} {w : World} {gf : Nat} {lb : Array Value} (hro : F.round = none) (h1 : 1 ≤ n)
    (hg : a.eval g = .func (.func gf) #[] lb) (hFg : F.fn gf) (eg : ∀ args w, (callFunc gf args).run P w = .ok (.enter gf args) w)
    (h : ∀ fn, F.fn fn → ∀ R : Loop, R = { state := .ready, pending := none, fn, tmps := a.tmps, params := ps, assign, body, defers := w.heap.size } →
      CallsIn F (n - 1) P gf (#[.func (.yield (w.heap.size + 1)) #[] #[]] ++ lb) ((w.alloc (.deferred (some []))).alloc (.loop R)) (rangePost F n P (w.heap.size + 1) Q { a with defers := [{ target := .collected w.heap.size, args := #[] }] ++ a.defers })) :
    (Code.rangeFunc g ps assign body).wpIn F n P Q a w := by
  refine wpIn_rangeFunc ?_
  intro fn hfn
  rw [hro]
  obtain ⟨R, hR⟩ : ∃ R : Loop, R = { state := .ready, pending := none, fn, tmps := a.tmps, params := ps, assign, body, defers := w.heap.size } := ⟨_, rfl⟩
  have hent := run_enterLoop_outer (P := P) (w := w) fn a.tmps ps assign body
  rw [← hR] at hent
  refine ⟨w.heap.size + 1, [{ target := .collected w.heap.size, args := #[] }], (w.alloc (.deferred (some []))).alloc (.loop R), { target := .fn (.func gf) lb, args := #[.func (.yield (w.heap.size + 1)) #[] #[]] }, (w.alloc (.deferred (some []))).alloc (.loop R), gf, #[.func (.yield (w.heap.size + 1)) #[] #[]] ++ lb, (w.alloc (.deferred (some []))).alloc (.loop R), hent, ?_, ?_, ?_, fun _ => h1, ?_⟩
  · simp only [resolve, hg]
    simp [go_sem]
  · intro f' hf'; simp [Target.leads] at hf'; subst hf'; exact hFg
  · simp [invoke, go_sem, eg]
  · exact h fn hfn R hR
theorem none_eq {t : List UInt8} : ((strB t).toList == (strB [110, 111, 110, 101]).toList) = decide (t = [110, 111, 110, 101]) := by
  by_cases h : t = [110, 111, 110, 101]
  · rw [strB_eq h, decide_eq_true h]
  · rw [strB_ne h, decide_eq_false h]
set_option maxRecDepth 100000 in
set_option maxHeartbeats 16000000 in
theorem parse8_in (k r : Nat) (t : List UInt8) (w : World) (E : Nat → Addr) (hE : ErrsH w E) (h1 : 1 ≤ k) (h2 : 2 ≤ r) (h3 : k + r ≤ 16) (ht : t.length ≤ 140737488355328) :
    CallsIn Fence.wide 5 Tryz.prog 26 #[.int .i64 k, .int .i64 r, .string (strB t)] w fun e w' =>
      ((∃ acc a c, parseC k (2 * (k + r)) t = some acc ∧ e = .returned (.tuple #[.slice a acc.length c, .nilIface]) ∧ ListOf w' w.heap.size (.slice a acc.length c) acc) ∨ (parseC k (2 * (k + r)) t = none ∧ e = .returned (.tuple #[.slice none 0 0, errAt (E 3)]))) ∧ Below w.heap.size w w' := by
  have HE : Hid (ErrsH w E) := hE
  clear hE
  refine callsIn_of_wp_marks Tryz.func26 rfl trivial ?_ rfl
  simp only [Tryz.ntmps26, List.size_toArray, List.length_cons, List.length_nil, Nat.reduceAdd, Nat.reduceSub, Array.replicate_succ, Array.replicate_zero, List.push_toArray, List.append_toArray, List.nil_append, List.cons_append]
  have hA := holds_new (holds_new (holds_new (holds_new (holds_nil w) #[.int .i64 k] 3) #[.int .i64 r] 3) #[.slice none 0 0] 22) #[.nilIface] 26
  simp only [World.size_alloc] at hA
  have HA0 : Hid _ := hA
  have HB0 : Hid (Below w.heap.size w ((((w.alloc (.cells #[.int .i64 k] 3)).alloc (.cells #[.int .i64 r] 3)).alloc (.cells #[.slice none 0 0] 22)).alloc (.cells #[.nilIface] 26))) := ((((Below.refl _ w).alloc (Nat.le_refl _) _).alloc (by simp) _).alloc (by simp; omega) _).alloc (by simp; omega) _
  clear hA
  gi_wp2_with fail
  refine ⟨trivial, (callsIn_wide.2 (bcheck_ok k r _ h1 h2 h3)).mono ?_⟩
  rintro e w' ⟨rfl, hw'⟩
  have hsz0 : ((((w.alloc (.cells #[.int .i64 k] 3)).alloc (.cells #[.int .i64 r] 3)).alloc (.cells #[.slice none 0 0] 22)).alloc (.cells #[.nilIface] 26)).heap.size = w.heap.size + 4 := by simp
  rw [hw'] at HA0 HB0 hsz0
  clear hw'
  by_cases hno : t = [110, 111, 110, 101]
  · subst hno
    have k2 := holds_at HA0.out 1 rfl
    have k3 := holds_at HA0.out 0 rfl
    have f2 : w'.frozen? ⟨w.heap.size + 1 + 1, 0, none⟩ = false := frozen_of_row _ _ _ _ _ k2
    have f3 : w'.frozen? ⟨w.heap.size + 1 + 1 + 1, 0, none⟩ = false := frozen_of_row _ _ _ _ _ k3
    have c2 := cellAt k2 0 _ rfl
    have c3 := cellAt k3 0 _ rfl
    have c0 := cellAt (holds_at HA0.out 3 rfl) 0 _ rfl
    have c1 := cellAt (holds_at HA0.out 2 rfl) 0 _ rfl
    rw [show strB [110, 111, 110, 101] = (⟨#[110, 111, 110, 101]⟩ : ByteArray) from rfl]
    have HK2 : Hid _ := k2
    have HK3 : Hid _ := k3
    clear k2 k3
    gi_wp2
    have m2 : ((w'.setCell ⟨w.heap.size + 1 + 1, 0, none⟩ (.slice none 0 0)).setCell ⟨w.heap.size + 1 + 1 + 1, 0, none⟩ .nilIface).heap[w.heap.size + 1 + 1]? = some (.cells #[.slice none 0 0] 22 (0, 0)) := one_other8 (one_same8 HK2.out) (by omega)
    have m3 : ((w'.setCell ⟨w.heap.size + 1 + 1, 0, none⟩ (.slice none 0 0)).setCell ⟨w.heap.size + 1 + 1 + 1, 0, none⟩ .nilIface).heap[w.heap.size + 1 + 1 + 1]? = some (.cells #[.nilIface] 26 (0, 0)) := one_same8 (one_other8 HK3.out (by omega))
    have d2 := cellAt m2 0 _ rfl
    have d3 := cellAt m3 0 _ rfl
    refine ⟨.tuple #[.slice none 0 0, .nilIface], by simp [results, Tryz.f26, go_sem, d2, d3], .inl ⟨[], none, 0, rfl, rfl, none, 0, rfl, Nat.le_refl _, Nat.zero_le _, fun _ => rfl, .inl rfl, fun p h => (by cases h)⟩, ?_⟩
    exact (HB0.out.setCell (p := ⟨w.heap.size + 1 + 1, 0, none⟩) (by show w.heap.size ≤ w.heap.size + 1 + 1; omega) _).setCell (p := ⟨w.heap.size + 1 + 1 + 1, 0, none⟩) (by show w.heap.size ≤ w.heap.size + 1 + 1 + 1; omega) _
  · have hne : ((strB t).toList == [110, 111, 110, 101]) = false := by rw [strB_list]; exact beq_eq_false_iff_ne.2 hno
    have HNO : Hid (parseC k (2 * (k + r)) t = readC k (2 * (k + r)) (splitC t)) := by show _ = _; rw [parseC, if_neg hno]
    gi_wp2_with fail
    refine ⟨trivial, (callsIn_wide.2 (splitSeq_F (strB t) _)).mono ?_⟩
    rintro e w2 ⟨rfl, hw2⟩
    have hA := holds_new (holds_new (holds_new (holds_new HA0.out #[.slice none 0 0] 22) #[.string (strB t)] 9) #[.string ⟨#[44]⟩] 9) #[.int .i64 0] 3
    have hB := (((HB0.out.alloc (by omega) (.cells #[.slice none 0 0] 22)).alloc (by simp; omega) (.cells #[.string (strB t)] 9)).alloc (by simp; omega) (.cells #[.string ⟨#[44]⟩] 9)).alloc (by simp; omega) (.cells #[.int .i64 0] 3)
    rw [← hw2] at hA hB
    have hsz2 : w2.heap.size = w.heap.size + 8 := by rw [hw2]; simp; omega
    simp only [World.size_alloc, hsz0] at hA ⊢
    have HA : Hid _ := hA
    have HB : Hid _ := hB
    clear hA hB hw2 HA0 HB0 hne hsz0
    gi_wp2
    have g0 : w2.heap[w.heap.size]? = some (.cells #[.int .i64 k] 3 (0, 0)) := holds_at HA.out 7 rfl
    have g1 : w2.heap[w.heap.size + 1]? = some (.cells #[.int .i64 r] 3 (0, 0)) := holds_at HA.out 6 rfl
    have g2 : w2.heap[w.heap.size + 2]? = some (.cells #[.slice none 0 0] 22 (0, 0)) := holds_at HA.out 5 rfl
    have g3 : w2.heap[w.heap.size + 3]? = some (.cells #[.nilIface] 26 (0, 0)) := holds_at HA.out 4 rfl
    have g4 : w2.heap[w.heap.size + 4]? = some (.cells #[.slice none 0 0] 22 (0, 0)) := holds_at HA.out 3 rfl
    have g5 : w2.heap[w.heap.size + 5]? = some (.cells #[.string (strB t)] 9 (0, 0)) := holds_at HA.out 2 rfl
    have g6 : w2.heap[w.heap.size + 5 + 1]? = some (.cells #[.string ⟨#[44]⟩] 9 (0, 0)) := holds_at HA.out 1 rfl
    have g7 : w2.heap[w.heap.size + 5 + 2]? = some (.cells #[.int .i64 0] 3 (0, 0)) := holds_at HA.out 0 rfl
    have hB9 : Below w.heap.size w w2 := HB.out
    simp only [Nat.add_assoc, Nat.reduceAdd]
    refine range_enter (gf := 83) (lb := #[.pointer (some ⟨w.heap.size + 5 + 1, 0, none⟩), .pointer (some ⟨w.heap.size + 5, 0, none⟩), .pointer (some ⟨w.heap.size + 5 + 2, 0, none⟩)]) rfl (by omega) rfl trivial (enters_of Tryz.func83 (by kernel_rfl) rfl) ?_
    intro fn hfn R hR
    rw [hsz2]
    have hsz2N : w2.heap.size = w.heap.size + 8 := hsz2
    refine (split1_in (5 - 1) (by omega) (w.heap.size + 8 + 1) (w.heap.size + 5) t ht
      (fun pre W => (∃ acc, readC k (2 * (k + r)) pre = some acc ∧ PCells w.heap.size k r w W acc) ∧ W.heap[w.heap.size + 9]? = some (.loop R))
      (fun pre W => (readC k (2 * (k + r)) pre = none ∧ PBad w.heap.size w W (E 3)) ∧ W.heap[w.heap.size + 9]? = some (.loop { R with state := .done, pending := some .ret })) ?hbx ?hset ?hY _ ?h0 ?hs).mono ?_
    case hbx =>
      rintro pre W ⟨⟨acc, _, hp⟩, _⟩
      exact ⟨hp.2.2.2.2.2.1, hp.2.2.2.2.2.2.1⟩
    case hset =>
      rintro pre W S S' ⟨⟨acc, ha, hp⟩, hl⟩ _
      exact ⟨⟨acc, ha, pcells_set hp rfl⟩, one_other8 hl (by omega)⟩
    case h0 =>
      have ho : ∀ {q : Nat} {o : Obj}, w2.heap[q]? = some o → ((w2.alloc (.deferred (some []))).alloc (.loop R)).heap[q]? = some o := fun {q o} h => (Below.heap_alloc _ _ _ (by simp; have := (Array.getElem?_eq_some_iff.1 h).1; omega)).trans ((Below.heap_alloc _ _ _ (Array.getElem?_eq_some_iff.1 h).1).trans h)
      have hd : ((w2.alloc (.deferred (some []))).alloc (.loop R)).heap[w.heap.size + 8]? = some (.deferred (some [])) := by
        rw [← hsz2N]; exact (Below.heap_alloc _ _ _ (by simp)).trans (World.alloc_heap_new w2 _)
      have hl : ((w2.alloc (.deferred (some []))).alloc (.loop R)).heap[w.heap.size + 9]? = some (.loop R) := by
        have := World.alloc_heap_new (w2.alloc (.deferred (some []))) (.loop R)
        rw [World.size_alloc, hsz2N] at this
        exact this
      exact ⟨⟨[], readC_nil _ _, ho g0, ho g1, ho g2, ho g3, ⟨none, 0, ho g4, World.ownsRow_nil _ _ _ _⟩, ho g6, ho g7, hd, by simp; omega, (hB9.alloc (by omega) _).alloc (by simp; omega) _⟩, hl⟩
    case hs => exact (Below.heap_alloc _ _ _ (by simp; omega)).trans ((Below.heap_alloc _ _ _ (by omega)).trans g5)
    case hY =>
      rintro pre x W hpre ⟨⟨acc, hacc, hp⟩, hl⟩
      obtain ⟨hu9, hn9, _⟩ := readC_good pre hacc
      have hlen9 := pair_len hu9 hn9
      have hRb := congrArg Loop.body hR
      have hRa := congrArg Loop.assign hR
      have hRt := congrArg Loop.tmps hR
      have hRp := congrArg Loop.params hR
      have hRs := congrArg Loop.state hR
      have hRe := congrArg Loop.pending hR
      dsimp only at hRb hRa hRt hRp hRs hRe
      obtain ⟨Rb, hRb2⟩ : ∃ Rb : Loop, Rb = { R with state := .busy } := ⟨_, rfl⟩
      obtain ⟨Rd, hRd2⟩ : ∃ Rd : Loop, Rd = { R with state := .done, pending := some .ret } := ⟨_, rfl⟩
      rw [← hRd2]
      have hYY := round_at (F := Fence.wide) (m := 5 - 1 - 1) (P := Tryz.prog) (l := w.heap.size + 8 + 1) (args := #[.string (strB x)]) (W := W) (Go := fun U => (∃ acc', readC k (2 * (k + r)) (pre ++ [x]) = some acc' ∧ PCells w.heap.size k r w U acc') ∧ U.heap[w.heap.size + 5]? = W.heap[w.heap.size + 5]?) (Out := fun _ U => readC k (2 * (k + r)) (pre ++ [x]) = none ∧ PBad w.heap.size w U (E 3))
        (a1 := { tmps := #[.int .i64 k, .int .i64 r, .string (strB t), .pointer (some ⟨w.heap.size, 0, none⟩), .pointer (some ⟨w.heap.size + 1, 0, none⟩), undef, .pointer (some ⟨w.heap.size + 2, 0, none⟩), .pointer (some ⟨w.heap.size + 3, 0, none⟩), .nilIface, .pointer (some ⟨w.heap.size + 4, 0, none⟩), .string (strB x), undef, undef, .int .i64 k, .int .i64 r, .nilIface, .nilIface, .bool false, undef, .string (strB t), .bool false, .string (strB t), .func (.func 83) #[] #[.pointer (some ⟨w.heap.size + 6, 0, none⟩), .pointer (some ⟨w.heap.size + 5, 0, none⟩), .pointer (some ⟨w.heap.size + 7, 0, none⟩)], .string (strB x), undef, undef, undef, undef, undef, undef, undef, undef, undef, undef, undef, undef, undef, undef, undef, undef, undef, undef, undef, undef], defers := [] })
        hRb2 hRd2 trivial hl (by rw [hRp]; rfl) hRs hRe ?asg ?bod
      case asg =>
        intro K hK
        rw [hRa, hRt, hRp]
        gi_wp2
        exact hK
      case bod =>
        rw [hRb]
        have hpU := pcells_put hp rfl (.loop Rb)
        have hlU : (W.putObj (w.heap.size + 9) (.loop Rb)).heap[w.heap.size + 9]? = some (.loop Rb) := World.putObj_heap_same (Array.getElem?_eq_some_iff.1 hl).1
        have h5U : (W.putObj (w.heap.size + 9) (.loop Rb)).heap[w.heap.size + 5]? = W.heap[w.heap.size + 5]? := World.putObj_heap_other (by omega)
        clear hRb hRa hRt hRp hRs hRe hRb2 hRd2 hR hl
        show Code.wpIn _ _ _ _ _ _ (W.putObj (w.heap.size + 9) (.loop Rb))
        generalize (W.putObj (w.heap.size + 9) (.loop Rb)) = U at *
        obtain ⟨p0, p1, p2, p3, ⟨av, cv, p4, p5⟩, p6, p7, p8, p9, pB⟩ := hpU
        have HR : Hid (readC k (2 * (k + r)) (pre ++ [x]) = stepC k (2 * (k + r)) acc x) := by
          show _ = _
          rw [readC_snoc, hacc]; rfl
        have HP0 : Hid _ := p0
        have HP1 : Hid _ := p1
        have HP2 : Hid _ := p2
        have HP3 : Hid _ := p3
        have HP4 : Hid _ := p4
        have HP5 : Hid (U.ownsRow (w.heap.size + 10) 3 1 (.slice av acc.length cv) acc.length ((natJ8 acc).map (Value.int .i64))) := p5
        have HP6 : Hid _ := p6
        have HP7 : Hid _ := p7
        have HP8 : Hid _ := p8
        have HPB : Hid _ := pB
        have HLU : Hid _ := hlU
        have H5U : Hid _ := h5U
        have c0 := cellAt p0 0 _ rfl
        have c1 := cellAt p1 0 _ rfl
        have hn32 : 2 * (k + r) ≤ 32 := by omega
        have HCC : Hid _ := hacc
        clear p0 p1 p2 p3 p4 p5 p6 p7 p8 pB hlU h5U hacc hp g0 g1 g2 g3 g4 g5 g6 g7 hB9 hsz2 hsz2N
        gi_wp2_with fail
        refine ⟨trivial, CallsIn.inRound _ ((callsIn_wide.2 (parse_F k r x _ (E 3) (errsH_below HE.out HPB.out).2 h1 h2 h3)).mono ?_)⟩
        rintro e w4 ⟨⟨v, rfl, hv⟩, hb4⟩
        have later : ∀ {q : Nat} {o : Obj}, U.heap[q]? = some o → w4.heap[q]? = some o := fun {q o} h => (hb4.block q (Array.getElem?_eq_some_iff.1 h).1).trans h
        have HPB4 : Hid (Below w.heap.size w w4) := HPB.out.trans (hb4.mono HPB.out.size)
        have HP4b : Hid (w4.ownsRow (w.heap.size + 10) 3 1 (.slice av acc.length cv) acc.length ((natJ8 acc).map (Value.int .i64))) := own_below HP5.out hb4
        have z9 : w.heap.size + 10 ≤ w4.heap.size := Nat.le_trans p9 hb4.size
        have HLT : Hid _ := @later
        clear hb4 later c0 c1
        rcases hv with ⟨h, hh, hnm, rfl⟩ | ⟨hnm, rfl⟩
        · have HIX : Hid _ := nameIx_of (show k < 15 by omega) hn32 hh hnm
          have HST : Hid (stepC k (2 * (k + r)) acc x = if acc = [] ∨ acc.getD (acc.length - 1) 0 < h then some (acc ++ [h]) else none) := by
            show _ = _
            unfold stepC; rw [HIX.out]
          have c4 := cellAt (HLT.out HP4.out) 0 _ rfl
          have hown4 := rowI_own8 HP4b.out
          gi_wp2_with fail
          refine ⟨trivial, CallsIn.inRound _ ((callsIn_wide.2 (rises_F acc.length cv av (natJ8 acc) h _ (natJ8_len _).symm (by omega) hown4)).mono ?_)⟩
          rw [rises_nat]
          by_cases hrise : acc = [] ∨ acc.getD (acc.length - 1) 0 < h
          · rw [decide_eq_true hrise]
            rintro e w5 ⟨rfl, rfl⟩
            have HN : Hid _ := HST.out.trans (if_pos hrise)
            have hg9 := readC_good pre HCC.out
            have hl9 := pair_len hg9.1 hg9.2.1
            have ho5 := World.ownsRow.alloc HP4b.out (.cells #[.int .i64 h] 3)
            obtain ⟨g2, cap2, w6, hrun, ho2, hgr, hor, hlt9⟩ := appendI (b := w4.heap.size) (c := 1) (x := (h : Int)) 22 ho5 (cellAt (heap_alloc_last w4 (.cells #[.int .i64 h] 3)) 0 _ rfl) (by omega) (by simp; omega)
            have hv6 : (natJ8 acc).map (Value.int .i64) ++ [.int .i64 (h : Int)] = (natJ8 (acc ++ [h])).map (Value.int .i64) := by simp [natJ8]
            rw [hv6] at ho2
            have hne : ∀ q, q < w.heap.size + 10 → some q ≠ (Value.slice av acc.length cv).ownBlock := fun q hq e => by have := (ho5.lt q e.symm).1; omega
            have keep : ∀ {q : Nat} {o : Obj}, q < w.heap.size + 10 → U.heap[q]? = some o → w6.heap[q]? = some o := fun {q o} hq hu => by
              have h4 := HLT.out hu
              exact (hgr.block q (by simp; omega) (hne q hq)).trans ((Below.heap_alloc w4 _ q (by omega)).trans h4)
            have hb6 : Below w.heap.size w w6 := below_own (HPB4.out.alloc (by omega) (.cells #[.int .i64 h] 3)) (own_mono8 (show w.heap.size ≤ w.heap.size + 10 by omega) ho5) hgr (by simp; omega)
            have k4 := keep (by omega) HP4.out
            have f4 : w6.frozen? ⟨w.heap.size + 4, 0, none⟩ = false := frozen_of_row _ _ _ _ _ k4
            have c6 := cellAt k4 0 _ rfl
            have z6 : w.heap.size + 10 ≤ w6.heap.size := by have := hgr.size; simp at this; omega
            have HRun : Hid _ := hrun
            have HO2 : Hid (w6.ownsRow (w.heap.size + 10) 3 1 (.slice (some ⟨g2, 0, none⟩) (acc.length + 1) cap2) (acc.length + 1) ((natJ8 (acc ++ [h])).map (Value.int .i64))) := ho2
            have HB6 : Hid _ := hb6
            have HK4 : Hid _ := k4
            have HKEEP : Hid _ := @keep
            clear hg9 hl9 ho5 hrun ho2 hgr hor hlt9 hv6 hne keep hb6 k4 hown4 hrise hnm
            gi_wp2_with (gi_at_builtin; refine wpListIn_append_run8 rfl _ _ 22 rfl _ _ _ _ rfl rfl HRun.out ?_)
            have hs : ∀ {q : Nat} {o : Obj}, q < w.heap.size + 10 → q ≠ w.heap.size + 4 → U.heap[q]? = some o → (w6.setCell ⟨w.heap.size + 4, 0, none⟩ (.slice (some ⟨g2, 0, none⟩) (acc.length + 1) cap2)).heap[q]? = some o := fun {q o} h1 h2 h3 => one_other8 (HKEEP.out h1 h3) h2
            refine ⟨hs (by omega) (by omega) HLU.out, ⟨acc ++ [h], by rw [HR.out]; exact HN.out, hs (by omega) (by omega) HP0.out, hs (by omega) (by omega) HP1.out, hs (by omega) (by omega) HP2.out, hs (by omega) (by omega) HP3.out, ⟨some ⟨g2, 0, none⟩, cap2, ?_, ?_⟩, hs (by omega) (by omega) HP6.out, hs (by omega) (by omega) HP7.out, hs (by omega) (by omega) HP8.out, by simpa using z6, HB6.out.setCell (p := ⟨w.heap.size + 4, 0, none⟩) (by show w.heap.size ≤ w.heap.size + 4; omega) _⟩, ?_⟩
            · rw [List.length_append]; exact one_same8 HK4.out
            · rw [List.length_append]
              exact ⟨HO2.out.1, HO2.out.2.imp id fun ⟨g, cap, cur, q1, q2, q3, q4⟩ => ⟨g, cap, cur, q1, q2, one_other8 q3 (by omega), q4⟩⟩
            · have h5 := H5U.out
              cases hq : U.heap[w.heap.size + 5]? with
              | none => exact absurd (Array.getElem?_eq_none_iff.1 hq) (by omega)
              | some o => rw [← h5, hq]; exact hs (by omega) (by omega) hq
          · rw [decide_eq_false hrise]
            rintro e w5 ⟨rfl, rfl⟩
            have HN : Hid _ := HST.out.trans (if_neg hrise)
            have k2 := HLT.out HP2.out
            have k3 := HLT.out HP3.out
            have f2 : w4.frozen? ⟨w.heap.size + 2, 0, none⟩ = false := frozen_of_row _ _ _ _ _ k2
            have f3 : w4.frozen? ⟨w.heap.size + 3, 0, none⟩ = false := frozen_of_row _ _ _ _ _ k3
            have c2 := cellAt k2 0 _ rfl
            have c3 := cellAt k3 0 _ rfl
            have c9 := (errsH_below HE.out HPB4.out).2
            have lt9 : 1 < w4.heap.size := by have := World.block_lt_of_cell? w4 _ c9; simpa using this
            have HK2 : Hid _ := k2
            have HK3 : Hid _ := k3
            have HK8 : Hid _ := HLT.out HP8.out
            have HKL : Hid _ := HLT.out HLU.out
            clear k2 k3 hnm hown4 c4 hrise
            have HBX : Hid (Below w.heap.size w (((w4.setCell ⟨w.heap.size + 2, 0, none⟩ (.slice none 0 0)).setCell ⟨w.heap.size + 3, 0, none⟩ (.iface 188 (.pointer (some (E 3))))).drew)) := ((HPB4.out.setCell (p := ⟨w.heap.size + 2, 0, none⟩) (by show w.heap.size ≤ w.heap.size + 2; omega) _).setCell (p := ⟨w.heap.size + 3, 0, none⟩) (by show w.heap.size ≤ w.heap.size + 3; omega) _).drew
            unfold errAt at *
            gi_wp2
            gi_region
            all_goals gi_wp2
            all_goals exact ⟨one_other8 (one_other8 HKL.out (by omega)) (by omega), by rw [HR.out]; exact HN.out, one_other8 (one_same8 HK2.out) (by omega), one_same8 (one_other8 HK3.out (by omega)), one_other8 (one_other8 HK8.out (by omega)) (by omega), HBX.out⟩
        · have HIX : Hid _ := nameIx_no (k := k) (n := 2 * (k + r)) (p := x) hnm
          have HN : Hid (stepC k (2 * (k + r)) acc x = none) := by
            show _ = _
            unfold stepC; rw [HIX.out]
          have k2 := HLT.out HP2.out
          have k3 := HLT.out HP3.out
          have f2 : w4.frozen? ⟨w.heap.size + 2, 0, none⟩ = false := frozen_of_row _ _ _ _ _ k2
          have f3 : w4.frozen? ⟨w.heap.size + 3, 0, none⟩ = false := frozen_of_row _ _ _ _ _ k3
          have c2 := cellAt k2 0 _ rfl
          have c3 := cellAt k3 0 _ rfl
          have HK2 : Hid _ := k2
          have HK3 : Hid _ := k3
          have HK8 : Hid _ := HLT.out HP8.out
          have HKL : Hid _ := HLT.out HLU.out
          clear k2 k3 hnm
          unfold errAt at *
          gi_wp2
          exact ⟨one_other8 (one_other8 HKL.out (by omega)) (by omega), by rw [HR.out]; exact HN.out, one_other8 (one_same8 HK2.out) (by omega), one_same8 (one_other8 HK3.out (by omega)), one_other8 (one_other8 HK8.out (by omega)) (by omega),
            (HPB4.out.setCell (p := ⟨w.heap.size + 2, 0, none⟩) (by show w.heap.size ≤ w.heap.size + 2; omega) _).setCell (p := ⟨w.heap.size + 3, 0, none⟩) (by show w.heap.size ≤ w.heap.size + 3; omega) _⟩
      obtain ⟨fn', tm', as', bd', hy, hRr⟩ := hYY
      refine ⟨fn', tm', as', bd', hy, hRr.mono ?_⟩
      rintro e W' (⟨rfl, U, hU, ⟨⟨acc', h1', h2'⟩, h3'⟩, rfl⟩ | ⟨rfl, U, hU, ⟨h1', h2'⟩, rfl⟩)
      · refine .inl ⟨rfl, ⟨⟨acc', h1', pcells_put h2' rfl _⟩, World.putObj_heap_same (Array.getElem?_eq_some_iff.1 hU).1⟩, (World.putObj_heap_other (by omega)).trans h3'⟩
      · refine .inr ⟨rfl, ⟨h1', put_other h2'.1 (by omega), put_other h2'.2.1 (by omega), put_other h2'.2.2.1 (by omega), below_put h2'.2.2.2 (by omega) (Array.getElem?_eq_some_iff.1 hU).1⟩, World.putObj_heap_same (Array.getElem?_eq_some_iff.1 hU).1⟩
    rintro e W2 ⟨⟨v, rfl⟩, (⟨⟨acc, hacc, hp⟩, hl⟩ | ⟨pre, ⟨qs, hpre⟩, ⟨hbad, hpb⟩, hl⟩)⟩
    · have he := run_endLoop (P := Tryz.prog) hl (by rw [hR]; simp)
      rw [show R.pending = none by rw [hR]] at he
      have hp2 := pcells_put hp rfl (.loop { R with state := .exhausted })
      have HPC : Hid (parseC k (2 * (k + r)) t = some acc) := HNO.out.trans hacc
      obtain ⟨U, hU⟩ : ∃ U, U = W2.putObj (w.heap.size + 9) (.loop { R with state := .exhausted }) := ⟨_, rfl⟩
      rw [← hU] at hp2
      have he2 : (Instr.endLoop (w.heap.size + 8 + 1)).run Tryz.prog W2 = .ok none U := he.trans (by rw [hU, show R.pending = none by rw [hR]])
      refine ⟨none, U, he2, ?_⟩
      clear he he2 hR hp hl hacc hU g0 g1 g2 g3 g4 g5 g6 g7 hB9 hsz2 hsz2N
      dsimp only [List.cons_append, List.nil_append]
      obtain ⟨p0, p1, p2, p3, ⟨av, cv, p4, p5⟩, p6, p7, p8, p9, pB⟩ := hp2
      have c4 := cellAt p4 0 _ rfl
      have f2 : U.frozen? ⟨w.heap.size + 2, 0, none⟩ = false := frozen_of_row _ _ _ _ _ p2
      have f3 : U.frozen? ⟨w.heap.size + 3, 0, none⟩ = false := frozen_of_row _ _ _ _ _ p3
      have c2 := cellAt p2 0 _ rfl
      have c3 := cellAt p3 0 _ rfl
      have HP2 : Hid _ := p2
      have HP3 : Hid _ := p3
      have HP5 : Hid (U.ownsRow (w.heap.size + 10) 3 1 (.slice av acc.length cv) acc.length ((natJ8 acc).map (Value.int .i64))) := p5
      have HP8 : Hid _ := p8
      have HPB : Hid _ := pB
      have HP9 : Hid _ := p9
      clear p0 p1 p2 p3 p4 p5 p6 p7 p8 p9 pB
      gi_wp2
      have hso : ∀ {q : Nat} {o : Obj} {v2 v3 : Value}, q ≠ w.heap.size + 2 → q ≠ w.heap.size + 3 → U.heap[q]? = some o → ((U.setCell ⟨w.heap.size + 2, 0, none⟩ v2).setCell ⟨w.heap.size + 3, 0, none⟩ v3).heap[q]? = some o := fun {q o v2 v3} h1 h2 h3 => one_other8 (one_other8 h3 h1) h2
      refine ⟨by simp, .inl ⟨_, _, rfl, run_takeDeferred (hso (by omega) (by omega) HP8.out), ?_⟩⟩
      have m2 : (((U.setCell ⟨w.heap.size + 2, 0, none⟩ (.slice av acc.length cv)).setCell ⟨w.heap.size + 3, 0, none⟩ .nilIface).putObj (w.heap.size + 8) (.deferred none)).heap[w.heap.size + 2]? = some (.cells #[.slice av acc.length cv] 22 (0, 0)) := put_other (one_other8 (one_same8 HP2.out) (by omega)) (by omega)
      have m3 : (((U.setCell ⟨w.heap.size + 2, 0, none⟩ (.slice av acc.length cv)).setCell ⟨w.heap.size + 3, 0, none⟩ .nilIface).putObj (w.heap.size + 8) (.deferred none)).heap[w.heap.size + 3]? = some (.cells #[.nilIface] 26 (0, 0)) := put_other (one_same8 (one_other8 HP3.out (by omega))) (by omega)
      have mo : (((U.setCell ⟨w.heap.size + 2, 0, none⟩ (.slice av acc.length cv)).setCell ⟨w.heap.size + 3, 0, none⟩ .nilIface).putObj (w.heap.size + 8) (.deferred none)).ownsRow (w.heap.size + 10) 3 1 (.slice av acc.length cv) acc.length ((natJ8 acc).map (Value.int .i64)) :=
        own_put ⟨HP5.out.1, HP5.out.2.imp id fun ⟨g, cap, cur, q1, q2, q3, q4⟩ => ⟨g, cap, cur, q1, q2, hso (by omega) (by omega) q3, q4⟩⟩ (by omega)
      have d2 := cellAt m2 0 _ rfl
      have d3 := cellAt m3 0 _ rfl
      refine ⟨.tuple #[.slice av acc.length cv, .nilIface], by simp [results, Tryz.f26, go_sem, d2, d3], .inl ⟨acc, av, cv, HPC.out, rfl, listOf_own (by omega) rfl mo⟩, ?_⟩
      exact below_put ((HPB.out.setCell (p := ⟨w.heap.size + 2, 0, none⟩) (by show w.heap.size ≤ w.heap.size + 2; omega) _).setCell (p := ⟨w.heap.size + 3, 0, none⟩) (by show w.heap.size ≤ w.heap.size + 3; omega) _) (by omega) (by have := HP9.out; simp; omega)
    · have he := run_endLoop (P := Tryz.prog) hl (by simp)
      obtain ⟨U, hU⟩ : ∃ U, U = W2.putObj (w.heap.size + 9) (.loop { R with state := .exhausted, pending := some .ret }) := ⟨_, rfl⟩
      have he2 : (Instr.endLoop (w.heap.size + 8 + 1)).run Tryz.prog W2 = .ok (some .ret) U := he.trans (by rw [hU])
      refine ⟨some .ret, U, he2, ?_⟩
      have HPC : Hid (parseC k (2 * (k + r)) t = none) := HNO.out.trans (by rw [← hpre]; exact readC_dead hbad)
      obtain ⟨p2, p3, p8, pB⟩ := hpb
      have z9 := (Array.getElem?_eq_some_iff.1 hl).1
      have hus : U.heap.size = W2.heap.size := by rw [hU]; simp
      have q2 : U.heap[w.heap.size + 2]? = some (.cells #[.slice none 0 0] 22 (0, 0)) := by rw [hU]; exact put_other p2 (by omega)
      have q3 : U.heap[w.heap.size + 3]? = some (.cells #[errAt (E 3)] 26 (0, 0)) := by rw [hU]; exact put_other p3 (by omega)
      have q8 : U.heap[w.heap.size + 8]? = some (.deferred (some [])) := by rw [hU]; exact put_other p8 (by omega)
      have qB : Below w.heap.size w U := by rw [hU]; exact below_put pB (by omega) z9
      clear he he2 hR hl hU hbad hpre p2 p3 p8 pB g0 g1 g2 g3 g4 g5 g6 g7 hB9 hsz2 hsz2N
      dsimp only [List.cons_append, List.nil_append]
      have HQ2 : Hid _ := q2
      have HQ3 : Hid _ := q3
      have HQ8 : Hid _ := q8
      have HQB : Hid _ := qB
      clear q2 q3 q8 qB
      gi_wp2
      refine ⟨by simp, .inl ⟨_, _, rfl, run_takeDeferred HQ8.out, ?_⟩⟩
      have m2 := put_other (o' := .deferred none) HQ2.out (show w.heap.size + 2 ≠ w.heap.size + 8 by omega)
      have m3 := put_other (o' := .deferred none) HQ3.out (show w.heap.size + 3 ≠ w.heap.size + 8 by omega)
      have d2 := cellAt m2 0 _ rfl
      have d3 := cellAt m3 0 _ rfl
      refine ⟨.tuple #[.slice none 0 0, errAt (E 3)], by simp [results, Tryz.f26, go_sem, d2, d3], .inr ⟨HPC.out, rfl⟩, ?_⟩
      exact below_put HQB.out (by omega) (by omega)
theorem parse8_F (k r : Nat) (t : List UInt8) (w : World) (E : Nat → Addr) (hE : ErrsH w E) (h1 : 1 ≤ k) (h2 : 2 ≤ r) (h3 : k + r ≤ 16) (ht : t.length ≤ 140737488355328) :
    Calls Tryz.prog 26 #[.int .i64 k, .int .i64 r, .string (strB t)] w fun e w' =>
      ((∃ acc a c, parseC k (2 * (k + r)) t = some acc ∧ e = .returned (.tuple #[.slice a acc.length c, .nilIface]) ∧ ListOf w' w.heap.size (.slice a acc.length c) acc) ∨ (parseC k (2 * (k + r)) t = none ∧ e = .returned (.tuple #[.slice none 0 0, errAt (E 3)]))) ∧ Below w.heap.size w w' :=
  (callsIn_wide (n := 5)).1 (parse8_in k r t w E hE h1 h2 h3 ht)
set_option maxHeartbeats 4000000 in
theorem parse8_bad (k r : Int) (S : ByteArray) (w : World) (s : Addr) (hs : w.cell? ⟨0, 0, none⟩ = some (errAt s)) (hk0 : -9223372036854775808 ≤ k) (hk1 : k ≤ 9223372036854775807) (hr0 : -9223372036854775808 ≤ r) (hr1 : r ≤ 9223372036854775807) (hL : ¬ LegalP k r) :
    Calls Tryz.prog 26 #[.int .i64 k, .int .i64 r, .string S] w fun e w' => e = .returned (.tuple #[.slice none 0 0, errAt s]) ∧ Below w.heap.size w w' := by
  refine (callsIn_wide (n := 5)).1 ?_
  refine callsIn_of_wp_marks Tryz.func26 rfl trivial ?_ rfl
  simp only [Tryz.ntmps26, List.size_toArray, List.length_cons, List.length_nil, Nat.reduceAdd, Nat.reduceSub, Array.replicate_succ, Array.replicate_zero, List.push_toArray, List.append_toArray, List.nil_append, List.cons_append]
  have hA := holds_new (holds_new (holds_new (holds_new (holds_nil w) #[.int .i64 k] 3) #[.int .i64 r] 3) #[.slice none 0 0] 22) #[.nilIface] 26
  simp only [World.size_alloc] at hA
  have HA0 : Hid _ := hA
  have HB0 : Hid (Below w.heap.size w ((((w.alloc (.cells #[.int .i64 k] 3)).alloc (.cells #[.int .i64 r] 3)).alloc (.cells #[.slice none 0 0] 22)).alloc (.cells #[.nilIface] 26))) := ((((Below.refl _ w).alloc (Nat.le_refl _) _).alloc (by simp) _).alloc (by simp; omega) _).alloc (by simp; omega) _
  have HS : Hid _ := cell_later HB0.out hs
  clear hA hs
  gi_wp2_with fail
  refine ⟨trivial, (callsIn_wide.2 (bcheck_bad k r _ s HS.out hk0 hk1 hr0 hr1 hL)).mono ?_⟩
  rintro e w' ⟨rfl, hw'⟩
  rw [hw'] at HA0 HB0
  have k2 := holds_at HA0.out 1 rfl
  have k3 := holds_at HA0.out 0 rfl
  have f2 : w'.frozen? ⟨w.heap.size + 1 + 1, 0, none⟩ = false := frozen_of_row _ _ _ _ _ k2
  have f3 : w'.frozen? ⟨w.heap.size + 1 + 1 + 1, 0, none⟩ = false := frozen_of_row _ _ _ _ _ k3
  have c2 := cellAt k2 0 _ rfl
  have c3 := cellAt k3 0 _ rfl
  have HK2 : Hid _ := k2
  have HK3 : Hid _ := k3
  clear k2 k3 hw'
  unfold errAt at *
  gi_wp2
  have m2 : ((w'.setCell ⟨w.heap.size + 1 + 1, 0, none⟩ (.slice none 0 0)).setCell ⟨w.heap.size + 1 + 1 + 1, 0, none⟩ (errAt s)).heap[w.heap.size + 1 + 1]? = some (.cells #[.slice none 0 0] 22 (0, 0)) := one_other8 (one_same8 HK2.out) (by omega)
  have m3 : ((w'.setCell ⟨w.heap.size + 1 + 1, 0, none⟩ (.slice none 0 0)).setCell ⟨w.heap.size + 1 + 1 + 1, 0, none⟩ (errAt s)).heap[w.heap.size + 1 + 1 + 1]? = some (.cells #[errAt s] 26 (0, 0)) := one_same8 (one_other8 HK3.out (by omega))
  have d2 := cellAt m2 0 _ rfl
  have d3 := cellAt m3 0 _ rfl
  unfold errAt at d2 d3
  refine ⟨.tuple #[.slice none 0 0, errAt s], by simp [results, Tryz.f26, go_sem, d2, d3, errAt], rfl, ?_⟩
  exact (HB0.out.setCell (p := ⟨w.heap.size + 1 + 1, 0, none⟩) (by show w.heap.size ≤ w.heap.size + 1 + 1; omega) _).setCell (p := ⟨w.heap.size + 1 + 1 + 1, 0, none⟩) (by show w.heap.size ≤ w.heap.size + 1 + 1 + 1; omega) _
end Go.Proofs.YtjmbpldkggbdlaaGreatDoor

/- What the document's own Parse answers of legal numbers and any text. -/
namespace Go.Proofs.YtjmbpldkggbdlaaGreatDoor
open Go.RowKit Gf
set_option linter.unusedVariables false
set_option maxRecDepth 20000
theorem drop_cut {t : List UInt8} {fr j : Nat} (hf : fr ≤ j) (hj : j < t.length) (hc : t[j] = 44) (hn : 44 ∉ (t.drop fr).take (j - fr)) : splitC (t.drop fr) = (t.drop fr).take (j - fr) :: splitC (t.drop (j + 1)) := by
  have e : t.drop fr = (t.drop fr).take (j - fr) ++ 44 :: t.drop (j + 1) := by
    conv => lhs; rw [← List.take_append_drop (j - fr) (t.drop fr)]
    rw [List.drop_drop, show fr + (j - fr) = j by omega, List.drop_eq_getElem_cons hj, hc]
  conv => lhs; rw [e]
  exact splitC_comma _ hn
theorem drop_end {t : List UInt8} {fr : Nat} (hn : 44 ∉ (t.drop fr).take (t.length - fr)) : splitC (t.drop fr) = [(t.drop fr).take (t.length - fr)] := by
  have e : (t.drop fr).take (t.length - fr) = t.drop fr := List.take_of_length_le (by rw [List.length_drop]; omega)
  rw [e] at hn ⊢
  exact splitC_none hn
theorem take_more {t : List UInt8} {fr j : Nat} (hf : fr ≤ j) (hj : j < t.length) (hc : t[j] ≠ 44) (hn : 44 ∉ (t.drop fr).take (j - fr)) : 44 ∉ (t.drop fr).take (j + 1 - fr) := by
  rw [show j + 1 - fr = (j - fr) + 1 by omega, List.take_add_one, List.mem_append, not_or]
  refine ⟨hn, fun h => ?_⟩
  rw [List.getElem?_drop, show fr + (j - fr) = j by omega, List.getElem?_eq_getElem hj] at h
  simp at h
  exact hc h.symm
theorem strB_get {t : List UInt8} {j : Nat} (h : j < (strB t).size) (h2 : j < t.length) : (strB t)[j] = t[j] := by
  simp [strB, ByteArray.getElem_eq_getElem_data]
theorem wrap_nat8 {m : Nat} (h : m ≤ 1000) : IntKind.i64.wrap (m : Int) = (m : Int) := by rw [IntKind.wrap_i64]; omega
theorem stepC_no {k n : Nat} {acc : List Nat} {p : List UInt8} (h : ∀ x, x < n → ¬ (nameB k x = p ∧ (acc = [] ∨ acc.getD (acc.length - 1) 0 < x))) : stepC k n acc p = none := by
  unfold stepC
  cases hf : nameIx k n p with
  | none => rfl
  | some x =>
    obtain ⟨h1, h2⟩ := nameIx_some hf
    simp only [if_neg (fun hl => h x h1 ⟨h2, hl⟩)]
theorem nxt8 {q : Nat} {P : Nat → Prop} (h : ∀ x, x < q → ¬ P x) (hq : ¬ P q) : ∀ x, x < q + 1 → ¬ P x := fun x hx => by
  by_cases e : x = q
  · rw [e]; exact hq
  · exact h x (by omega)
theorem rowI_own9 {w : World} {B : Nat} {a : Option Addr} {c : Nat} {L : List Nat} (ho : w.ownsRow B 3 1 (.slice a L.length c) L.length ((natJ8 L).map (Value.int .i64))) : RowI w a (natJ8 L) := by
  obtain ⟨a2, c2, e, _, _, _, h, _⟩ := listOf_own (Nat.le_refl B) rfl ho
  cases e
  exact h
/-- how far the document's Parse has come -/
def PState (k n : Nat) (t : List UInt8) (j fr : Nat) (acc : List Nat) : Prop := ∃ done, readC k n done = some acc ∧ ((j ≤ t.length ∧ splitC t = done ++ splitC (t.drop fr) ∧ 44 ∉ (t.drop fr).take (j - fr)) ∨ (j = t.length + 1 ∧ splitC t = done))
set_option maxRecDepth 100000 in
set_option maxHeartbeats 16000000 in
theorem rparse8_F (k r : Nat) (t : List UInt8) (w : World) (h1 : 1 ≤ k) (h2 : 2 ≤ r) (h3 : k + r ≤ 16) (ht : t.length ≤ 140737488355328) :
    Calls Tryz.prog 27 #[.int .i64 k, .int .i64 r, .string (strB t)] w fun e w' =>
      ((∃ acc a c, parseC k (2 * (k + r)) t = some acc ∧ e = .returned (.tuple #[.slice a acc.length c, .bool true]) ∧ ListOf w' w.heap.size (.slice a acc.length c) acc) ∨ (parseC k (2 * (k + r)) t = none ∧ e = .returned (.tuple #[.slice none 0 0, .bool false]))) ∧ Below w.heap.size w w' := by
  by_cases hno : t = [110, 111, 110, 101]
  · subst hno
    rw [show strB [110, 111, 110, 101] = (⟨#[110, 111, 110, 101]⟩ : ByteArray) from rfl]
    go_enter Tryz.func27, Tryz.ntmps27
    go_wp2
    go_ret2
    exact ⟨.inl ⟨[], none, 0, rfl, rfl, none, 0, rfl, Nat.le_refl _, Nat.zero_le _, fun _ => rfl, .inl rfl, fun p h => (by cases h)⟩, Below.refl _ _⟩
  have hne : ((strB t).toList == [110, 111, 110, 101]) = false := by rw [strB_list]; exact beq_eq_false_iff_ne.2 hno
  have HNO : Hid (parseC k (2 * (k + r)) t = readC k (2 * (k + r)) (splitC t)) := by show _ = _; rw [parseC, if_neg hno]
  obtain ⟨n, hn⟩ : ∃ n, n = 2 * (k + r) := ⟨_, rfl⟩
  rw [← hn] at HNO ⊢
  have en : (2 : Int) * ((k : Int) + r) = n := by omega
  have hn32 : n ≤ 32 := by omega
  obtain ⟨SB, hSB⟩ : ∃ SB, SB = strB t := ⟨_, rfl⟩
  have HSB : Hid (SB = strB t) := hSB
  have HSZ : Hid (SB.size = t.length) := by show _ = _; rw [hSB, strB_size]
  rw [← hSB] at hne ⊢
  have hsz9 : SB.size ≤ 140737488355328 := by rw [HSZ.out]; exact ht
  clear hn hSB hno
  go_enter Tryz.func27, Tryz.ntmps27
  go_wp2
  clear hne
  have HO0 : Hid ((w.alloc (.cells #[] 3)).ownsRow w.heap.size 3 1 (.slice (some ⟨w.heap.size, 0, none⟩) 0 0) 0 ((natJ8 []).map (Value.int .i64))) := ⟨rfl, .inr ⟨w.heap.size, 0, #[], rfl, Nat.le_refl _, heap_alloc_last _ _, Nat.le_refl _, by decide, rfl, rfl⟩⟩
  go_loopw [10, 8, 9] (fun i v f wr => ∃ (j fr : Nat) (acc : List Nat), j ≤ SB.size + 1 ∧ fr ≤ j ∧ i = .int .i64 j ∧ f = .int .i64 fr ∧ PState k n t j fr acc ∧ (∃ a c, v = .slice a acc.length c) ∧ Below w.heap.size w wr ∧ wr.ownsRow w.heap.size 3 1 v acc.length ((natJ8 acc).map (Value.int .i64))) (fun i _ _ _ => SB.size + 2 - (intOf i).toNat)
  case atStart => exact ⟨0, 0, [], by omega, Nat.le_refl _, rfl, rfl, ⟨[], readC_nil _ _, .inl ⟨Nat.zero_le _, by simp, by simp⟩⟩, ⟨_, _, rfl⟩, (Below.refl _ _).alloc (Nat.le_refl _) _, HO0.out⟩
  case round =>
    obtain ⟨j, fr, acc, hj, hfj, rfl, rfl, hst, ⟨av, cv, rfl⟩, hb, ho⟩ := hrel
    have HB : Hid _ := hb
    have HO : Hid (wr.ownsRow w.heap.size 3 1 (.slice av acc.length cv) acc.length ((natJ8 acc).map (Value.int .i64))) := ho
    have HST : Hid (PState k n t j fr acc) := hst
    clear hb ho hst HO0
    by_cases hend : j = SB.size + 1
    · obtain ⟨done, hd, hh⟩ := HST.out
      have hp : parseC k n t = some acc := by
        rcases hh with ⟨h, _⟩ | ⟨_, h⟩
        · have := HSZ.out; omega
        · rw [HNO.out, h, hd]
      have HP : Hid _ := hp
      clear hp hh hd HST
      go_wp2
      go_ret2
      exact ⟨.inl ⟨acc, av, cv, HP.out, rfl, listOf_own (Nat.le_refl _) rfl HO.out⟩, HB.out⟩
    have hjle : j ≤ SB.size := by omega
    have HPS : Hid (∃ done, readC k n done = some acc ∧ splitC t = done ++ splitC (t.drop fr) ∧ 44 ∉ (t.drop fr).take (j - fr)) := by
      obtain ⟨done, hd, hh⟩ := HST.out
      rcases hh with ⟨_, h, h'⟩ | ⟨h, _⟩
      · exact ⟨done, hd, h, h'⟩
      · have := HSZ.out; omega
    clear hend
    have hu9 : acc.Pairwise (· < ·) ∧ (∀ x ∈ acc, x < n) := by
      obtain ⟨done, hd, _⟩ := HPS.out
      exact ⟨(readC_good done hd).1, (readC_good done hd).2.1⟩
    have HACC : Hid (acc.length ≤ 32) := Nat.le_trans (pair_len hu9.1 hu9.2) hn32
    clear hu9
    obtain ⟨p, hp⟩ : ∃ p, p = (t.drop fr).take (j - fr) := ⟨_, rfl⟩
    have HPX : Hid (SB.extract fr j = strB p) := by
      show _ = _
      rw [hp, HSB.out]
      exact small_ba _ _ (by rw [extr_data, strB_data])
    have hext : fr ≤ j := hfj
    by_cases hjl : j < SB.size
    · have hjt : j < t.length := by rw [← HSZ.out]; exact hjl
      have hch : SB[j] = t[j] := by
        have e := HSB.out
        subst e
        exact strB_get hjl hjt
      by_cases hc : t[j] = 44
      · have hcc : ((SB[j].toNat : Int) != 44) = false := by rw [hch, hc]; decide
        have HYES : Hid (∀ q, q < n → nameB k q = p → (acc = [] ∨ acc.getD (acc.length - 1) 0 < q) → PState k n t (j + 1) (j + 1) (acc ++ [q])) := fun q hq hnm hl => by
          obtain ⟨done, hd, hs, hn44⟩ := HPS.out
          refine ⟨done ++ [p], by rw [readC_snoc, hd]; show stepC k n acc p = _; unfold stepC; rw [nameIx_of (by omega) hn32 hq hnm]; simp only [if_pos hl], .inl ⟨by omega, ?_, by simp⟩⟩
          rw [hs, drop_cut hfj hjt hc hn44, hp]; simp
        have HNONE : Hid ((∀ x, x < n → ¬ (nameB k x = p ∧ (acc = [] ∨ acc.getD (acc.length - 1) 0 < x))) → parseC k n t = none) := fun h => by
          obtain ⟨done, hd, hs, hn44⟩ := HPS.out
          rw [HNO.out, hs, drop_cut hfj hjt hc hn44, ← hp]
          have := readC_dead (k := k) (n := n) (ps := done ++ [p]) (qs := splitC (t.drop (j + 1))) (by rw [readC_snoc, hd]; exact stepC_no h)
          rwa [List.append_assoc] at this
        clear hch hc hp
        obtain ⟨wo, hwo⟩ : ∃ wo, wo = wr := ⟨_, rfl⟩
        subst hwo
        have HAL : Hid (acc.length ≤ 32) := HACC.out
        go_wp2
        go_loopw [12, 8, 11] (fun i v f wr => ∃ q : Nat, q ≤ n ∧ i = .int .i64 q ∧ v = .slice av acc.length cv ∧ f = .bool false ∧ Below wo.heap.size wo wr ∧ ∀ x, x < q → ¬ (nameB k x = p ∧ (acc = [] ∨ acc.getD (acc.length - 1) 0 < x))) (fun i _ _ _ => n - (intOf i).toNat)
        case atStart => exact ⟨0, by omega, rfl, rfl, rfl, Below.refl _ _, fun x hx => absurd hx (Nat.not_lt_zero x)⟩
        case round =>
          obtain ⟨q, hqn, rfl, rfl, rfl, hbq, hnq⟩ := hrel
          have HBQ : Hid _ := hbq
          have HNQ : Hid (∀ x, x < q → ¬ (nameB k x = p ∧ (acc = [] ∨ acc.getD (acc.length - 1) 0 < x))) := hnq
          clear hbq hnq
          by_cases hq : q < n
          · by_cases hnm : nameB k q = p
            · have he : ((strB (nameB k q)).toList == (SB.extract fr j).toList) = true := by rw [HPX.out]; exact strB_eq hnm
              by_cases h0 : acc = []
              · have hlast : acc = [] ∨ acc.getD (acc.length - 1) 0 < q := .inl h0
                have hl0 : acc.length = 0 := by rw [h0]; rfl
                obtain ⟨al, hal⟩ : ∃ al, al = acc.length := ⟨_, rfl⟩
                rw [hl0]
                have HSTP : Hid _ := HYES.out q hq hnm hlast
                clear hnm hlast
                have HOM : Hid (wo.ownsRow w.heap.size 3 1 (.slice av 0 cv) 0 ((natJ8 acc).map (Value.int .i64))) := by have := HO.out; rw [hl0] at this; exact this
                go_upto_region 13 with fail
                refine wp_region_noPanic ?_
                refine wp_region_held_drew (S := fun u => Below wr.heap.size wr u) (by kernel_rfl) ?_ (fun hHeld => ?_)
                · exact (Below.refl _ wr).drew
                refine wpAnyH_take (i := 0) (oi := { dst := some 40, op := Op.move (Operand.tmp 0), type := 3, pos := "ref.go:94", after := #[], guard := none }) (v := ?_) rfl (by kernel_rfl) (by kernel_rfl) (by kernel_rfl) (fun _ _ _ h => h) (Or.inl ⟨by rfl, ?_⟩) hHeld ?_
                rotate_left
                · intro u hSw
                  go_simp
                  try with_reducible rfl
                try simp only [Act.put, List.setIfInBounds_toArray, List.set_cons_zero, List.set_cons_succ]
                refine wpAnyH_take (i := 1) (oi := { dst := some 41, op := Op.move (Operand.tmp 12), type := 3, pos := "ref.go:94", after := #[], guard := none }) (v := ?_) rfl (by kernel_rfl) (by kernel_rfl) (by kernel_rfl) (fun _ _ _ h => h) (Or.inl ⟨by rfl, ?_⟩) hHeld ?_
                rotate_left
                · intro u hSw
                  go_simp
                  try with_reducible rfl
                try simp only [Act.put, List.setIfInBounds_toArray, List.set_cons_zero, List.set_cons_succ]
                refine wpAnyH_take (i := 3) (oi := { dst := some 43, op := Op.move (Operand.tmp 2), type := 9, pos := "ref.go:94", after := #[], guard := none }) (v := ?_) rfl (by kernel_rfl) (by kernel_rfl) (by kernel_rfl) (fun _ _ _ h => h) (Or.inl ⟨by rfl, ?_⟩) hHeld ?_
                rotate_left
                · intro u hSw
                  go_simp
                  try with_reducible rfl
                try simp only [Act.put, List.setIfInBounds_toArray, List.set_cons_zero, List.set_cons_succ]
                refine wpAnyH_take (i := 4) (oi := { dst := some 44, op := Op.move (Operand.tmp 9), type := 3, pos := "ref.go:94", after := #[], guard := none }) (v := ?_) rfl (by kernel_rfl) (by kernel_rfl) (by kernel_rfl) (fun _ _ _ h => h) (Or.inl ⟨by rfl, ?_⟩) hHeld ?_
                rotate_left
                · intro u hSw
                  go_simp
                  try with_reducible rfl
                try simp only [Act.put, List.setIfInBounds_toArray, List.set_cons_zero, List.set_cons_succ]
                refine wpAnyH_take (i := 5) (oi := { dst := some 45, op := Op.move (Operand.tmp 10), type := 3, pos := "ref.go:94", after := #[], guard := none }) (v := ?_) rfl (by kernel_rfl) (by kernel_rfl) (by kernel_rfl) (fun _ _ _ h => h) (Or.inl ⟨by rfl, ?_⟩) hHeld ?_
                rotate_left
                · intro u hSw
                  go_simp
                  try with_reducible rfl
                try simp only [Act.put, List.setIfInBounds_toArray, List.set_cons_zero, List.set_cons_succ]
                refine wpAnyH_take (i := 6) (oi := { dst := some 46, op := Op.slice 9 (Operand.tmp 43) (some (Operand.tmp 44)) (some (Operand.tmp 45)) none, type := 9, pos := "ref.go:94", after := #[{ on := 3, ground := Ground.data }, { on := 4, ground := Ground.data }, { on := 5, ground := Ground.data }], guard := none }) (v := ?_) rfl (by kernel_rfl) (by kernel_rfl) (by kernel_rfl) (fun _ _ _ h => h) (Or.inl ⟨by rfl, ?_⟩) hHeld ?_
                rotate_left
                · intro u hSw
                  go_simp
                  try with_reducible rfl
                try simp only [Act.put, List.setIfInBounds_toArray, List.set_cons_zero, List.set_cons_succ]
                refine wpAnyH_ready (rs := [2]) (by kernel_rfl) (by simp) ?_
                refine AllReadyH.cons (o := { dst := some 42, op := Op.call { callee := Callee.value (Operand.func 40), args := #[Operand.tmp 40, Operand.tmp 41], argTypes := #[3, 3] }, type := 9, pos := "ref.go:94", after := #[{ on := 0, ground := Ground.data }, { on := 1, ground := Ground.data }], guard := none }) rfl (fun K hK => ?_) AllReadyH.nil
                go_simp
                refine Calls.mono (rname_F k q _ (by omega) (by omega)) ?_
                rintro e w6 ⟨rfl, hb6⟩
                have HB6 : Hid (Below wr.heap.size wr w6) := Below.trans ((Below.refl _ wr).drew) hb6
                clear hb6
                go_wp2_with fail
                refine hK.out _ _ ?_ (fun hHeld => ?_)
                · exact HB6.out
                clear hK K
                try simp only [Act.put, List.setIfInBounds_toArray, List.set_cons_zero, List.set_cons_succ]
                refine wpAnyH_take (i := 7) (oi := { dst := some 47, op := Op.binOp BinOp.eql 9 (Operand.tmp 42) (Operand.tmp 46) 9, type := 4, pos := "ref.go:94", after := #[{ on := 2, ground := Ground.data }, { on := 6, ground := Ground.data }], guard := none }) (v := ?_) rfl (by kernel_rfl) (by kernel_rfl) (by kernel_rfl) (fun _ _ _ h => h) (Or.inl ⟨by rfl, ?_⟩) hHeld ?_
                rotate_left
                · intro u hSw
                  go_simp
                  try with_reducible rfl
                try simp only [Act.put, List.setIfInBounds_toArray, List.set_cons_zero, List.set_cons_succ]
                refine wpAnyH_take (i := 8) (oi := { dst := some 48, op := Op.move (Operand.tmp 47), type := 4, pos := "ref.go:94", after := #[{ on := 7, ground := Ground.data }, { on := 2, ground := Ground.chain }], guard := none }) (v := ?_) rfl (by kernel_rfl) (by kernel_rfl) (by kernel_rfl) (fun _ _ _ h => h) (Or.inl ⟨by rfl, ?_⟩) hHeld ?_
                rotate_left
                · intro u hSw
                  go_simp
                  try with_reducible rfl
                try simp only [Act.put, List.setIfInBounds_toArray, List.set_cons_zero, List.set_cons_succ]
                refine wpAnyH_take (i := 9) (oi := { dst := some 49, op := Op.move (Operand.tmp 8), type := 22, pos := "ref.go:94", after := #[{ on := 8, ground := Ground.guard }], guard := some (8, true) }) (v := ?_) rfl (by kernel_rfl) (by kernel_rfl) (by kernel_rfl) (fun _ _ _ h => h) (Or.inl ⟨by rfl, ?_⟩) hHeld ?_
                rotate_left
                · intro u hSw
                  go_simp
                  try with_reducible rfl
                try simp only [Act.put, List.setIfInBounds_toArray, List.set_cons_zero, List.set_cons_succ]
                refine wpAnyH_take (i := 10) (oi := { dst := some 50, op := Op.call { callee := Callee.builtin Builtin.len, args := #[Operand.tmp 49], argTypes := #[22] }, type := 3, pos := "ref.go:94", after := #[{ on := 9, ground := Ground.data }, { on := 8, ground := Ground.guard }], guard := some (8, true) }) (v := ?_) rfl (by kernel_rfl) (by kernel_rfl) (by kernel_rfl) (fun _ _ _ h => h) (Or.inl ⟨by rfl, ?_⟩) hHeld ?_
                rotate_left
                · intro u hSw
                  go_simp
                  try with_reducible rfl
                try simp only [Act.put, List.setIfInBounds_toArray, List.set_cons_zero, List.set_cons_succ]
                refine wpAnyH_take (i := 11) (oi := { dst := some 51, op := Op.binOp BinOp.eql 3 (Operand.tmp 50) (Operand.const (Value.int IntKind.i64 0)) 3, type := 4, pos := "ref.go:94", after := #[{ on := 10, ground := Ground.data }, { on := 8, ground := Ground.guard }], guard := some (8, true) }) (v := ?_) rfl (by kernel_rfl) (by kernel_rfl) (by kernel_rfl) (fun _ _ _ h => h) (Or.inl ⟨by rfl, ?_⟩) hHeld ?_
                rotate_left
                · intro u hSw
                  go_simp
                  try with_reducible rfl
                try simp only [Act.put, List.setIfInBounds_toArray, List.set_cons_zero, List.set_cons_succ]
                refine wpAnyH_take (i := 12) (oi := { dst := some 52, op := Op.move (Operand.tmp 51), type := 4, pos := "ref.go:94", after := #[{ on := 11, ground := Ground.data }, { on := 8, ground := Ground.chain }, { on := 8, ground := Ground.guard }], guard := some (8, true) }) (v := ?_) rfl (by kernel_rfl) (by kernel_rfl) (by kernel_rfl) (fun _ _ _ h => h) (Or.inl ⟨by rfl, ?_⟩) hHeld ?_
                rotate_left
                · intro u hSw
                  go_simp
                  try with_reducible rfl
                try simp only [Act.put, List.setIfInBounds_toArray, List.set_cons_zero, List.set_cons_succ]
                refine wpAnyH_take (i := 13) (oi := { dst := some 53, op := Op.move (Operand.tmp 8), type := 22, pos := "ref.go:94", after := #[{ on := 12, ground := Ground.guard }], guard := some (12, false) }) (v := undef) rfl (by kernel_rfl) (by kernel_rfl) (by kernel_rfl) (fun _ _ _ h => h) (Or.inr ⟨by rfl, rfl⟩) hHeld ?_
                try simp only [Act.put, List.setIfInBounds_toArray, List.set_cons_zero, List.set_cons_succ]
                refine wpAnyH_take (i := 14) (oi := { dst := some 54, op := Op.move (Operand.tmp 8), type := 22, pos := "ref.go:94", after := #[{ on := 12, ground := Ground.guard }], guard := some (12, false) }) (v := undef) rfl (by kernel_rfl) (by kernel_rfl) (by kernel_rfl) (fun _ _ _ h => h) (Or.inr ⟨by rfl, rfl⟩) hHeld ?_
                try simp only [Act.put, List.setIfInBounds_toArray, List.set_cons_zero, List.set_cons_succ]
                refine wpAnyH_take (i := 15) (oi := { dst := some 55, op := Op.call { callee := Callee.builtin Builtin.len, args := #[Operand.tmp 54], argTypes := #[22] }, type := 3, pos := "ref.go:94", after := #[{ on := 14, ground := Ground.data }, { on := 12, ground := Ground.guard }], guard := some (12, false) }) (v := undef) rfl (by kernel_rfl) (by kernel_rfl) (by kernel_rfl) (fun _ _ _ h => h) (Or.inr ⟨by rfl, rfl⟩) hHeld ?_
                try simp only [Act.put, List.setIfInBounds_toArray, List.set_cons_zero, List.set_cons_succ]
                refine wpAnyH_take (i := 16) (oi := { dst := some 56, op := Op.binOp BinOp.sub 3 (Operand.tmp 55) (Operand.const (Value.int IntKind.i64 1)) 3, type := 3, pos := "ref.go:94", after := #[{ on := 15, ground := Ground.data }, { on := 12, ground := Ground.guard }], guard := some (12, false) }) (v := undef) rfl (by kernel_rfl) (by kernel_rfl) (by kernel_rfl) (fun _ _ _ h => h) (Or.inr ⟨by rfl, rfl⟩) hHeld ?_
                try simp only [Act.put, List.setIfInBounds_toArray, List.set_cons_zero, List.set_cons_succ]
                refine wpAnyH_take (i := 17) (oi := { dst := some 57, op := Op.indexAddr 22 (Operand.tmp 53) (Operand.tmp 56), type := 0, pos := "ref.go:94", after := #[{ on := 13, ground := Ground.data }, { on := 16, ground := Ground.data }, { on := 12, ground := Ground.guard }], guard := some (12, false) }) (v := undef) rfl (by kernel_rfl) (by kernel_rfl) (by kernel_rfl) (fun _ _ _ h => h) (Or.inr ⟨by rfl, rfl⟩) hHeld ?_
                try simp only [Act.put, List.setIfInBounds_toArray, List.set_cons_zero, List.set_cons_succ]
                refine wpAnyH_take (i := 18) (oi := { dst := some 58, op := Op.load 3 (Operand.tmp 57), type := 3, pos := "ref.go:94", after := #[{ on := 17, ground := Ground.data }, { on := 12, ground := Ground.guard }], guard := some (12, false) }) (v := undef) rfl (by kernel_rfl) (by kernel_rfl) (by kernel_rfl) (fun _ _ _ h => h) (Or.inr ⟨by rfl, rfl⟩) hHeld ?_
                try simp only [Act.put, List.setIfInBounds_toArray, List.set_cons_zero, List.set_cons_succ]
                refine wpAnyH_take (i := 19) (oi := { dst := some 59, op := Op.move (Operand.tmp 12), type := 3, pos := "ref.go:94", after := #[{ on := 12, ground := Ground.guard }], guard := some (12, false) }) (v := undef) rfl (by kernel_rfl) (by kernel_rfl) (by kernel_rfl) (fun _ _ _ h => h) (Or.inr ⟨by rfl, rfl⟩) hHeld ?_
                try simp only [Act.put, List.setIfInBounds_toArray, List.set_cons_zero, List.set_cons_succ]
                refine wpAnyH_take (i := 20) (oi := { dst := some 60, op := Op.binOp BinOp.lss 3 (Operand.tmp 58) (Operand.tmp 59) 3, type := 4, pos := "ref.go:94", after := #[{ on := 18, ground := Ground.data }, { on := 19, ground := Ground.data }, { on := 12, ground := Ground.guard }], guard := some (12, false) }) (v := undef) rfl (by kernel_rfl) (by kernel_rfl) (by kernel_rfl) (fun _ _ _ h => h) (Or.inr ⟨by rfl, rfl⟩) hHeld ?_
                try simp only [Act.put, List.setIfInBounds_toArray, List.set_cons_zero, List.set_cons_succ]
                refine wpAnyH_take (i := 21) (oi := { dst := some 61, op := Op.pick (Operand.tmp 52) (Operand.const (Value.bool true)) (Operand.tmp 60), type := 4, pos := "ref.go:94", after := #[{ on := 12, ground := Ground.data }, { on := 20, ground := Ground.data }, { on := 8, ground := Ground.guard }], guard := some (8, true) }) (v := ?_) rfl (by kernel_rfl) (by kernel_rfl) (by kernel_rfl) (fun _ _ _ h => h) (Or.inl ⟨by rfl, ?_⟩) hHeld ?_
                rotate_left
                · intro u hSw
                  go_simp
                  try with_reducible rfl
                try simp only [Act.put, List.setIfInBounds_toArray, List.set_cons_zero, List.set_cons_succ]
                refine wpAnyH_take (i := 22) (oi := { dst := some 62, op := Op.pick (Operand.tmp 48) (Operand.tmp 61) (Operand.const (Value.bool false)), type := 4, pos := "ref.go:94", after := #[{ on := 8, ground := Ground.data }, { on := 21, ground := Ground.data }], guard := none }) (v := ?_) rfl (by kernel_rfl) (by kernel_rfl) (by kernel_rfl) (fun _ _ _ h => h) (Or.inl ⟨by rfl, ?_⟩) hHeld ?_
                rotate_left
                · intro u hSw
                  go_simp
                  try with_reducible rfl
                try simp only [Act.put, List.setIfInBounds_toArray, List.set_cons_zero, List.set_cons_succ]
                refine wpAnyH_done (by kernel_rfl) ?_ _
                refine NoPanic.normal ?_
                have HBQ6 : Hid (Below wo.heap.size wo w6) := HBQ.out.trans (HB6.out.mono HBQ.out.size)
                have HBW6 : Hid (Below w.heap.size w w6) := HB.out.trans (HBQ6.out.mono HB.out.size)
                have ho7 := World.ownsRow.alloc (own_below HOM.out HBQ6.out) (.cells #[.int .i64 q] 3)
                obtain ⟨g2, cap2, w7, hrun, ho2, hgr, hor, hlt9⟩ := appendI (b := w6.heap.size) (c := 1) (x := (q : Int)) 22 ho7 (cellAt (heap_alloc_last w6 (.cells #[.int .i64 q] 3)) 0 _ rfl) (by have := HAL.out; omega) (by have := HBW6.out.size; simp; omega)
                have hb7 := below_own (HBW6.out.alloc HBW6.out.size (.cells #[.int .i64 q] 3)) ho7 hgr (by have := HBW6.out.size; simp; omega)
                have hv7 : (natJ8 acc).map (Value.int .i64) ++ [.int .i64 (q : Int)] = (natJ8 (acc ++ [q])).map (Value.int .i64) := by simp [natJ8]
                rw [hv7] at ho2
                have HRun : Hid _ := hrun
                have HO2 : Hid (w7.ownsRow w.heap.size 3 1 (.slice (some ⟨g2, 0, none⟩) (0 + 1) cap2) (0 + 1) ((natJ8 (acc ++ [q])).map (Value.int .i64))) := ho2
                have HB7 : Hid _ := hb7
                clear he ho7 hrun ho2 hgr hor hlt9 hb7 hv7
                go_wp2_with (at_builtin; refine wpList_append_run rfl _ _ 22 rfl _ _ _ _ rfl rfl HRun.out ?_)
                exact ⟨⟨j + 1, j + 1, acc ++ [q], by omega, Nat.le_refl _, by go_num, by go_num, HSTP.out, ⟨some ⟨g2, 0, none⟩, cap2, by rw [List.length_append, hl0]; rfl⟩, HB7.out, by rw [List.length_append, hl0]; exact HO2.out⟩, by simp [intOf]; omega⟩
              · obtain ⟨m, hm⟩ : ∃ m, acc.length = m + 1 := ⟨acc.length - 1, by have := List.length_pos_iff.2 h0; omega⟩
                obtain ⟨y, hy⟩ : ∃ y, y = acc.getD m 0 := ⟨_, rfl⟩
                have HM : Hid (acc.length = m + 1) := hm
                have hm32 : m ≤ 31 := by have := HACC.out; omega
                have hmlt : (m : Int) < (m : Int) + 1 := by omega
                have hwm : IntKind.i64.wrap (m : Int) = (m : Int) := wrap_nat8 (by omega)
                have HY : Hid (y = acc.getD m 0) := hy
                obtain ⟨b, off, rfl, hbb, hc⟩ := rowI_cell (rowI_below (rowI_own9 HO.out) HBQ.out) (show m < (natJ8 acc).length by rw [natJ8_len]; omega)
                have c4 := hc m (by rw [natJ8_len]; omega)
                rw [show (natJ8 acc).getD m 0 = (y : Int) by rw [hy]; simp [natJ8, List.getD, show m < acc.length by omega]] at c4
                rw [hm]
                clear hc hm hy
                by_cases hlt9 : y < q
                · have hlast : acc = [] ∨ acc.getD (acc.length - 1) 0 < q := .inr (by rw [HM.out, Nat.add_sub_cancel, ← HY.out]; exact hlt9)
                  clear h0
                  have HSTP : Hid _ := HYES.out q hq hnm hlast
                  clear hnm hlast
                  have HOM : Hid (wo.ownsRow w.heap.size 3 1 (.slice (some ⟨b, off, none⟩) (m + 1) cv) (m + 1) ((natJ8 acc).map (Value.int .i64))) := by have := HO.out; rw [HM.out] at this; exact this
                  go_upto_region 13 with fail
                  refine wp_region_noPanic ?_
                  refine wp_region_held_drew (S := fun u => Below wr.heap.size wr u) (by kernel_rfl) ?_ (fun hHeld => ?_)
                  · exact (Below.refl _ wr).drew
                  refine wpAnyH_take (i := 0) (oi := { dst := some 40, op := Op.move (Operand.tmp 0), type := 3, pos := "ref.go:94", after := #[], guard := none }) (v := ?_) rfl (by kernel_rfl) (by kernel_rfl) (by kernel_rfl) (fun _ _ _ h => h) (Or.inl ⟨by rfl, ?_⟩) hHeld ?_
                  rotate_left
                  · intro u hSw
                    go_simp
                    try with_reducible rfl
                  try simp only [Act.put, List.setIfInBounds_toArray, List.set_cons_zero, List.set_cons_succ]
                  refine wpAnyH_take (i := 1) (oi := { dst := some 41, op := Op.move (Operand.tmp 12), type := 3, pos := "ref.go:94", after := #[], guard := none }) (v := ?_) rfl (by kernel_rfl) (by kernel_rfl) (by kernel_rfl) (fun _ _ _ h => h) (Or.inl ⟨by rfl, ?_⟩) hHeld ?_
                  rotate_left
                  · intro u hSw
                    go_simp
                    try with_reducible rfl
                  try simp only [Act.put, List.setIfInBounds_toArray, List.set_cons_zero, List.set_cons_succ]
                  refine wpAnyH_take (i := 3) (oi := { dst := some 43, op := Op.move (Operand.tmp 2), type := 9, pos := "ref.go:94", after := #[], guard := none }) (v := ?_) rfl (by kernel_rfl) (by kernel_rfl) (by kernel_rfl) (fun _ _ _ h => h) (Or.inl ⟨by rfl, ?_⟩) hHeld ?_
                  rotate_left
                  · intro u hSw
                    go_simp
                    try with_reducible rfl
                  try simp only [Act.put, List.setIfInBounds_toArray, List.set_cons_zero, List.set_cons_succ]
                  refine wpAnyH_take (i := 4) (oi := { dst := some 44, op := Op.move (Operand.tmp 9), type := 3, pos := "ref.go:94", after := #[], guard := none }) (v := ?_) rfl (by kernel_rfl) (by kernel_rfl) (by kernel_rfl) (fun _ _ _ h => h) (Or.inl ⟨by rfl, ?_⟩) hHeld ?_
                  rotate_left
                  · intro u hSw
                    go_simp
                    try with_reducible rfl
                  try simp only [Act.put, List.setIfInBounds_toArray, List.set_cons_zero, List.set_cons_succ]
                  refine wpAnyH_take (i := 5) (oi := { dst := some 45, op := Op.move (Operand.tmp 10), type := 3, pos := "ref.go:94", after := #[], guard := none }) (v := ?_) rfl (by kernel_rfl) (by kernel_rfl) (by kernel_rfl) (fun _ _ _ h => h) (Or.inl ⟨by rfl, ?_⟩) hHeld ?_
                  rotate_left
                  · intro u hSw
                    go_simp
                    try with_reducible rfl
                  try simp only [Act.put, List.setIfInBounds_toArray, List.set_cons_zero, List.set_cons_succ]
                  refine wpAnyH_take (i := 6) (oi := { dst := some 46, op := Op.slice 9 (Operand.tmp 43) (some (Operand.tmp 44)) (some (Operand.tmp 45)) none, type := 9, pos := "ref.go:94", after := #[{ on := 3, ground := Ground.data }, { on := 4, ground := Ground.data }, { on := 5, ground := Ground.data }], guard := none }) (v := ?_) rfl (by kernel_rfl) (by kernel_rfl) (by kernel_rfl) (fun _ _ _ h => h) (Or.inl ⟨by rfl, ?_⟩) hHeld ?_
                  rotate_left
                  · intro u hSw
                    go_simp
                    try with_reducible rfl
                  try simp only [Act.put, List.setIfInBounds_toArray, List.set_cons_zero, List.set_cons_succ]
                  refine wpAnyH_ready (rs := [2]) (by kernel_rfl) (by simp) ?_
                  refine AllReadyH.cons (o := { dst := some 42, op := Op.call { callee := Callee.value (Operand.func 40), args := #[Operand.tmp 40, Operand.tmp 41], argTypes := #[3, 3] }, type := 9, pos := "ref.go:94", after := #[{ on := 0, ground := Ground.data }, { on := 1, ground := Ground.data }], guard := none }) rfl (fun K hK => ?_) AllReadyH.nil
                  go_simp
                  refine Calls.mono (rname_F k q _ (by omega) (by omega)) ?_
                  rintro e w6 ⟨rfl, hb6⟩
                  have HB6 : Hid (Below wr.heap.size wr w6) := Below.trans ((Below.refl _ wr).drew) hb6
                  clear hb6
                  go_wp2_with fail
                  refine hK.out _ _ ?_ (fun hHeld => ?_)
                  · exact HB6.out
                  clear hK K
                  try simp only [Act.put, List.setIfInBounds_toArray, List.set_cons_zero, List.set_cons_succ]
                  refine wpAnyH_take (i := 7) (oi := { dst := some 47, op := Op.binOp BinOp.eql 9 (Operand.tmp 42) (Operand.tmp 46) 9, type := 4, pos := "ref.go:94", after := #[{ on := 2, ground := Ground.data }, { on := 6, ground := Ground.data }], guard := none }) (v := ?_) rfl (by kernel_rfl) (by kernel_rfl) (by kernel_rfl) (fun _ _ _ h => h) (Or.inl ⟨by rfl, ?_⟩) hHeld ?_
                  rotate_left
                  · intro u hSw
                    go_simp
                    try with_reducible rfl
                  try simp only [Act.put, List.setIfInBounds_toArray, List.set_cons_zero, List.set_cons_succ]
                  refine wpAnyH_take (i := 8) (oi := { dst := some 48, op := Op.move (Operand.tmp 47), type := 4, pos := "ref.go:94", after := #[{ on := 7, ground := Ground.data }, { on := 2, ground := Ground.chain }], guard := none }) (v := ?_) rfl (by kernel_rfl) (by kernel_rfl) (by kernel_rfl) (fun _ _ _ h => h) (Or.inl ⟨by rfl, ?_⟩) hHeld ?_
                  rotate_left
                  · intro u hSw
                    go_simp
                    try with_reducible rfl
                  try simp only [Act.put, List.setIfInBounds_toArray, List.set_cons_zero, List.set_cons_succ]
                  refine wpAnyH_take (i := 9) (oi := { dst := some 49, op := Op.move (Operand.tmp 8), type := 22, pos := "ref.go:94", after := #[{ on := 8, ground := Ground.guard }], guard := some (8, true) }) (v := ?_) rfl (by kernel_rfl) (by kernel_rfl) (by kernel_rfl) (fun _ _ _ h => h) (Or.inl ⟨by rfl, ?_⟩) hHeld ?_
                  rotate_left
                  · intro u hSw
                    go_simp
                    try with_reducible rfl
                  try simp only [Act.put, List.setIfInBounds_toArray, List.set_cons_zero, List.set_cons_succ]
                  refine wpAnyH_take (i := 10) (oi := { dst := some 50, op := Op.call { callee := Callee.builtin Builtin.len, args := #[Operand.tmp 49], argTypes := #[22] }, type := 3, pos := "ref.go:94", after := #[{ on := 9, ground := Ground.data }, { on := 8, ground := Ground.guard }], guard := some (8, true) }) (v := ?_) rfl (by kernel_rfl) (by kernel_rfl) (by kernel_rfl) (fun _ _ _ h => h) (Or.inl ⟨by rfl, ?_⟩) hHeld ?_
                  rotate_left
                  · intro u hSw
                    go_simp
                    try with_reducible rfl
                  try simp only [Act.put, List.setIfInBounds_toArray, List.set_cons_zero, List.set_cons_succ]
                  refine wpAnyH_take (i := 11) (oi := { dst := some 51, op := Op.binOp BinOp.eql 3 (Operand.tmp 50) (Operand.const (Value.int IntKind.i64 0)) 3, type := 4, pos := "ref.go:94", after := #[{ on := 10, ground := Ground.data }, { on := 8, ground := Ground.guard }], guard := some (8, true) }) (v := ?_) rfl (by kernel_rfl) (by kernel_rfl) (by kernel_rfl) (fun _ _ _ h => h) (Or.inl ⟨by rfl, ?_⟩) hHeld ?_
                  rotate_left
                  · intro u hSw
                    go_simp
                    try with_reducible rfl
                  try simp only [Act.put, List.setIfInBounds_toArray, List.set_cons_zero, List.set_cons_succ]
                  refine wpAnyH_take (i := 12) (oi := { dst := some 52, op := Op.move (Operand.tmp 51), type := 4, pos := "ref.go:94", after := #[{ on := 11, ground := Ground.data }, { on := 8, ground := Ground.chain }, { on := 8, ground := Ground.guard }], guard := some (8, true) }) (v := ?_) rfl (by kernel_rfl) (by kernel_rfl) (by kernel_rfl) (fun _ _ _ h => h) (Or.inl ⟨by rfl, ?_⟩) hHeld ?_
                  rotate_left
                  · intro u hSw
                    go_simp
                    try with_reducible rfl
                  try simp only [Act.put, List.setIfInBounds_toArray, List.set_cons_zero, List.set_cons_succ]
                  refine wpAnyH_take (i := 13) (oi := { dst := some 53, op := Op.move (Operand.tmp 8), type := 22, pos := "ref.go:94", after := #[{ on := 12, ground := Ground.guard }], guard := some (12, false) }) (v := ?_) rfl (by kernel_rfl) (by kernel_rfl) (by kernel_rfl) (fun _ _ _ h => h) (Or.inl ⟨by rfl, ?_⟩) hHeld ?_
                  rotate_left
                  · intro u hSw
                    go_simp
                    try with_reducible rfl
                  try simp only [Act.put, List.setIfInBounds_toArray, List.set_cons_zero, List.set_cons_succ]
                  refine wpAnyH_take (i := 14) (oi := { dst := some 54, op := Op.move (Operand.tmp 8), type := 22, pos := "ref.go:94", after := #[{ on := 12, ground := Ground.guard }], guard := some (12, false) }) (v := ?_) rfl (by kernel_rfl) (by kernel_rfl) (by kernel_rfl) (fun _ _ _ h => h) (Or.inl ⟨by rfl, ?_⟩) hHeld ?_
                  rotate_left
                  · intro u hSw
                    go_simp
                    try with_reducible rfl
                  try simp only [Act.put, List.setIfInBounds_toArray, List.set_cons_zero, List.set_cons_succ]
                  refine wpAnyH_take (i := 15) (oi := { dst := some 55, op := Op.call { callee := Callee.builtin Builtin.len, args := #[Operand.tmp 54], argTypes := #[22] }, type := 3, pos := "ref.go:94", after := #[{ on := 14, ground := Ground.data }, { on := 12, ground := Ground.guard }], guard := some (12, false) }) (v := ?_) rfl (by kernel_rfl) (by kernel_rfl) (by kernel_rfl) (fun _ _ _ h => h) (Or.inl ⟨by rfl, ?_⟩) hHeld ?_
                  rotate_left
                  · intro u hSw
                    go_simp
                    try with_reducible rfl
                  try simp only [Act.put, List.setIfInBounds_toArray, List.set_cons_zero, List.set_cons_succ]
                  refine wpAnyH_take (i := 16) (oi := { dst := some 56, op := Op.binOp BinOp.sub 3 (Operand.tmp 55) (Operand.const (Value.int IntKind.i64 1)) 3, type := 3, pos := "ref.go:94", after := #[{ on := 15, ground := Ground.data }, { on := 12, ground := Ground.guard }], guard := some (12, false) }) (v := ?_) rfl (by kernel_rfl) (by kernel_rfl) (by kernel_rfl) (fun _ _ _ h => h) (Or.inl ⟨by rfl, ?_⟩) hHeld ?_
                  rotate_left
                  · intro u hSw
                    go_simp
                    try with_reducible rfl
                  try simp only [Act.put, List.setIfInBounds_toArray, List.set_cons_zero, List.set_cons_succ]
                  refine wpAnyH_take (i := 17) (oi := { dst := some 57, op := Op.indexAddr 22 (Operand.tmp 53) (Operand.tmp 56), type := 0, pos := "ref.go:94", after := #[{ on := 13, ground := Ground.data }, { on := 16, ground := Ground.data }, { on := 12, ground := Ground.guard }], guard := some (12, false) }) (v := ?_) rfl (by kernel_rfl) (by kernel_rfl) (by kernel_rfl) (fun _ _ _ h => h) (Or.inl ⟨by rfl, ?_⟩) hHeld ?_
                  rotate_left
                  · intro u hSw
                    go_simp
                    try with_reducible rfl
                  try simp only [Act.put, List.setIfInBounds_toArray, List.set_cons_zero, List.set_cons_succ]
                  refine wpAnyH_take (i := 18) (oi := { dst := some 58, op := Op.load 3 (Operand.tmp 57), type := 3, pos := "ref.go:94", after := #[{ on := 17, ground := Ground.data }, { on := 12, ground := Ground.guard }], guard := some (12, false) }) (v := ?_) rfl (by kernel_rfl) (by kernel_rfl) (by kernel_rfl) (fun _ _ _ h => h) (Or.inl ⟨by rfl, ?_⟩) hHeld ?_
                  rotate_left
                  · intro u hSw
                    have c18 := cell_later hSw c4
                    go_simp
                    try with_reducible rfl
                  try simp only [Act.put, List.setIfInBounds_toArray, List.set_cons_zero, List.set_cons_succ]
                  refine wpAnyH_take (i := 19) (oi := { dst := some 59, op := Op.move (Operand.tmp 12), type := 3, pos := "ref.go:94", after := #[{ on := 12, ground := Ground.guard }], guard := some (12, false) }) (v := ?_) rfl (by kernel_rfl) (by kernel_rfl) (by kernel_rfl) (fun _ _ _ h => h) (Or.inl ⟨by rfl, ?_⟩) hHeld ?_
                  rotate_left
                  · intro u hSw
                    go_simp
                    try with_reducible rfl
                  try simp only [Act.put, List.setIfInBounds_toArray, List.set_cons_zero, List.set_cons_succ]
                  refine wpAnyH_take (i := 20) (oi := { dst := some 60, op := Op.binOp BinOp.lss 3 (Operand.tmp 58) (Operand.tmp 59) 3, type := 4, pos := "ref.go:94", after := #[{ on := 18, ground := Ground.data }, { on := 19, ground := Ground.data }, { on := 12, ground := Ground.guard }], guard := some (12, false) }) (v := ?_) rfl (by kernel_rfl) (by kernel_rfl) (by kernel_rfl) (fun _ _ _ h => h) (Or.inl ⟨by rfl, ?_⟩) hHeld ?_
                  rotate_left
                  · intro u hSw
                    go_simp
                    try with_reducible rfl
                  try simp only [Act.put, List.setIfInBounds_toArray, List.set_cons_zero, List.set_cons_succ]
                  refine wpAnyH_take (i := 21) (oi := { dst := some 61, op := Op.pick (Operand.tmp 52) (Operand.const (Value.bool true)) (Operand.tmp 60), type := 4, pos := "ref.go:94", after := #[{ on := 12, ground := Ground.data }, { on := 20, ground := Ground.data }, { on := 8, ground := Ground.guard }], guard := some (8, true) }) (v := ?_) rfl (by kernel_rfl) (by kernel_rfl) (by kernel_rfl) (fun _ _ _ h => h) (Or.inl ⟨by rfl, ?_⟩) hHeld ?_
                  rotate_left
                  · intro u hSw
                    go_simp
                    try with_reducible rfl
                  try simp only [Act.put, List.setIfInBounds_toArray, List.set_cons_zero, List.set_cons_succ]
                  refine wpAnyH_take (i := 22) (oi := { dst := some 62, op := Op.pick (Operand.tmp 48) (Operand.tmp 61) (Operand.const (Value.bool false)), type := 4, pos := "ref.go:94", after := #[{ on := 8, ground := Ground.data }, { on := 21, ground := Ground.data }], guard := none }) (v := ?_) rfl (by kernel_rfl) (by kernel_rfl) (by kernel_rfl) (fun _ _ _ h => h) (Or.inl ⟨by rfl, ?_⟩) hHeld ?_
                  rotate_left
                  · intro u hSw
                    go_simp
                    try with_reducible rfl
                  try simp only [Act.put, List.setIfInBounds_toArray, List.set_cons_zero, List.set_cons_succ]
                  refine wpAnyH_done (by kernel_rfl) ?_ _
                  refine NoPanic.normal ?_
                  have HBQ6 : Hid (Below wo.heap.size wo w6) := HBQ.out.trans (HB6.out.mono HBQ.out.size)
                  have HBW6 : Hid (Below w.heap.size w w6) := HB.out.trans (HBQ6.out.mono HB.out.size)
                  have ho7 := World.ownsRow.alloc (own_below HOM.out HBQ6.out) (.cells #[.int .i64 q] 3)
                  obtain ⟨g2, cap2, w7, hrun, ho2, hgr, hor, hlt9⟩ := appendI (b := w6.heap.size) (c := 1) (x := (q : Int)) 22 ho7 (cellAt (heap_alloc_last w6 (.cells #[.int .i64 q] 3)) 0 _ rfl) (by have := HAL.out; omega) (by have := HBW6.out.size; simp; omega)
                  have hb7 := below_own (HBW6.out.alloc HBW6.out.size (.cells #[.int .i64 q] 3)) ho7 hgr (by have := HBW6.out.size; simp; omega)
                  have hv7 : (natJ8 acc).map (Value.int .i64) ++ [.int .i64 (q : Int)] = (natJ8 (acc ++ [q])).map (Value.int .i64) := by simp [natJ8]
                  rw [hv7] at ho2
                  have HRun : Hid _ := hrun
                  have HO2 : Hid (w7.ownsRow w.heap.size 3 1 (.slice (some ⟨g2, 0, none⟩) (m + 1 + 1) cap2) (m + 1 + 1) ((natJ8 (acc ++ [q])).map (Value.int .i64))) := ho2
                  have HB7 : Hid _ := hb7
                  clear he ho7 hrun ho2 hgr hor hlt9 hb7 hv7
                  go_wp2_with (at_builtin; refine wpList_append_run rfl _ _ 22 rfl _ _ _ _ rfl rfl HRun.out ?_)
                  exact ⟨⟨j + 1, j + 1, acc ++ [q], by omega, Nat.le_refl _, by go_num, by go_num, HSTP.out, ⟨some ⟨g2, 0, none⟩, cap2, by rw [List.length_append, HM.out]; rfl⟩, HB7.out, by rw [List.length_append, HM.out]; exact HO2.out⟩, by simp [intOf]; omega⟩
                · have HLAST : Hid (¬ (acc = [] ∨ acc.getD (acc.length - 1) 0 < q)) := fun h => h.elim h0 (fun h => hlt9 (by rw [HM.out, Nat.add_sub_cancel] at h; rw [HY.out]; exact h))
                  clear hnm
                  go_upto_region 13 with fail
                  refine wp_region_noPanic ?_
                  refine wp_region_held_drew (S := fun u => Below wr.heap.size wr u) (by kernel_rfl) ?_ (fun hHeld => ?_)
                  · exact (Below.refl _ wr).drew
                  refine wpAnyH_take (i := 0) (oi := { dst := some 40, op := Op.move (Operand.tmp 0), type := 3, pos := "ref.go:94", after := #[], guard := none }) (v := ?_) rfl (by kernel_rfl) (by kernel_rfl) (by kernel_rfl) (fun _ _ _ h => h) (Or.inl ⟨by rfl, ?_⟩) hHeld ?_
                  rotate_left
                  · intro u hSw
                    go_simp
                    try with_reducible rfl
                  try simp only [Act.put, List.setIfInBounds_toArray, List.set_cons_zero, List.set_cons_succ]
                  refine wpAnyH_take (i := 1) (oi := { dst := some 41, op := Op.move (Operand.tmp 12), type := 3, pos := "ref.go:94", after := #[], guard := none }) (v := ?_) rfl (by kernel_rfl) (by kernel_rfl) (by kernel_rfl) (fun _ _ _ h => h) (Or.inl ⟨by rfl, ?_⟩) hHeld ?_
                  rotate_left
                  · intro u hSw
                    go_simp
                    try with_reducible rfl
                  try simp only [Act.put, List.setIfInBounds_toArray, List.set_cons_zero, List.set_cons_succ]
                  refine wpAnyH_take (i := 3) (oi := { dst := some 43, op := Op.move (Operand.tmp 2), type := 9, pos := "ref.go:94", after := #[], guard := none }) (v := ?_) rfl (by kernel_rfl) (by kernel_rfl) (by kernel_rfl) (fun _ _ _ h => h) (Or.inl ⟨by rfl, ?_⟩) hHeld ?_
                  rotate_left
                  · intro u hSw
                    go_simp
                    try with_reducible rfl
                  try simp only [Act.put, List.setIfInBounds_toArray, List.set_cons_zero, List.set_cons_succ]
                  refine wpAnyH_take (i := 4) (oi := { dst := some 44, op := Op.move (Operand.tmp 9), type := 3, pos := "ref.go:94", after := #[], guard := none }) (v := ?_) rfl (by kernel_rfl) (by kernel_rfl) (by kernel_rfl) (fun _ _ _ h => h) (Or.inl ⟨by rfl, ?_⟩) hHeld ?_
                  rotate_left
                  · intro u hSw
                    go_simp
                    try with_reducible rfl
                  try simp only [Act.put, List.setIfInBounds_toArray, List.set_cons_zero, List.set_cons_succ]
                  refine wpAnyH_take (i := 5) (oi := { dst := some 45, op := Op.move (Operand.tmp 10), type := 3, pos := "ref.go:94", after := #[], guard := none }) (v := ?_) rfl (by kernel_rfl) (by kernel_rfl) (by kernel_rfl) (fun _ _ _ h => h) (Or.inl ⟨by rfl, ?_⟩) hHeld ?_
                  rotate_left
                  · intro u hSw
                    go_simp
                    try with_reducible rfl
                  try simp only [Act.put, List.setIfInBounds_toArray, List.set_cons_zero, List.set_cons_succ]
                  refine wpAnyH_take (i := 6) (oi := { dst := some 46, op := Op.slice 9 (Operand.tmp 43) (some (Operand.tmp 44)) (some (Operand.tmp 45)) none, type := 9, pos := "ref.go:94", after := #[{ on := 3, ground := Ground.data }, { on := 4, ground := Ground.data }, { on := 5, ground := Ground.data }], guard := none }) (v := ?_) rfl (by kernel_rfl) (by kernel_rfl) (by kernel_rfl) (fun _ _ _ h => h) (Or.inl ⟨by rfl, ?_⟩) hHeld ?_
                  rotate_left
                  · intro u hSw
                    go_simp
                    try with_reducible rfl
                  try simp only [Act.put, List.setIfInBounds_toArray, List.set_cons_zero, List.set_cons_succ]
                  refine wpAnyH_ready (rs := [2]) (by kernel_rfl) (by simp) ?_
                  refine AllReadyH.cons (o := { dst := some 42, op := Op.call { callee := Callee.value (Operand.func 40), args := #[Operand.tmp 40, Operand.tmp 41], argTypes := #[3, 3] }, type := 9, pos := "ref.go:94", after := #[{ on := 0, ground := Ground.data }, { on := 1, ground := Ground.data }], guard := none }) rfl (fun K hK => ?_) AllReadyH.nil
                  go_simp
                  refine Calls.mono (rname_F k q _ (by omega) (by omega)) ?_
                  rintro e w6 ⟨rfl, hb6⟩
                  have HB6 : Hid (Below wr.heap.size wr w6) := Below.trans ((Below.refl _ wr).drew) hb6
                  clear hb6
                  go_wp2_with fail
                  refine hK.out _ _ ?_ (fun hHeld => ?_)
                  · exact HB6.out
                  clear hK K
                  try simp only [Act.put, List.setIfInBounds_toArray, List.set_cons_zero, List.set_cons_succ]
                  refine wpAnyH_take (i := 7) (oi := { dst := some 47, op := Op.binOp BinOp.eql 9 (Operand.tmp 42) (Operand.tmp 46) 9, type := 4, pos := "ref.go:94", after := #[{ on := 2, ground := Ground.data }, { on := 6, ground := Ground.data }], guard := none }) (v := ?_) rfl (by kernel_rfl) (by kernel_rfl) (by kernel_rfl) (fun _ _ _ h => h) (Or.inl ⟨by rfl, ?_⟩) hHeld ?_
                  rotate_left
                  · intro u hSw
                    go_simp
                    try with_reducible rfl
                  try simp only [Act.put, List.setIfInBounds_toArray, List.set_cons_zero, List.set_cons_succ]
                  refine wpAnyH_take (i := 8) (oi := { dst := some 48, op := Op.move (Operand.tmp 47), type := 4, pos := "ref.go:94", after := #[{ on := 7, ground := Ground.data }, { on := 2, ground := Ground.chain }], guard := none }) (v := ?_) rfl (by kernel_rfl) (by kernel_rfl) (by kernel_rfl) (fun _ _ _ h => h) (Or.inl ⟨by rfl, ?_⟩) hHeld ?_
                  rotate_left
                  · intro u hSw
                    go_simp
                    try with_reducible rfl
                  try simp only [Act.put, List.setIfInBounds_toArray, List.set_cons_zero, List.set_cons_succ]
                  refine wpAnyH_take (i := 9) (oi := { dst := some 49, op := Op.move (Operand.tmp 8), type := 22, pos := "ref.go:94", after := #[{ on := 8, ground := Ground.guard }], guard := some (8, true) }) (v := ?_) rfl (by kernel_rfl) (by kernel_rfl) (by kernel_rfl) (fun _ _ _ h => h) (Or.inl ⟨by rfl, ?_⟩) hHeld ?_
                  rotate_left
                  · intro u hSw
                    go_simp
                    try with_reducible rfl
                  try simp only [Act.put, List.setIfInBounds_toArray, List.set_cons_zero, List.set_cons_succ]
                  refine wpAnyH_take (i := 10) (oi := { dst := some 50, op := Op.call { callee := Callee.builtin Builtin.len, args := #[Operand.tmp 49], argTypes := #[22] }, type := 3, pos := "ref.go:94", after := #[{ on := 9, ground := Ground.data }, { on := 8, ground := Ground.guard }], guard := some (8, true) }) (v := ?_) rfl (by kernel_rfl) (by kernel_rfl) (by kernel_rfl) (fun _ _ _ h => h) (Or.inl ⟨by rfl, ?_⟩) hHeld ?_
                  rotate_left
                  · intro u hSw
                    go_simp
                    try with_reducible rfl
                  try simp only [Act.put, List.setIfInBounds_toArray, List.set_cons_zero, List.set_cons_succ]
                  refine wpAnyH_take (i := 11) (oi := { dst := some 51, op := Op.binOp BinOp.eql 3 (Operand.tmp 50) (Operand.const (Value.int IntKind.i64 0)) 3, type := 4, pos := "ref.go:94", after := #[{ on := 10, ground := Ground.data }, { on := 8, ground := Ground.guard }], guard := some (8, true) }) (v := ?_) rfl (by kernel_rfl) (by kernel_rfl) (by kernel_rfl) (fun _ _ _ h => h) (Or.inl ⟨by rfl, ?_⟩) hHeld ?_
                  rotate_left
                  · intro u hSw
                    go_simp
                    try with_reducible rfl
                  try simp only [Act.put, List.setIfInBounds_toArray, List.set_cons_zero, List.set_cons_succ]
                  refine wpAnyH_take (i := 12) (oi := { dst := some 52, op := Op.move (Operand.tmp 51), type := 4, pos := "ref.go:94", after := #[{ on := 11, ground := Ground.data }, { on := 8, ground := Ground.chain }, { on := 8, ground := Ground.guard }], guard := some (8, true) }) (v := ?_) rfl (by kernel_rfl) (by kernel_rfl) (by kernel_rfl) (fun _ _ _ h => h) (Or.inl ⟨by rfl, ?_⟩) hHeld ?_
                  rotate_left
                  · intro u hSw
                    go_simp
                    try with_reducible rfl
                  try simp only [Act.put, List.setIfInBounds_toArray, List.set_cons_zero, List.set_cons_succ]
                  refine wpAnyH_take (i := 13) (oi := { dst := some 53, op := Op.move (Operand.tmp 8), type := 22, pos := "ref.go:94", after := #[{ on := 12, ground := Ground.guard }], guard := some (12, false) }) (v := ?_) rfl (by kernel_rfl) (by kernel_rfl) (by kernel_rfl) (fun _ _ _ h => h) (Or.inl ⟨by rfl, ?_⟩) hHeld ?_
                  rotate_left
                  · intro u hSw
                    go_simp
                    try with_reducible rfl
                  try simp only [Act.put, List.setIfInBounds_toArray, List.set_cons_zero, List.set_cons_succ]
                  refine wpAnyH_take (i := 14) (oi := { dst := some 54, op := Op.move (Operand.tmp 8), type := 22, pos := "ref.go:94", after := #[{ on := 12, ground := Ground.guard }], guard := some (12, false) }) (v := ?_) rfl (by kernel_rfl) (by kernel_rfl) (by kernel_rfl) (fun _ _ _ h => h) (Or.inl ⟨by rfl, ?_⟩) hHeld ?_
                  rotate_left
                  · intro u hSw
                    go_simp
                    try with_reducible rfl
                  try simp only [Act.put, List.setIfInBounds_toArray, List.set_cons_zero, List.set_cons_succ]
                  refine wpAnyH_take (i := 15) (oi := { dst := some 55, op := Op.call { callee := Callee.builtin Builtin.len, args := #[Operand.tmp 54], argTypes := #[22] }, type := 3, pos := "ref.go:94", after := #[{ on := 14, ground := Ground.data }, { on := 12, ground := Ground.guard }], guard := some (12, false) }) (v := ?_) rfl (by kernel_rfl) (by kernel_rfl) (by kernel_rfl) (fun _ _ _ h => h) (Or.inl ⟨by rfl, ?_⟩) hHeld ?_
                  rotate_left
                  · intro u hSw
                    go_simp
                    try with_reducible rfl
                  try simp only [Act.put, List.setIfInBounds_toArray, List.set_cons_zero, List.set_cons_succ]
                  refine wpAnyH_take (i := 16) (oi := { dst := some 56, op := Op.binOp BinOp.sub 3 (Operand.tmp 55) (Operand.const (Value.int IntKind.i64 1)) 3, type := 3, pos := "ref.go:94", after := #[{ on := 15, ground := Ground.data }, { on := 12, ground := Ground.guard }], guard := some (12, false) }) (v := ?_) rfl (by kernel_rfl) (by kernel_rfl) (by kernel_rfl) (fun _ _ _ h => h) (Or.inl ⟨by rfl, ?_⟩) hHeld ?_
                  rotate_left
                  · intro u hSw
                    go_simp
                    try with_reducible rfl
                  try simp only [Act.put, List.setIfInBounds_toArray, List.set_cons_zero, List.set_cons_succ]
                  refine wpAnyH_take (i := 17) (oi := { dst := some 57, op := Op.indexAddr 22 (Operand.tmp 53) (Operand.tmp 56), type := 0, pos := "ref.go:94", after := #[{ on := 13, ground := Ground.data }, { on := 16, ground := Ground.data }, { on := 12, ground := Ground.guard }], guard := some (12, false) }) (v := ?_) rfl (by kernel_rfl) (by kernel_rfl) (by kernel_rfl) (fun _ _ _ h => h) (Or.inl ⟨by rfl, ?_⟩) hHeld ?_
                  rotate_left
                  · intro u hSw
                    go_simp
                    try with_reducible rfl
                  try simp only [Act.put, List.setIfInBounds_toArray, List.set_cons_zero, List.set_cons_succ]
                  refine wpAnyH_take (i := 18) (oi := { dst := some 58, op := Op.load 3 (Operand.tmp 57), type := 3, pos := "ref.go:94", after := #[{ on := 17, ground := Ground.data }, { on := 12, ground := Ground.guard }], guard := some (12, false) }) (v := ?_) rfl (by kernel_rfl) (by kernel_rfl) (by kernel_rfl) (fun _ _ _ h => h) (Or.inl ⟨by rfl, ?_⟩) hHeld ?_
                  rotate_left
                  · intro u hSw
                    have c18 := cell_later hSw c4
                    go_simp
                    try with_reducible rfl
                  try simp only [Act.put, List.setIfInBounds_toArray, List.set_cons_zero, List.set_cons_succ]
                  refine wpAnyH_take (i := 19) (oi := { dst := some 59, op := Op.move (Operand.tmp 12), type := 3, pos := "ref.go:94", after := #[{ on := 12, ground := Ground.guard }], guard := some (12, false) }) (v := ?_) rfl (by kernel_rfl) (by kernel_rfl) (by kernel_rfl) (fun _ _ _ h => h) (Or.inl ⟨by rfl, ?_⟩) hHeld ?_
                  rotate_left
                  · intro u hSw
                    go_simp
                    try with_reducible rfl
                  try simp only [Act.put, List.setIfInBounds_toArray, List.set_cons_zero, List.set_cons_succ]
                  refine wpAnyH_take (i := 20) (oi := { dst := some 60, op := Op.binOp BinOp.lss 3 (Operand.tmp 58) (Operand.tmp 59) 3, type := 4, pos := "ref.go:94", after := #[{ on := 18, ground := Ground.data }, { on := 19, ground := Ground.data }, { on := 12, ground := Ground.guard }], guard := some (12, false) }) (v := ?_) rfl (by kernel_rfl) (by kernel_rfl) (by kernel_rfl) (fun _ _ _ h => h) (Or.inl ⟨by rfl, ?_⟩) hHeld ?_
                  rotate_left
                  · intro u hSw
                    go_simp
                    try with_reducible rfl
                  try simp only [Act.put, List.setIfInBounds_toArray, List.set_cons_zero, List.set_cons_succ]
                  refine wpAnyH_take (i := 21) (oi := { dst := some 61, op := Op.pick (Operand.tmp 52) (Operand.const (Value.bool true)) (Operand.tmp 60), type := 4, pos := "ref.go:94", after := #[{ on := 12, ground := Ground.data }, { on := 20, ground := Ground.data }, { on := 8, ground := Ground.guard }], guard := some (8, true) }) (v := ?_) rfl (by kernel_rfl) (by kernel_rfl) (by kernel_rfl) (fun _ _ _ h => h) (Or.inl ⟨by rfl, ?_⟩) hHeld ?_
                  rotate_left
                  · intro u hSw
                    go_simp
                    try with_reducible rfl
                  try simp only [Act.put, List.setIfInBounds_toArray, List.set_cons_zero, List.set_cons_succ]
                  refine wpAnyH_take (i := 22) (oi := { dst := some 62, op := Op.pick (Operand.tmp 48) (Operand.tmp 61) (Operand.const (Value.bool false)), type := 4, pos := "ref.go:94", after := #[{ on := 8, ground := Ground.data }, { on := 21, ground := Ground.data }], guard := none }) (v := ?_) rfl (by kernel_rfl) (by kernel_rfl) (by kernel_rfl) (fun _ _ _ h => h) (Or.inl ⟨by rfl, ?_⟩) hHeld ?_
                  rotate_left
                  · intro u hSw
                    go_simp
                    try with_reducible rfl
                  try simp only [Act.put, List.setIfInBounds_toArray, List.set_cons_zero, List.set_cons_succ]
                  refine wpAnyH_done (by kernel_rfl) ?_ _
                  refine NoPanic.normal ?_
                  have HBQ6 : Hid _ := HBQ.out.trans (HB6.out.mono HBQ.out.size)
                  clear he
                  go_wp2
                  have h9 := nxt8 HNQ.out (fun h => HLAST.out h.2)
                  exact ⟨⟨q + 1, by omega, by go_num, by first | rfl | rw [HM.out] | trivial, by first | rfl | trivial, HBQ6.out, by first | exact h9 | (rw [HM.out] at h9; exact h9)⟩, by simp [intOf]; omega⟩
            · have he : ((strB (nameB k q)).toList == (SB.extract fr j).toList) = false := by rw [HPX.out]; exact strB_ne hnm
              have HNM : Hid (¬ nameB k q = p) := hnm
              clear hnm
              go_upto_region 13 with fail
              refine wp_region_noPanic ?_
              refine wp_region_held_drew (S := fun u => Below wr.heap.size wr u) (by kernel_rfl) ?_ (fun hHeld => ?_)
              · exact (Below.refl _ wr).drew
              refine wpAnyH_take (i := 0) (oi := { dst := some 40, op := Op.move (Operand.tmp 0), type := 3, pos := "ref.go:94", after := #[], guard := none }) (v := ?_) rfl (by kernel_rfl) (by kernel_rfl) (by kernel_rfl) (fun _ _ _ h => h) (Or.inl ⟨by rfl, ?_⟩) hHeld ?_
              rotate_left
              · intro u hSw
                go_simp
                try with_reducible rfl
              try simp only [Act.put, List.setIfInBounds_toArray, List.set_cons_zero, List.set_cons_succ]
              refine wpAnyH_take (i := 1) (oi := { dst := some 41, op := Op.move (Operand.tmp 12), type := 3, pos := "ref.go:94", after := #[], guard := none }) (v := ?_) rfl (by kernel_rfl) (by kernel_rfl) (by kernel_rfl) (fun _ _ _ h => h) (Or.inl ⟨by rfl, ?_⟩) hHeld ?_
              rotate_left
              · intro u hSw
                go_simp
                try with_reducible rfl
              try simp only [Act.put, List.setIfInBounds_toArray, List.set_cons_zero, List.set_cons_succ]
              refine wpAnyH_take (i := 3) (oi := { dst := some 43, op := Op.move (Operand.tmp 2), type := 9, pos := "ref.go:94", after := #[], guard := none }) (v := ?_) rfl (by kernel_rfl) (by kernel_rfl) (by kernel_rfl) (fun _ _ _ h => h) (Or.inl ⟨by rfl, ?_⟩) hHeld ?_
              rotate_left
              · intro u hSw
                go_simp
                try with_reducible rfl
              try simp only [Act.put, List.setIfInBounds_toArray, List.set_cons_zero, List.set_cons_succ]
              refine wpAnyH_take (i := 4) (oi := { dst := some 44, op := Op.move (Operand.tmp 9), type := 3, pos := "ref.go:94", after := #[], guard := none }) (v := ?_) rfl (by kernel_rfl) (by kernel_rfl) (by kernel_rfl) (fun _ _ _ h => h) (Or.inl ⟨by rfl, ?_⟩) hHeld ?_
              rotate_left
              · intro u hSw
                go_simp
                try with_reducible rfl
              try simp only [Act.put, List.setIfInBounds_toArray, List.set_cons_zero, List.set_cons_succ]
              refine wpAnyH_take (i := 5) (oi := { dst := some 45, op := Op.move (Operand.tmp 10), type := 3, pos := "ref.go:94", after := #[], guard := none }) (v := ?_) rfl (by kernel_rfl) (by kernel_rfl) (by kernel_rfl) (fun _ _ _ h => h) (Or.inl ⟨by rfl, ?_⟩) hHeld ?_
              rotate_left
              · intro u hSw
                go_simp
                try with_reducible rfl
              try simp only [Act.put, List.setIfInBounds_toArray, List.set_cons_zero, List.set_cons_succ]
              refine wpAnyH_take (i := 6) (oi := { dst := some 46, op := Op.slice 9 (Operand.tmp 43) (some (Operand.tmp 44)) (some (Operand.tmp 45)) none, type := 9, pos := "ref.go:94", after := #[{ on := 3, ground := Ground.data }, { on := 4, ground := Ground.data }, { on := 5, ground := Ground.data }], guard := none }) (v := ?_) rfl (by kernel_rfl) (by kernel_rfl) (by kernel_rfl) (fun _ _ _ h => h) (Or.inl ⟨by rfl, ?_⟩) hHeld ?_
              rotate_left
              · intro u hSw
                go_simp
                try with_reducible rfl
              try simp only [Act.put, List.setIfInBounds_toArray, List.set_cons_zero, List.set_cons_succ]
              refine wpAnyH_ready (rs := [2]) (by kernel_rfl) (by simp) ?_
              refine AllReadyH.cons (o := { dst := some 42, op := Op.call { callee := Callee.value (Operand.func 40), args := #[Operand.tmp 40, Operand.tmp 41], argTypes := #[3, 3] }, type := 9, pos := "ref.go:94", after := #[{ on := 0, ground := Ground.data }, { on := 1, ground := Ground.data }], guard := none }) rfl (fun K hK => ?_) AllReadyH.nil
              go_simp
              refine Calls.mono (rname_F k q _ (by omega) (by omega)) ?_
              rintro e w6 ⟨rfl, hb6⟩
              have HB6 : Hid (Below wr.heap.size wr w6) := Below.trans ((Below.refl _ wr).drew) hb6
              clear hb6
              go_wp2_with fail
              refine hK.out _ _ ?_ (fun hHeld => ?_)
              · exact HB6.out
              clear hK K
              try simp only [Act.put, List.setIfInBounds_toArray, List.set_cons_zero, List.set_cons_succ]
              refine wpAnyH_take (i := 7) (oi := { dst := some 47, op := Op.binOp BinOp.eql 9 (Operand.tmp 42) (Operand.tmp 46) 9, type := 4, pos := "ref.go:94", after := #[{ on := 2, ground := Ground.data }, { on := 6, ground := Ground.data }], guard := none }) (v := ?_) rfl (by kernel_rfl) (by kernel_rfl) (by kernel_rfl) (fun _ _ _ h => h) (Or.inl ⟨by rfl, ?_⟩) hHeld ?_
              rotate_left
              · intro u hSw
                go_simp
                try with_reducible rfl
              try simp only [Act.put, List.setIfInBounds_toArray, List.set_cons_zero, List.set_cons_succ]
              refine wpAnyH_take (i := 8) (oi := { dst := some 48, op := Op.move (Operand.tmp 47), type := 4, pos := "ref.go:94", after := #[{ on := 7, ground := Ground.data }, { on := 2, ground := Ground.chain }], guard := none }) (v := ?_) rfl (by kernel_rfl) (by kernel_rfl) (by kernel_rfl) (fun _ _ _ h => h) (Or.inl ⟨by rfl, ?_⟩) hHeld ?_
              rotate_left
              · intro u hSw
                go_simp
                try with_reducible rfl
              try simp only [Act.put, List.setIfInBounds_toArray, List.set_cons_zero, List.set_cons_succ]
              refine wpAnyH_take (i := 9) (oi := { dst := some 49, op := Op.move (Operand.tmp 8), type := 22, pos := "ref.go:94", after := #[{ on := 8, ground := Ground.guard }], guard := some (8, true) }) (v := undef) rfl (by kernel_rfl) (by kernel_rfl) (by kernel_rfl) (fun _ _ _ h => h) (Or.inr ⟨by rfl, rfl⟩) hHeld ?_
              try simp only [Act.put, List.setIfInBounds_toArray, List.set_cons_zero, List.set_cons_succ]
              refine wpAnyH_take (i := 10) (oi := { dst := some 50, op := Op.call { callee := Callee.builtin Builtin.len, args := #[Operand.tmp 49], argTypes := #[22] }, type := 3, pos := "ref.go:94", after := #[{ on := 9, ground := Ground.data }, { on := 8, ground := Ground.guard }], guard := some (8, true) }) (v := undef) rfl (by kernel_rfl) (by kernel_rfl) (by kernel_rfl) (fun _ _ _ h => h) (Or.inr ⟨by rfl, rfl⟩) hHeld ?_
              try simp only [Act.put, List.setIfInBounds_toArray, List.set_cons_zero, List.set_cons_succ]
              refine wpAnyH_take (i := 11) (oi := { dst := some 51, op := Op.binOp BinOp.eql 3 (Operand.tmp 50) (Operand.const (Value.int IntKind.i64 0)) 3, type := 4, pos := "ref.go:94", after := #[{ on := 10, ground := Ground.data }, { on := 8, ground := Ground.guard }], guard := some (8, true) }) (v := undef) rfl (by kernel_rfl) (by kernel_rfl) (by kernel_rfl) (fun _ _ _ h => h) (Or.inr ⟨by rfl, rfl⟩) hHeld ?_
              try simp only [Act.put, List.setIfInBounds_toArray, List.set_cons_zero, List.set_cons_succ]
              refine wpAnyH_take (i := 12) (oi := { dst := some 52, op := Op.move (Operand.tmp 51), type := 4, pos := "ref.go:94", after := #[{ on := 11, ground := Ground.data }, { on := 8, ground := Ground.chain }, { on := 8, ground := Ground.guard }], guard := some (8, true) }) (v := undef) rfl (by kernel_rfl) (by kernel_rfl) (by kernel_rfl) (fun _ _ _ h => h) (Or.inr ⟨by rfl, rfl⟩) hHeld ?_
              try simp only [Act.put, List.setIfInBounds_toArray, List.set_cons_zero, List.set_cons_succ]
              refine wpAnyH_take (i := 13) (oi := { dst := some 53, op := Op.move (Operand.tmp 8), type := 22, pos := "ref.go:94", after := #[{ on := 12, ground := Ground.guard }], guard := some (12, false) }) (v := undef) rfl (by kernel_rfl) (by kernel_rfl) (by kernel_rfl) (fun _ _ _ h => h) (Or.inr ⟨by rfl, rfl⟩) hHeld ?_
              try simp only [Act.put, List.setIfInBounds_toArray, List.set_cons_zero, List.set_cons_succ]
              refine wpAnyH_take (i := 14) (oi := { dst := some 54, op := Op.move (Operand.tmp 8), type := 22, pos := "ref.go:94", after := #[{ on := 12, ground := Ground.guard }], guard := some (12, false) }) (v := undef) rfl (by kernel_rfl) (by kernel_rfl) (by kernel_rfl) (fun _ _ _ h => h) (Or.inr ⟨by rfl, rfl⟩) hHeld ?_
              try simp only [Act.put, List.setIfInBounds_toArray, List.set_cons_zero, List.set_cons_succ]
              refine wpAnyH_take (i := 15) (oi := { dst := some 55, op := Op.call { callee := Callee.builtin Builtin.len, args := #[Operand.tmp 54], argTypes := #[22] }, type := 3, pos := "ref.go:94", after := #[{ on := 14, ground := Ground.data }, { on := 12, ground := Ground.guard }], guard := some (12, false) }) (v := undef) rfl (by kernel_rfl) (by kernel_rfl) (by kernel_rfl) (fun _ _ _ h => h) (Or.inr ⟨by rfl, rfl⟩) hHeld ?_
              try simp only [Act.put, List.setIfInBounds_toArray, List.set_cons_zero, List.set_cons_succ]
              refine wpAnyH_take (i := 16) (oi := { dst := some 56, op := Op.binOp BinOp.sub 3 (Operand.tmp 55) (Operand.const (Value.int IntKind.i64 1)) 3, type := 3, pos := "ref.go:94", after := #[{ on := 15, ground := Ground.data }, { on := 12, ground := Ground.guard }], guard := some (12, false) }) (v := undef) rfl (by kernel_rfl) (by kernel_rfl) (by kernel_rfl) (fun _ _ _ h => h) (Or.inr ⟨by rfl, rfl⟩) hHeld ?_
              try simp only [Act.put, List.setIfInBounds_toArray, List.set_cons_zero, List.set_cons_succ]
              refine wpAnyH_take (i := 17) (oi := { dst := some 57, op := Op.indexAddr 22 (Operand.tmp 53) (Operand.tmp 56), type := 0, pos := "ref.go:94", after := #[{ on := 13, ground := Ground.data }, { on := 16, ground := Ground.data }, { on := 12, ground := Ground.guard }], guard := some (12, false) }) (v := undef) rfl (by kernel_rfl) (by kernel_rfl) (by kernel_rfl) (fun _ _ _ h => h) (Or.inr ⟨by rfl, rfl⟩) hHeld ?_
              try simp only [Act.put, List.setIfInBounds_toArray, List.set_cons_zero, List.set_cons_succ]
              refine wpAnyH_take (i := 18) (oi := { dst := some 58, op := Op.load 3 (Operand.tmp 57), type := 3, pos := "ref.go:94", after := #[{ on := 17, ground := Ground.data }, { on := 12, ground := Ground.guard }], guard := some (12, false) }) (v := undef) rfl (by kernel_rfl) (by kernel_rfl) (by kernel_rfl) (fun _ _ _ h => h) (Or.inr ⟨by rfl, rfl⟩) hHeld ?_
              try simp only [Act.put, List.setIfInBounds_toArray, List.set_cons_zero, List.set_cons_succ]
              refine wpAnyH_take (i := 19) (oi := { dst := some 59, op := Op.move (Operand.tmp 12), type := 3, pos := "ref.go:94", after := #[{ on := 12, ground := Ground.guard }], guard := some (12, false) }) (v := undef) rfl (by kernel_rfl) (by kernel_rfl) (by kernel_rfl) (fun _ _ _ h => h) (Or.inr ⟨by rfl, rfl⟩) hHeld ?_
              try simp only [Act.put, List.setIfInBounds_toArray, List.set_cons_zero, List.set_cons_succ]
              refine wpAnyH_take (i := 20) (oi := { dst := some 60, op := Op.binOp BinOp.lss 3 (Operand.tmp 58) (Operand.tmp 59) 3, type := 4, pos := "ref.go:94", after := #[{ on := 18, ground := Ground.data }, { on := 19, ground := Ground.data }, { on := 12, ground := Ground.guard }], guard := some (12, false) }) (v := undef) rfl (by kernel_rfl) (by kernel_rfl) (by kernel_rfl) (fun _ _ _ h => h) (Or.inr ⟨by rfl, rfl⟩) hHeld ?_
              try simp only [Act.put, List.setIfInBounds_toArray, List.set_cons_zero, List.set_cons_succ]
              refine wpAnyH_take (i := 21) (oi := { dst := some 61, op := Op.pick (Operand.tmp 52) (Operand.const (Value.bool true)) (Operand.tmp 60), type := 4, pos := "ref.go:94", after := #[{ on := 12, ground := Ground.data }, { on := 20, ground := Ground.data }, { on := 8, ground := Ground.guard }], guard := some (8, true) }) (v := undef) rfl (by kernel_rfl) (by kernel_rfl) (by kernel_rfl) (fun _ _ _ h => h) (Or.inr ⟨by rfl, rfl⟩) hHeld ?_
              try simp only [Act.put, List.setIfInBounds_toArray, List.set_cons_zero, List.set_cons_succ]
              refine wpAnyH_take (i := 22) (oi := { dst := some 62, op := Op.pick (Operand.tmp 48) (Operand.tmp 61) (Operand.const (Value.bool false)), type := 4, pos := "ref.go:94", after := #[{ on := 8, ground := Ground.data }, { on := 21, ground := Ground.data }], guard := none }) (v := ?_) rfl (by kernel_rfl) (by kernel_rfl) (by kernel_rfl) (fun _ _ _ h => h) (Or.inl ⟨by rfl, ?_⟩) hHeld ?_
              rotate_left
              · intro u hSw
                go_simp
                try with_reducible rfl
              try simp only [Act.put, List.setIfInBounds_toArray, List.set_cons_zero, List.set_cons_succ]
              refine wpAnyH_done (by kernel_rfl) ?_ _
              refine NoPanic.normal ?_
              have HBQ6 : Hid _ := HBQ.out.trans (HB6.out.mono HBQ.out.size)
              clear he
              go_wp2
              exact ⟨⟨q + 1, by omega, by go_num, by first | rfl | trivial, by first | rfl | trivial, HBQ6.out, nxt8 HNQ.out (fun h => HNM.out h.1)⟩, by simp [intOf]; omega⟩
          · obtain rfl : q = n := by omega
            have HD : Hid _ := HNONE.out HNQ.out
            have HBW6 : Hid (Below w.heap.size w wr) := HB.out.trans (HBQ.out.mono HB.out.size)
            go_wp2
            go_ret2
            exact ⟨.inr ⟨HD.out, rfl⟩, HBW6.out⟩
      · have hcc : ((SB[j].toNat : Int) != 44) = true := by rw [hch, bne_iff_ne]; exact fun h => hc (UInt8.toNat_inj.1 (show t[j].toNat = 44 by omega))
        have HNX : Hid (PState k n t (j + 1) fr acc) := by
          obtain ⟨done, hd, hs, hn44⟩ := HPS.out
          exact ⟨done, hd, .inl ⟨by omega, hs, take_more hfj hjt hc hn44⟩⟩
        clear hch hc hp
        go_wp2
        exact ⟨⟨j + 1, fr, acc, by omega, by omega, by go_num, rfl, HNX.out, ⟨av, cv, rfl⟩, HB.out, HO.out⟩, by simp [intOf]; omega⟩
    · obtain rfl : j = SB.size := by omega
      have HYES : Hid (∀ q, q < n → nameB k q = p → (acc = [] ∨ acc.getD (acc.length - 1) 0 < q) → PState k n t (SB.size + 1) (SB.size + 1) (acc ++ [q])) := fun q hq hnm hl => by
        obtain ⟨done, hd, hs, hn44⟩ := HPS.out
        have hsz := HSZ.out
        refine ⟨done ++ [p], by rw [readC_snoc, hd]; show stepC k n acc p = _; unfold stepC; rw [nameIx_of (by omega) hn32 hq hnm]; simp only [if_pos hl], .inr ⟨by omega, ?_⟩⟩
        rw [hsz] at hn44 hp
        rw [hs, drop_end hn44, hp]
      have HNONE : Hid ((∀ x, x < n → ¬ (nameB k x = p ∧ (acc = [] ∨ acc.getD (acc.length - 1) 0 < x))) → parseC k n t = none) := fun h => by
        obtain ⟨done, hd, hs, hn44⟩ := HPS.out
        have hsz := HSZ.out
        rw [hsz] at hn44 hp
        rw [HNO.out, hs, drop_end hn44, ← hp, readC_snoc, hd]; exact stepC_no h
      clear hp hjl
      obtain ⟨wo, hwo⟩ : ∃ wo, wo = wr := ⟨_, rfl⟩
      subst hwo
      have HAL : Hid (acc.length ≤ 32) := HACC.out
      go_wp2
      go_loopw [12, 8, 11] (fun i v f wr => ∃ q : Nat, q ≤ n ∧ i = .int .i64 q ∧ v = .slice av acc.length cv ∧ f = .bool false ∧ Below wo.heap.size wo wr ∧ ∀ x, x < q → ¬ (nameB k x = p ∧ (acc = [] ∨ acc.getD (acc.length - 1) 0 < x))) (fun i _ _ _ => n - (intOf i).toNat)
      case atStart => exact ⟨0, by omega, rfl, rfl, rfl, Below.refl _ _, fun x hx => absurd hx (Nat.not_lt_zero x)⟩
      case round =>
        obtain ⟨q, hqn, rfl, rfl, rfl, hbq, hnq⟩ := hrel
        have HBQ : Hid _ := hbq
        have HNQ : Hid (∀ x, x < q → ¬ (nameB k x = p ∧ (acc = [] ∨ acc.getD (acc.length - 1) 0 < x))) := hnq
        clear hbq hnq
        by_cases hq : q < n
        · by_cases hnm : nameB k q = p
          · have he : ((strB (nameB k q)).toList == (SB.extract fr SB.size).toList) = true := by rw [HPX.out]; exact strB_eq hnm
            by_cases h0 : acc = []
            · have hlast : acc = [] ∨ acc.getD (acc.length - 1) 0 < q := .inl h0
              have hl0 : acc.length = 0 := by rw [h0]; rfl
              obtain ⟨al, hal⟩ : ∃ al, al = acc.length := ⟨_, rfl⟩
              rw [hl0]
              have HSTP : Hid _ := HYES.out q hq hnm hlast
              clear hnm hlast
              have HOM : Hid (wo.ownsRow w.heap.size 3 1 (.slice av 0 cv) 0 ((natJ8 acc).map (Value.int .i64))) := by have := HO.out; rw [hl0] at this; exact this
              go_upto_region 13 with fail
              refine wp_region_noPanic ?_
              refine wp_region_held_drew (S := fun u => Below wr.heap.size wr u) (by kernel_rfl) ?_ (fun hHeld => ?_)
              · exact (Below.refl _ wr).drew
              refine wpAnyH_take (i := 0) (oi := { dst := some 40, op := Op.move (Operand.tmp 0), type := 3, pos := "ref.go:94", after := #[], guard := none }) (v := ?_) rfl (by kernel_rfl) (by kernel_rfl) (by kernel_rfl) (fun _ _ _ h => h) (Or.inl ⟨by rfl, ?_⟩) hHeld ?_
              rotate_left
              · intro u hSw
                go_simp
                try with_reducible rfl
              try simp only [Act.put, List.setIfInBounds_toArray, List.set_cons_zero, List.set_cons_succ]
              refine wpAnyH_take (i := 1) (oi := { dst := some 41, op := Op.move (Operand.tmp 12), type := 3, pos := "ref.go:94", after := #[], guard := none }) (v := ?_) rfl (by kernel_rfl) (by kernel_rfl) (by kernel_rfl) (fun _ _ _ h => h) (Or.inl ⟨by rfl, ?_⟩) hHeld ?_
              rotate_left
              · intro u hSw
                go_simp
                try with_reducible rfl
              try simp only [Act.put, List.setIfInBounds_toArray, List.set_cons_zero, List.set_cons_succ]
              refine wpAnyH_take (i := 3) (oi := { dst := some 43, op := Op.move (Operand.tmp 2), type := 9, pos := "ref.go:94", after := #[], guard := none }) (v := ?_) rfl (by kernel_rfl) (by kernel_rfl) (by kernel_rfl) (fun _ _ _ h => h) (Or.inl ⟨by rfl, ?_⟩) hHeld ?_
              rotate_left
              · intro u hSw
                go_simp
                try with_reducible rfl
              try simp only [Act.put, List.setIfInBounds_toArray, List.set_cons_zero, List.set_cons_succ]
              refine wpAnyH_take (i := 4) (oi := { dst := some 44, op := Op.move (Operand.tmp 9), type := 3, pos := "ref.go:94", after := #[], guard := none }) (v := ?_) rfl (by kernel_rfl) (by kernel_rfl) (by kernel_rfl) (fun _ _ _ h => h) (Or.inl ⟨by rfl, ?_⟩) hHeld ?_
              rotate_left
              · intro u hSw
                go_simp
                try with_reducible rfl
              try simp only [Act.put, List.setIfInBounds_toArray, List.set_cons_zero, List.set_cons_succ]
              refine wpAnyH_take (i := 5) (oi := { dst := some 45, op := Op.move (Operand.tmp 10), type := 3, pos := "ref.go:94", after := #[], guard := none }) (v := ?_) rfl (by kernel_rfl) (by kernel_rfl) (by kernel_rfl) (fun _ _ _ h => h) (Or.inl ⟨by rfl, ?_⟩) hHeld ?_
              rotate_left
              · intro u hSw
                go_simp
                try with_reducible rfl
              try simp only [Act.put, List.setIfInBounds_toArray, List.set_cons_zero, List.set_cons_succ]
              refine wpAnyH_take (i := 6) (oi := { dst := some 46, op := Op.slice 9 (Operand.tmp 43) (some (Operand.tmp 44)) (some (Operand.tmp 45)) none, type := 9, pos := "ref.go:94", after := #[{ on := 3, ground := Ground.data }, { on := 4, ground := Ground.data }, { on := 5, ground := Ground.data }], guard := none }) (v := ?_) rfl (by kernel_rfl) (by kernel_rfl) (by kernel_rfl) (fun _ _ _ h => h) (Or.inl ⟨by rfl, ?_⟩) hHeld ?_
              rotate_left
              · intro u hSw
                go_simp
                try with_reducible rfl
              try simp only [Act.put, List.setIfInBounds_toArray, List.set_cons_zero, List.set_cons_succ]
              refine wpAnyH_ready (rs := [2]) (by kernel_rfl) (by simp) ?_
              refine AllReadyH.cons (o := { dst := some 42, op := Op.call { callee := Callee.value (Operand.func 40), args := #[Operand.tmp 40, Operand.tmp 41], argTypes := #[3, 3] }, type := 9, pos := "ref.go:94", after := #[{ on := 0, ground := Ground.data }, { on := 1, ground := Ground.data }], guard := none }) rfl (fun K hK => ?_) AllReadyH.nil
              go_simp
              refine Calls.mono (rname_F k q _ (by omega) (by omega)) ?_
              rintro e w6 ⟨rfl, hb6⟩
              have HB6 : Hid (Below wr.heap.size wr w6) := Below.trans ((Below.refl _ wr).drew) hb6
              clear hb6
              go_wp2_with fail
              refine hK.out _ _ ?_ (fun hHeld => ?_)
              · exact HB6.out
              clear hK K
              try simp only [Act.put, List.setIfInBounds_toArray, List.set_cons_zero, List.set_cons_succ]
              refine wpAnyH_take (i := 7) (oi := { dst := some 47, op := Op.binOp BinOp.eql 9 (Operand.tmp 42) (Operand.tmp 46) 9, type := 4, pos := "ref.go:94", after := #[{ on := 2, ground := Ground.data }, { on := 6, ground := Ground.data }], guard := none }) (v := ?_) rfl (by kernel_rfl) (by kernel_rfl) (by kernel_rfl) (fun _ _ _ h => h) (Or.inl ⟨by rfl, ?_⟩) hHeld ?_
              rotate_left
              · intro u hSw
                go_simp
                try with_reducible rfl
              try simp only [Act.put, List.setIfInBounds_toArray, List.set_cons_zero, List.set_cons_succ]
              refine wpAnyH_take (i := 8) (oi := { dst := some 48, op := Op.move (Operand.tmp 47), type := 4, pos := "ref.go:94", after := #[{ on := 7, ground := Ground.data }, { on := 2, ground := Ground.chain }], guard := none }) (v := ?_) rfl (by kernel_rfl) (by kernel_rfl) (by kernel_rfl) (fun _ _ _ h => h) (Or.inl ⟨by rfl, ?_⟩) hHeld ?_
              rotate_left
              · intro u hSw
                go_simp
                try with_reducible rfl
              try simp only [Act.put, List.setIfInBounds_toArray, List.set_cons_zero, List.set_cons_succ]
              refine wpAnyH_take (i := 9) (oi := { dst := some 49, op := Op.move (Operand.tmp 8), type := 22, pos := "ref.go:94", after := #[{ on := 8, ground := Ground.guard }], guard := some (8, true) }) (v := ?_) rfl (by kernel_rfl) (by kernel_rfl) (by kernel_rfl) (fun _ _ _ h => h) (Or.inl ⟨by rfl, ?_⟩) hHeld ?_
              rotate_left
              · intro u hSw
                go_simp
                try with_reducible rfl
              try simp only [Act.put, List.setIfInBounds_toArray, List.set_cons_zero, List.set_cons_succ]
              refine wpAnyH_take (i := 10) (oi := { dst := some 50, op := Op.call { callee := Callee.builtin Builtin.len, args := #[Operand.tmp 49], argTypes := #[22] }, type := 3, pos := "ref.go:94", after := #[{ on := 9, ground := Ground.data }, { on := 8, ground := Ground.guard }], guard := some (8, true) }) (v := ?_) rfl (by kernel_rfl) (by kernel_rfl) (by kernel_rfl) (fun _ _ _ h => h) (Or.inl ⟨by rfl, ?_⟩) hHeld ?_
              rotate_left
              · intro u hSw
                go_simp
                try with_reducible rfl
              try simp only [Act.put, List.setIfInBounds_toArray, List.set_cons_zero, List.set_cons_succ]
              refine wpAnyH_take (i := 11) (oi := { dst := some 51, op := Op.binOp BinOp.eql 3 (Operand.tmp 50) (Operand.const (Value.int IntKind.i64 0)) 3, type := 4, pos := "ref.go:94", after := #[{ on := 10, ground := Ground.data }, { on := 8, ground := Ground.guard }], guard := some (8, true) }) (v := ?_) rfl (by kernel_rfl) (by kernel_rfl) (by kernel_rfl) (fun _ _ _ h => h) (Or.inl ⟨by rfl, ?_⟩) hHeld ?_
              rotate_left
              · intro u hSw
                go_simp
                try with_reducible rfl
              try simp only [Act.put, List.setIfInBounds_toArray, List.set_cons_zero, List.set_cons_succ]
              refine wpAnyH_take (i := 12) (oi := { dst := some 52, op := Op.move (Operand.tmp 51), type := 4, pos := "ref.go:94", after := #[{ on := 11, ground := Ground.data }, { on := 8, ground := Ground.chain }, { on := 8, ground := Ground.guard }], guard := some (8, true) }) (v := ?_) rfl (by kernel_rfl) (by kernel_rfl) (by kernel_rfl) (fun _ _ _ h => h) (Or.inl ⟨by rfl, ?_⟩) hHeld ?_
              rotate_left
              · intro u hSw
                go_simp
                try with_reducible rfl
              try simp only [Act.put, List.setIfInBounds_toArray, List.set_cons_zero, List.set_cons_succ]
              refine wpAnyH_take (i := 13) (oi := { dst := some 53, op := Op.move (Operand.tmp 8), type := 22, pos := "ref.go:94", after := #[{ on := 12, ground := Ground.guard }], guard := some (12, false) }) (v := undef) rfl (by kernel_rfl) (by kernel_rfl) (by kernel_rfl) (fun _ _ _ h => h) (Or.inr ⟨by rfl, rfl⟩) hHeld ?_
              try simp only [Act.put, List.setIfInBounds_toArray, List.set_cons_zero, List.set_cons_succ]
              refine wpAnyH_take (i := 14) (oi := { dst := some 54, op := Op.move (Operand.tmp 8), type := 22, pos := "ref.go:94", after := #[{ on := 12, ground := Ground.guard }], guard := some (12, false) }) (v := undef) rfl (by kernel_rfl) (by kernel_rfl) (by kernel_rfl) (fun _ _ _ h => h) (Or.inr ⟨by rfl, rfl⟩) hHeld ?_
              try simp only [Act.put, List.setIfInBounds_toArray, List.set_cons_zero, List.set_cons_succ]
              refine wpAnyH_take (i := 15) (oi := { dst := some 55, op := Op.call { callee := Callee.builtin Builtin.len, args := #[Operand.tmp 54], argTypes := #[22] }, type := 3, pos := "ref.go:94", after := #[{ on := 14, ground := Ground.data }, { on := 12, ground := Ground.guard }], guard := some (12, false) }) (v := undef) rfl (by kernel_rfl) (by kernel_rfl) (by kernel_rfl) (fun _ _ _ h => h) (Or.inr ⟨by rfl, rfl⟩) hHeld ?_
              try simp only [Act.put, List.setIfInBounds_toArray, List.set_cons_zero, List.set_cons_succ]
              refine wpAnyH_take (i := 16) (oi := { dst := some 56, op := Op.binOp BinOp.sub 3 (Operand.tmp 55) (Operand.const (Value.int IntKind.i64 1)) 3, type := 3, pos := "ref.go:94", after := #[{ on := 15, ground := Ground.data }, { on := 12, ground := Ground.guard }], guard := some (12, false) }) (v := undef) rfl (by kernel_rfl) (by kernel_rfl) (by kernel_rfl) (fun _ _ _ h => h) (Or.inr ⟨by rfl, rfl⟩) hHeld ?_
              try simp only [Act.put, List.setIfInBounds_toArray, List.set_cons_zero, List.set_cons_succ]
              refine wpAnyH_take (i := 17) (oi := { dst := some 57, op := Op.indexAddr 22 (Operand.tmp 53) (Operand.tmp 56), type := 0, pos := "ref.go:94", after := #[{ on := 13, ground := Ground.data }, { on := 16, ground := Ground.data }, { on := 12, ground := Ground.guard }], guard := some (12, false) }) (v := undef) rfl (by kernel_rfl) (by kernel_rfl) (by kernel_rfl) (fun _ _ _ h => h) (Or.inr ⟨by rfl, rfl⟩) hHeld ?_
              try simp only [Act.put, List.setIfInBounds_toArray, List.set_cons_zero, List.set_cons_succ]
              refine wpAnyH_take (i := 18) (oi := { dst := some 58, op := Op.load 3 (Operand.tmp 57), type := 3, pos := "ref.go:94", after := #[{ on := 17, ground := Ground.data }, { on := 12, ground := Ground.guard }], guard := some (12, false) }) (v := undef) rfl (by kernel_rfl) (by kernel_rfl) (by kernel_rfl) (fun _ _ _ h => h) (Or.inr ⟨by rfl, rfl⟩) hHeld ?_
              try simp only [Act.put, List.setIfInBounds_toArray, List.set_cons_zero, List.set_cons_succ]
              refine wpAnyH_take (i := 19) (oi := { dst := some 59, op := Op.move (Operand.tmp 12), type := 3, pos := "ref.go:94", after := #[{ on := 12, ground := Ground.guard }], guard := some (12, false) }) (v := undef) rfl (by kernel_rfl) (by kernel_rfl) (by kernel_rfl) (fun _ _ _ h => h) (Or.inr ⟨by rfl, rfl⟩) hHeld ?_
              try simp only [Act.put, List.setIfInBounds_toArray, List.set_cons_zero, List.set_cons_succ]
              refine wpAnyH_take (i := 20) (oi := { dst := some 60, op := Op.binOp BinOp.lss 3 (Operand.tmp 58) (Operand.tmp 59) 3, type := 4, pos := "ref.go:94", after := #[{ on := 18, ground := Ground.data }, { on := 19, ground := Ground.data }, { on := 12, ground := Ground.guard }], guard := some (12, false) }) (v := undef) rfl (by kernel_rfl) (by kernel_rfl) (by kernel_rfl) (fun _ _ _ h => h) (Or.inr ⟨by rfl, rfl⟩) hHeld ?_
              try simp only [Act.put, List.setIfInBounds_toArray, List.set_cons_zero, List.set_cons_succ]
              refine wpAnyH_take (i := 21) (oi := { dst := some 61, op := Op.pick (Operand.tmp 52) (Operand.const (Value.bool true)) (Operand.tmp 60), type := 4, pos := "ref.go:94", after := #[{ on := 12, ground := Ground.data }, { on := 20, ground := Ground.data }, { on := 8, ground := Ground.guard }], guard := some (8, true) }) (v := ?_) rfl (by kernel_rfl) (by kernel_rfl) (by kernel_rfl) (fun _ _ _ h => h) (Or.inl ⟨by rfl, ?_⟩) hHeld ?_
              rotate_left
              · intro u hSw
                go_simp
                try with_reducible rfl
              try simp only [Act.put, List.setIfInBounds_toArray, List.set_cons_zero, List.set_cons_succ]
              refine wpAnyH_take (i := 22) (oi := { dst := some 62, op := Op.pick (Operand.tmp 48) (Operand.tmp 61) (Operand.const (Value.bool false)), type := 4, pos := "ref.go:94", after := #[{ on := 8, ground := Ground.data }, { on := 21, ground := Ground.data }], guard := none }) (v := ?_) rfl (by kernel_rfl) (by kernel_rfl) (by kernel_rfl) (fun _ _ _ h => h) (Or.inl ⟨by rfl, ?_⟩) hHeld ?_
              rotate_left
              · intro u hSw
                go_simp
                try with_reducible rfl
              try simp only [Act.put, List.setIfInBounds_toArray, List.set_cons_zero, List.set_cons_succ]
              refine wpAnyH_done (by kernel_rfl) ?_ _
              refine NoPanic.normal ?_
              have HBQ6 : Hid (Below wo.heap.size wo w6) := HBQ.out.trans (HB6.out.mono HBQ.out.size)
              have HBW6 : Hid (Below w.heap.size w w6) := HB.out.trans (HBQ6.out.mono HB.out.size)
              have ho7 := World.ownsRow.alloc (own_below HOM.out HBQ6.out) (.cells #[.int .i64 q] 3)
              obtain ⟨g2, cap2, w7, hrun, ho2, hgr, hor, hlt9⟩ := appendI (b := w6.heap.size) (c := 1) (x := (q : Int)) 22 ho7 (cellAt (heap_alloc_last w6 (.cells #[.int .i64 q] 3)) 0 _ rfl) (by have := HAL.out; omega) (by have := HBW6.out.size; simp; omega)
              have hb7 := below_own (HBW6.out.alloc HBW6.out.size (.cells #[.int .i64 q] 3)) ho7 hgr (by have := HBW6.out.size; simp; omega)
              have hv7 : (natJ8 acc).map (Value.int .i64) ++ [.int .i64 (q : Int)] = (natJ8 (acc ++ [q])).map (Value.int .i64) := by simp [natJ8]
              rw [hv7] at ho2
              have HRun : Hid _ := hrun
              have HO2 : Hid (w7.ownsRow w.heap.size 3 1 (.slice (some ⟨g2, 0, none⟩) (0 + 1) cap2) (0 + 1) ((natJ8 (acc ++ [q])).map (Value.int .i64))) := ho2
              have HB7 : Hid _ := hb7
              clear he ho7 hrun ho2 hgr hor hlt9 hb7 hv7
              go_wp2_with (at_builtin; refine wpList_append_run rfl _ _ 22 rfl _ _ _ _ rfl rfl HRun.out ?_)
              exact ⟨⟨SB.size + 1, SB.size + 1, acc ++ [q], by omega, Nat.le_refl _, by go_num, by go_num, HSTP.out, ⟨some ⟨g2, 0, none⟩, cap2, by rw [List.length_append, hl0]; rfl⟩, HB7.out, by rw [List.length_append, hl0]; exact HO2.out⟩, by simp [intOf] <;> omega⟩
            · obtain ⟨m, hm⟩ : ∃ m, acc.length = m + 1 := ⟨acc.length - 1, by have := List.length_pos_iff.2 h0; omega⟩
              obtain ⟨y, hy⟩ : ∃ y, y = acc.getD m 0 := ⟨_, rfl⟩
              have HM : Hid (acc.length = m + 1) := hm
              have hm32 : m ≤ 31 := by have := HACC.out; omega
              have hmlt : (m : Int) < (m : Int) + 1 := by omega
              have hwm : IntKind.i64.wrap (m : Int) = (m : Int) := wrap_nat8 (by omega)
              have HY : Hid (y = acc.getD m 0) := hy
              obtain ⟨b, off, rfl, hbb, hc⟩ := rowI_cell (rowI_below (rowI_own9 HO.out) HBQ.out) (show m < (natJ8 acc).length by rw [natJ8_len]; omega)
              have c4 := hc m (by rw [natJ8_len]; omega)
              rw [show (natJ8 acc).getD m 0 = (y : Int) by rw [hy]; simp [natJ8, List.getD, show m < acc.length by omega]] at c4
              rw [hm]
              clear hc hm hy
              by_cases hlt9 : y < q
              · have hlast : acc = [] ∨ acc.getD (acc.length - 1) 0 < q := .inr (by rw [HM.out, Nat.add_sub_cancel, ← HY.out]; exact hlt9)
                clear h0
                have HSTP : Hid _ := HYES.out q hq hnm hlast
                clear hnm hlast
                have HOM : Hid (wo.ownsRow w.heap.size 3 1 (.slice (some ⟨b, off, none⟩) (m + 1) cv) (m + 1) ((natJ8 acc).map (Value.int .i64))) := by have := HO.out; rw [HM.out] at this; exact this
                go_upto_region 13 with fail
                refine wp_region_noPanic ?_
                refine wp_region_held_drew (S := fun u => Below wr.heap.size wr u) (by kernel_rfl) ?_ (fun hHeld => ?_)
                · exact (Below.refl _ wr).drew
                refine wpAnyH_take (i := 0) (oi := { dst := some 40, op := Op.move (Operand.tmp 0), type := 3, pos := "ref.go:94", after := #[], guard := none }) (v := ?_) rfl (by kernel_rfl) (by kernel_rfl) (by kernel_rfl) (fun _ _ _ h => h) (Or.inl ⟨by rfl, ?_⟩) hHeld ?_
                rotate_left
                · intro u hSw
                  go_simp
                  try with_reducible rfl
                try simp only [Act.put, List.setIfInBounds_toArray, List.set_cons_zero, List.set_cons_succ]
                refine wpAnyH_take (i := 1) (oi := { dst := some 41, op := Op.move (Operand.tmp 12), type := 3, pos := "ref.go:94", after := #[], guard := none }) (v := ?_) rfl (by kernel_rfl) (by kernel_rfl) (by kernel_rfl) (fun _ _ _ h => h) (Or.inl ⟨by rfl, ?_⟩) hHeld ?_
                rotate_left
                · intro u hSw
                  go_simp
                  try with_reducible rfl
                try simp only [Act.put, List.setIfInBounds_toArray, List.set_cons_zero, List.set_cons_succ]
                refine wpAnyH_take (i := 3) (oi := { dst := some 43, op := Op.move (Operand.tmp 2), type := 9, pos := "ref.go:94", after := #[], guard := none }) (v := ?_) rfl (by kernel_rfl) (by kernel_rfl) (by kernel_rfl) (fun _ _ _ h => h) (Or.inl ⟨by rfl, ?_⟩) hHeld ?_
                rotate_left
                · intro u hSw
                  go_simp
                  try with_reducible rfl
                try simp only [Act.put, List.setIfInBounds_toArray, List.set_cons_zero, List.set_cons_succ]
                refine wpAnyH_take (i := 4) (oi := { dst := some 44, op := Op.move (Operand.tmp 9), type := 3, pos := "ref.go:94", after := #[], guard := none }) (v := ?_) rfl (by kernel_rfl) (by kernel_rfl) (by kernel_rfl) (fun _ _ _ h => h) (Or.inl ⟨by rfl, ?_⟩) hHeld ?_
                rotate_left
                · intro u hSw
                  go_simp
                  try with_reducible rfl
                try simp only [Act.put, List.setIfInBounds_toArray, List.set_cons_zero, List.set_cons_succ]
                refine wpAnyH_take (i := 5) (oi := { dst := some 45, op := Op.move (Operand.tmp 10), type := 3, pos := "ref.go:94", after := #[], guard := none }) (v := ?_) rfl (by kernel_rfl) (by kernel_rfl) (by kernel_rfl) (fun _ _ _ h => h) (Or.inl ⟨by rfl, ?_⟩) hHeld ?_
                rotate_left
                · intro u hSw
                  go_simp
                  try with_reducible rfl
                try simp only [Act.put, List.setIfInBounds_toArray, List.set_cons_zero, List.set_cons_succ]
                refine wpAnyH_take (i := 6) (oi := { dst := some 46, op := Op.slice 9 (Operand.tmp 43) (some (Operand.tmp 44)) (some (Operand.tmp 45)) none, type := 9, pos := "ref.go:94", after := #[{ on := 3, ground := Ground.data }, { on := 4, ground := Ground.data }, { on := 5, ground := Ground.data }], guard := none }) (v := ?_) rfl (by kernel_rfl) (by kernel_rfl) (by kernel_rfl) (fun _ _ _ h => h) (Or.inl ⟨by rfl, ?_⟩) hHeld ?_
                rotate_left
                · intro u hSw
                  go_simp
                  try with_reducible rfl
                try simp only [Act.put, List.setIfInBounds_toArray, List.set_cons_zero, List.set_cons_succ]
                refine wpAnyH_ready (rs := [2]) (by kernel_rfl) (by simp) ?_
                refine AllReadyH.cons (o := { dst := some 42, op := Op.call { callee := Callee.value (Operand.func 40), args := #[Operand.tmp 40, Operand.tmp 41], argTypes := #[3, 3] }, type := 9, pos := "ref.go:94", after := #[{ on := 0, ground := Ground.data }, { on := 1, ground := Ground.data }], guard := none }) rfl (fun K hK => ?_) AllReadyH.nil
                go_simp
                refine Calls.mono (rname_F k q _ (by omega) (by omega)) ?_
                rintro e w6 ⟨rfl, hb6⟩
                have HB6 : Hid (Below wr.heap.size wr w6) := Below.trans ((Below.refl _ wr).drew) hb6
                clear hb6
                go_wp2_with fail
                refine hK.out _ _ ?_ (fun hHeld => ?_)
                · exact HB6.out
                clear hK K
                try simp only [Act.put, List.setIfInBounds_toArray, List.set_cons_zero, List.set_cons_succ]
                refine wpAnyH_take (i := 7) (oi := { dst := some 47, op := Op.binOp BinOp.eql 9 (Operand.tmp 42) (Operand.tmp 46) 9, type := 4, pos := "ref.go:94", after := #[{ on := 2, ground := Ground.data }, { on := 6, ground := Ground.data }], guard := none }) (v := ?_) rfl (by kernel_rfl) (by kernel_rfl) (by kernel_rfl) (fun _ _ _ h => h) (Or.inl ⟨by rfl, ?_⟩) hHeld ?_
                rotate_left
                · intro u hSw
                  go_simp
                  try with_reducible rfl
                try simp only [Act.put, List.setIfInBounds_toArray, List.set_cons_zero, List.set_cons_succ]
                refine wpAnyH_take (i := 8) (oi := { dst := some 48, op := Op.move (Operand.tmp 47), type := 4, pos := "ref.go:94", after := #[{ on := 7, ground := Ground.data }, { on := 2, ground := Ground.chain }], guard := none }) (v := ?_) rfl (by kernel_rfl) (by kernel_rfl) (by kernel_rfl) (fun _ _ _ h => h) (Or.inl ⟨by rfl, ?_⟩) hHeld ?_
                rotate_left
                · intro u hSw
                  go_simp
                  try with_reducible rfl
                try simp only [Act.put, List.setIfInBounds_toArray, List.set_cons_zero, List.set_cons_succ]
                refine wpAnyH_take (i := 9) (oi := { dst := some 49, op := Op.move (Operand.tmp 8), type := 22, pos := "ref.go:94", after := #[{ on := 8, ground := Ground.guard }], guard := some (8, true) }) (v := ?_) rfl (by kernel_rfl) (by kernel_rfl) (by kernel_rfl) (fun _ _ _ h => h) (Or.inl ⟨by rfl, ?_⟩) hHeld ?_
                rotate_left
                · intro u hSw
                  go_simp
                  try with_reducible rfl
                try simp only [Act.put, List.setIfInBounds_toArray, List.set_cons_zero, List.set_cons_succ]
                refine wpAnyH_take (i := 10) (oi := { dst := some 50, op := Op.call { callee := Callee.builtin Builtin.len, args := #[Operand.tmp 49], argTypes := #[22] }, type := 3, pos := "ref.go:94", after := #[{ on := 9, ground := Ground.data }, { on := 8, ground := Ground.guard }], guard := some (8, true) }) (v := ?_) rfl (by kernel_rfl) (by kernel_rfl) (by kernel_rfl) (fun _ _ _ h => h) (Or.inl ⟨by rfl, ?_⟩) hHeld ?_
                rotate_left
                · intro u hSw
                  go_simp
                  try with_reducible rfl
                try simp only [Act.put, List.setIfInBounds_toArray, List.set_cons_zero, List.set_cons_succ]
                refine wpAnyH_take (i := 11) (oi := { dst := some 51, op := Op.binOp BinOp.eql 3 (Operand.tmp 50) (Operand.const (Value.int IntKind.i64 0)) 3, type := 4, pos := "ref.go:94", after := #[{ on := 10, ground := Ground.data }, { on := 8, ground := Ground.guard }], guard := some (8, true) }) (v := ?_) rfl (by kernel_rfl) (by kernel_rfl) (by kernel_rfl) (fun _ _ _ h => h) (Or.inl ⟨by rfl, ?_⟩) hHeld ?_
                rotate_left
                · intro u hSw
                  go_simp
                  try with_reducible rfl
                try simp only [Act.put, List.setIfInBounds_toArray, List.set_cons_zero, List.set_cons_succ]
                refine wpAnyH_take (i := 12) (oi := { dst := some 52, op := Op.move (Operand.tmp 51), type := 4, pos := "ref.go:94", after := #[{ on := 11, ground := Ground.data }, { on := 8, ground := Ground.chain }, { on := 8, ground := Ground.guard }], guard := some (8, true) }) (v := ?_) rfl (by kernel_rfl) (by kernel_rfl) (by kernel_rfl) (fun _ _ _ h => h) (Or.inl ⟨by rfl, ?_⟩) hHeld ?_
                rotate_left
                · intro u hSw
                  go_simp
                  try with_reducible rfl
                try simp only [Act.put, List.setIfInBounds_toArray, List.set_cons_zero, List.set_cons_succ]
                refine wpAnyH_take (i := 13) (oi := { dst := some 53, op := Op.move (Operand.tmp 8), type := 22, pos := "ref.go:94", after := #[{ on := 12, ground := Ground.guard }], guard := some (12, false) }) (v := ?_) rfl (by kernel_rfl) (by kernel_rfl) (by kernel_rfl) (fun _ _ _ h => h) (Or.inl ⟨by rfl, ?_⟩) hHeld ?_
                rotate_left
                · intro u hSw
                  go_simp
                  try with_reducible rfl
                try simp only [Act.put, List.setIfInBounds_toArray, List.set_cons_zero, List.set_cons_succ]
                refine wpAnyH_take (i := 14) (oi := { dst := some 54, op := Op.move (Operand.tmp 8), type := 22, pos := "ref.go:94", after := #[{ on := 12, ground := Ground.guard }], guard := some (12, false) }) (v := ?_) rfl (by kernel_rfl) (by kernel_rfl) (by kernel_rfl) (fun _ _ _ h => h) (Or.inl ⟨by rfl, ?_⟩) hHeld ?_
                rotate_left
                · intro u hSw
                  go_simp
                  try with_reducible rfl
                try simp only [Act.put, List.setIfInBounds_toArray, List.set_cons_zero, List.set_cons_succ]
                refine wpAnyH_take (i := 15) (oi := { dst := some 55, op := Op.call { callee := Callee.builtin Builtin.len, args := #[Operand.tmp 54], argTypes := #[22] }, type := 3, pos := "ref.go:94", after := #[{ on := 14, ground := Ground.data }, { on := 12, ground := Ground.guard }], guard := some (12, false) }) (v := ?_) rfl (by kernel_rfl) (by kernel_rfl) (by kernel_rfl) (fun _ _ _ h => h) (Or.inl ⟨by rfl, ?_⟩) hHeld ?_
                rotate_left
                · intro u hSw
                  go_simp
                  try with_reducible rfl
                try simp only [Act.put, List.setIfInBounds_toArray, List.set_cons_zero, List.set_cons_succ]
                refine wpAnyH_take (i := 16) (oi := { dst := some 56, op := Op.binOp BinOp.sub 3 (Operand.tmp 55) (Operand.const (Value.int IntKind.i64 1)) 3, type := 3, pos := "ref.go:94", after := #[{ on := 15, ground := Ground.data }, { on := 12, ground := Ground.guard }], guard := some (12, false) }) (v := ?_) rfl (by kernel_rfl) (by kernel_rfl) (by kernel_rfl) (fun _ _ _ h => h) (Or.inl ⟨by rfl, ?_⟩) hHeld ?_
                rotate_left
                · intro u hSw
                  go_simp
                  try with_reducible rfl
                try simp only [Act.put, List.setIfInBounds_toArray, List.set_cons_zero, List.set_cons_succ]
                refine wpAnyH_take (i := 17) (oi := { dst := some 57, op := Op.indexAddr 22 (Operand.tmp 53) (Operand.tmp 56), type := 0, pos := "ref.go:94", after := #[{ on := 13, ground := Ground.data }, { on := 16, ground := Ground.data }, { on := 12, ground := Ground.guard }], guard := some (12, false) }) (v := ?_) rfl (by kernel_rfl) (by kernel_rfl) (by kernel_rfl) (fun _ _ _ h => h) (Or.inl ⟨by rfl, ?_⟩) hHeld ?_
                rotate_left
                · intro u hSw
                  go_simp
                  try with_reducible rfl
                try simp only [Act.put, List.setIfInBounds_toArray, List.set_cons_zero, List.set_cons_succ]
                refine wpAnyH_take (i := 18) (oi := { dst := some 58, op := Op.load 3 (Operand.tmp 57), type := 3, pos := "ref.go:94", after := #[{ on := 17, ground := Ground.data }, { on := 12, ground := Ground.guard }], guard := some (12, false) }) (v := ?_) rfl (by kernel_rfl) (by kernel_rfl) (by kernel_rfl) (fun _ _ _ h => h) (Or.inl ⟨by rfl, ?_⟩) hHeld ?_
                rotate_left
                · intro u hSw
                  have c18 := cell_later hSw c4
                  go_simp
                  try with_reducible rfl
                try simp only [Act.put, List.setIfInBounds_toArray, List.set_cons_zero, List.set_cons_succ]
                refine wpAnyH_take (i := 19) (oi := { dst := some 59, op := Op.move (Operand.tmp 12), type := 3, pos := "ref.go:94", after := #[{ on := 12, ground := Ground.guard }], guard := some (12, false) }) (v := ?_) rfl (by kernel_rfl) (by kernel_rfl) (by kernel_rfl) (fun _ _ _ h => h) (Or.inl ⟨by rfl, ?_⟩) hHeld ?_
                rotate_left
                · intro u hSw
                  go_simp
                  try with_reducible rfl
                try simp only [Act.put, List.setIfInBounds_toArray, List.set_cons_zero, List.set_cons_succ]
                refine wpAnyH_take (i := 20) (oi := { dst := some 60, op := Op.binOp BinOp.lss 3 (Operand.tmp 58) (Operand.tmp 59) 3, type := 4, pos := "ref.go:94", after := #[{ on := 18, ground := Ground.data }, { on := 19, ground := Ground.data }, { on := 12, ground := Ground.guard }], guard := some (12, false) }) (v := ?_) rfl (by kernel_rfl) (by kernel_rfl) (by kernel_rfl) (fun _ _ _ h => h) (Or.inl ⟨by rfl, ?_⟩) hHeld ?_
                rotate_left
                · intro u hSw
                  go_simp
                  try with_reducible rfl
                try simp only [Act.put, List.setIfInBounds_toArray, List.set_cons_zero, List.set_cons_succ]
                refine wpAnyH_take (i := 21) (oi := { dst := some 61, op := Op.pick (Operand.tmp 52) (Operand.const (Value.bool true)) (Operand.tmp 60), type := 4, pos := "ref.go:94", after := #[{ on := 12, ground := Ground.data }, { on := 20, ground := Ground.data }, { on := 8, ground := Ground.guard }], guard := some (8, true) }) (v := ?_) rfl (by kernel_rfl) (by kernel_rfl) (by kernel_rfl) (fun _ _ _ h => h) (Or.inl ⟨by rfl, ?_⟩) hHeld ?_
                rotate_left
                · intro u hSw
                  go_simp
                  try with_reducible rfl
                try simp only [Act.put, List.setIfInBounds_toArray, List.set_cons_zero, List.set_cons_succ]
                refine wpAnyH_take (i := 22) (oi := { dst := some 62, op := Op.pick (Operand.tmp 48) (Operand.tmp 61) (Operand.const (Value.bool false)), type := 4, pos := "ref.go:94", after := #[{ on := 8, ground := Ground.data }, { on := 21, ground := Ground.data }], guard := none }) (v := ?_) rfl (by kernel_rfl) (by kernel_rfl) (by kernel_rfl) (fun _ _ _ h => h) (Or.inl ⟨by rfl, ?_⟩) hHeld ?_
                rotate_left
                · intro u hSw
                  go_simp
                  try with_reducible rfl
                try simp only [Act.put, List.setIfInBounds_toArray, List.set_cons_zero, List.set_cons_succ]
                refine wpAnyH_done (by kernel_rfl) ?_ _
                refine NoPanic.normal ?_
                have HBQ6 : Hid (Below wo.heap.size wo w6) := HBQ.out.trans (HB6.out.mono HBQ.out.size)
                have HBW6 : Hid (Below w.heap.size w w6) := HB.out.trans (HBQ6.out.mono HB.out.size)
                have ho7 := World.ownsRow.alloc (own_below HOM.out HBQ6.out) (.cells #[.int .i64 q] 3)
                obtain ⟨g2, cap2, w7, hrun, ho2, hgr, hor, hlt9⟩ := appendI (b := w6.heap.size) (c := 1) (x := (q : Int)) 22 ho7 (cellAt (heap_alloc_last w6 (.cells #[.int .i64 q] 3)) 0 _ rfl) (by have := HAL.out; omega) (by have := HBW6.out.size; simp; omega)
                have hb7 := below_own (HBW6.out.alloc HBW6.out.size (.cells #[.int .i64 q] 3)) ho7 hgr (by have := HBW6.out.size; simp; omega)
                have hv7 : (natJ8 acc).map (Value.int .i64) ++ [.int .i64 (q : Int)] = (natJ8 (acc ++ [q])).map (Value.int .i64) := by simp [natJ8]
                rw [hv7] at ho2
                have HRun : Hid _ := hrun
                have HO2 : Hid (w7.ownsRow w.heap.size 3 1 (.slice (some ⟨g2, 0, none⟩) (m + 1 + 1) cap2) (m + 1 + 1) ((natJ8 (acc ++ [q])).map (Value.int .i64))) := ho2
                have HB7 : Hid _ := hb7
                clear he ho7 hrun ho2 hgr hor hlt9 hb7 hv7
                go_wp2_with (at_builtin; refine wpList_append_run rfl _ _ 22 rfl _ _ _ _ rfl rfl HRun.out ?_)
                exact ⟨⟨SB.size + 1, SB.size + 1, acc ++ [q], by omega, Nat.le_refl _, by go_num, by go_num, HSTP.out, ⟨some ⟨g2, 0, none⟩, cap2, by rw [List.length_append, HM.out]; rfl⟩, HB7.out, by rw [List.length_append, HM.out]; exact HO2.out⟩, by simp [intOf] <;> omega⟩
              · have HLAST : Hid (¬ (acc = [] ∨ acc.getD (acc.length - 1) 0 < q)) := fun h => h.elim h0 (fun h => hlt9 (by rw [HM.out, Nat.add_sub_cancel] at h; rw [HY.out]; exact h))
                clear hnm
                go_upto_region 13 with fail
                refine wp_region_noPanic ?_
                refine wp_region_held_drew (S := fun u => Below wr.heap.size wr u) (by kernel_rfl) ?_ (fun hHeld => ?_)
                · exact (Below.refl _ wr).drew
                refine wpAnyH_take (i := 0) (oi := { dst := some 40, op := Op.move (Operand.tmp 0), type := 3, pos := "ref.go:94", after := #[], guard := none }) (v := ?_) rfl (by kernel_rfl) (by kernel_rfl) (by kernel_rfl) (fun _ _ _ h => h) (Or.inl ⟨by rfl, ?_⟩) hHeld ?_
                rotate_left
                · intro u hSw
                  go_simp
                  try with_reducible rfl
                try simp only [Act.put, List.setIfInBounds_toArray, List.set_cons_zero, List.set_cons_succ]
                refine wpAnyH_take (i := 1) (oi := { dst := some 41, op := Op.move (Operand.tmp 12), type := 3, pos := "ref.go:94", after := #[], guard := none }) (v := ?_) rfl (by kernel_rfl) (by kernel_rfl) (by kernel_rfl) (fun _ _ _ h => h) (Or.inl ⟨by rfl, ?_⟩) hHeld ?_
                rotate_left
                · intro u hSw
                  go_simp
                  try with_reducible rfl
                try simp only [Act.put, List.setIfInBounds_toArray, List.set_cons_zero, List.set_cons_succ]
                refine wpAnyH_take (i := 3) (oi := { dst := some 43, op := Op.move (Operand.tmp 2), type := 9, pos := "ref.go:94", after := #[], guard := none }) (v := ?_) rfl (by kernel_rfl) (by kernel_rfl) (by kernel_rfl) (fun _ _ _ h => h) (Or.inl ⟨by rfl, ?_⟩) hHeld ?_
                rotate_left
                · intro u hSw
                  go_simp
                  try with_reducible rfl
                try simp only [Act.put, List.setIfInBounds_toArray, List.set_cons_zero, List.set_cons_succ]
                refine wpAnyH_take (i := 4) (oi := { dst := some 44, op := Op.move (Operand.tmp 9), type := 3, pos := "ref.go:94", after := #[], guard := none }) (v := ?_) rfl (by kernel_rfl) (by kernel_rfl) (by kernel_rfl) (fun _ _ _ h => h) (Or.inl ⟨by rfl, ?_⟩) hHeld ?_
                rotate_left
                · intro u hSw
                  go_simp
                  try with_reducible rfl
                try simp only [Act.put, List.setIfInBounds_toArray, List.set_cons_zero, List.set_cons_succ]
                refine wpAnyH_take (i := 5) (oi := { dst := some 45, op := Op.move (Operand.tmp 10), type := 3, pos := "ref.go:94", after := #[], guard := none }) (v := ?_) rfl (by kernel_rfl) (by kernel_rfl) (by kernel_rfl) (fun _ _ _ h => h) (Or.inl ⟨by rfl, ?_⟩) hHeld ?_
                rotate_left
                · intro u hSw
                  go_simp
                  try with_reducible rfl
                try simp only [Act.put, List.setIfInBounds_toArray, List.set_cons_zero, List.set_cons_succ]
                refine wpAnyH_take (i := 6) (oi := { dst := some 46, op := Op.slice 9 (Operand.tmp 43) (some (Operand.tmp 44)) (some (Operand.tmp 45)) none, type := 9, pos := "ref.go:94", after := #[{ on := 3, ground := Ground.data }, { on := 4, ground := Ground.data }, { on := 5, ground := Ground.data }], guard := none }) (v := ?_) rfl (by kernel_rfl) (by kernel_rfl) (by kernel_rfl) (fun _ _ _ h => h) (Or.inl ⟨by rfl, ?_⟩) hHeld ?_
                rotate_left
                · intro u hSw
                  go_simp
                  try with_reducible rfl
                try simp only [Act.put, List.setIfInBounds_toArray, List.set_cons_zero, List.set_cons_succ]
                refine wpAnyH_ready (rs := [2]) (by kernel_rfl) (by simp) ?_
                refine AllReadyH.cons (o := { dst := some 42, op := Op.call { callee := Callee.value (Operand.func 40), args := #[Operand.tmp 40, Operand.tmp 41], argTypes := #[3, 3] }, type := 9, pos := "ref.go:94", after := #[{ on := 0, ground := Ground.data }, { on := 1, ground := Ground.data }], guard := none }) rfl (fun K hK => ?_) AllReadyH.nil
                go_simp
                refine Calls.mono (rname_F k q _ (by omega) (by omega)) ?_
                rintro e w6 ⟨rfl, hb6⟩
                have HB6 : Hid (Below wr.heap.size wr w6) := Below.trans ((Below.refl _ wr).drew) hb6
                clear hb6
                go_wp2_with fail
                refine hK.out _ _ ?_ (fun hHeld => ?_)
                · exact HB6.out
                clear hK K
                try simp only [Act.put, List.setIfInBounds_toArray, List.set_cons_zero, List.set_cons_succ]
                refine wpAnyH_take (i := 7) (oi := { dst := some 47, op := Op.binOp BinOp.eql 9 (Operand.tmp 42) (Operand.tmp 46) 9, type := 4, pos := "ref.go:94", after := #[{ on := 2, ground := Ground.data }, { on := 6, ground := Ground.data }], guard := none }) (v := ?_) rfl (by kernel_rfl) (by kernel_rfl) (by kernel_rfl) (fun _ _ _ h => h) (Or.inl ⟨by rfl, ?_⟩) hHeld ?_
                rotate_left
                · intro u hSw
                  go_simp
                  try with_reducible rfl
                try simp only [Act.put, List.setIfInBounds_toArray, List.set_cons_zero, List.set_cons_succ]
                refine wpAnyH_take (i := 8) (oi := { dst := some 48, op := Op.move (Operand.tmp 47), type := 4, pos := "ref.go:94", after := #[{ on := 7, ground := Ground.data }, { on := 2, ground := Ground.chain }], guard := none }) (v := ?_) rfl (by kernel_rfl) (by kernel_rfl) (by kernel_rfl) (fun _ _ _ h => h) (Or.inl ⟨by rfl, ?_⟩) hHeld ?_
                rotate_left
                · intro u hSw
                  go_simp
                  try with_reducible rfl
                try simp only [Act.put, List.setIfInBounds_toArray, List.set_cons_zero, List.set_cons_succ]
                refine wpAnyH_take (i := 9) (oi := { dst := some 49, op := Op.move (Operand.tmp 8), type := 22, pos := "ref.go:94", after := #[{ on := 8, ground := Ground.guard }], guard := some (8, true) }) (v := ?_) rfl (by kernel_rfl) (by kernel_rfl) (by kernel_rfl) (fun _ _ _ h => h) (Or.inl ⟨by rfl, ?_⟩) hHeld ?_
                rotate_left
                · intro u hSw
                  go_simp
                  try with_reducible rfl
                try simp only [Act.put, List.setIfInBounds_toArray, List.set_cons_zero, List.set_cons_succ]
                refine wpAnyH_take (i := 10) (oi := { dst := some 50, op := Op.call { callee := Callee.builtin Builtin.len, args := #[Operand.tmp 49], argTypes := #[22] }, type := 3, pos := "ref.go:94", after := #[{ on := 9, ground := Ground.data }, { on := 8, ground := Ground.guard }], guard := some (8, true) }) (v := ?_) rfl (by kernel_rfl) (by kernel_rfl) (by kernel_rfl) (fun _ _ _ h => h) (Or.inl ⟨by rfl, ?_⟩) hHeld ?_
                rotate_left
                · intro u hSw
                  go_simp
                  try with_reducible rfl
                try simp only [Act.put, List.setIfInBounds_toArray, List.set_cons_zero, List.set_cons_succ]
                refine wpAnyH_take (i := 11) (oi := { dst := some 51, op := Op.binOp BinOp.eql 3 (Operand.tmp 50) (Operand.const (Value.int IntKind.i64 0)) 3, type := 4, pos := "ref.go:94", after := #[{ on := 10, ground := Ground.data }, { on := 8, ground := Ground.guard }], guard := some (8, true) }) (v := ?_) rfl (by kernel_rfl) (by kernel_rfl) (by kernel_rfl) (fun _ _ _ h => h) (Or.inl ⟨by rfl, ?_⟩) hHeld ?_
                rotate_left
                · intro u hSw
                  go_simp
                  try with_reducible rfl
                try simp only [Act.put, List.setIfInBounds_toArray, List.set_cons_zero, List.set_cons_succ]
                refine wpAnyH_take (i := 12) (oi := { dst := some 52, op := Op.move (Operand.tmp 51), type := 4, pos := "ref.go:94", after := #[{ on := 11, ground := Ground.data }, { on := 8, ground := Ground.chain }, { on := 8, ground := Ground.guard }], guard := some (8, true) }) (v := ?_) rfl (by kernel_rfl) (by kernel_rfl) (by kernel_rfl) (fun _ _ _ h => h) (Or.inl ⟨by rfl, ?_⟩) hHeld ?_
                rotate_left
                · intro u hSw
                  go_simp
                  try with_reducible rfl
                try simp only [Act.put, List.setIfInBounds_toArray, List.set_cons_zero, List.set_cons_succ]
                refine wpAnyH_take (i := 13) (oi := { dst := some 53, op := Op.move (Operand.tmp 8), type := 22, pos := "ref.go:94", after := #[{ on := 12, ground := Ground.guard }], guard := some (12, false) }) (v := ?_) rfl (by kernel_rfl) (by kernel_rfl) (by kernel_rfl) (fun _ _ _ h => h) (Or.inl ⟨by rfl, ?_⟩) hHeld ?_
                rotate_left
                · intro u hSw
                  go_simp
                  try with_reducible rfl
                try simp only [Act.put, List.setIfInBounds_toArray, List.set_cons_zero, List.set_cons_succ]
                refine wpAnyH_take (i := 14) (oi := { dst := some 54, op := Op.move (Operand.tmp 8), type := 22, pos := "ref.go:94", after := #[{ on := 12, ground := Ground.guard }], guard := some (12, false) }) (v := ?_) rfl (by kernel_rfl) (by kernel_rfl) (by kernel_rfl) (fun _ _ _ h => h) (Or.inl ⟨by rfl, ?_⟩) hHeld ?_
                rotate_left
                · intro u hSw
                  go_simp
                  try with_reducible rfl
                try simp only [Act.put, List.setIfInBounds_toArray, List.set_cons_zero, List.set_cons_succ]
                refine wpAnyH_take (i := 15) (oi := { dst := some 55, op := Op.call { callee := Callee.builtin Builtin.len, args := #[Operand.tmp 54], argTypes := #[22] }, type := 3, pos := "ref.go:94", after := #[{ on := 14, ground := Ground.data }, { on := 12, ground := Ground.guard }], guard := some (12, false) }) (v := ?_) rfl (by kernel_rfl) (by kernel_rfl) (by kernel_rfl) (fun _ _ _ h => h) (Or.inl ⟨by rfl, ?_⟩) hHeld ?_
                rotate_left
                · intro u hSw
                  go_simp
                  try with_reducible rfl
                try simp only [Act.put, List.setIfInBounds_toArray, List.set_cons_zero, List.set_cons_succ]
                refine wpAnyH_take (i := 16) (oi := { dst := some 56, op := Op.binOp BinOp.sub 3 (Operand.tmp 55) (Operand.const (Value.int IntKind.i64 1)) 3, type := 3, pos := "ref.go:94", after := #[{ on := 15, ground := Ground.data }, { on := 12, ground := Ground.guard }], guard := some (12, false) }) (v := ?_) rfl (by kernel_rfl) (by kernel_rfl) (by kernel_rfl) (fun _ _ _ h => h) (Or.inl ⟨by rfl, ?_⟩) hHeld ?_
                rotate_left
                · intro u hSw
                  go_simp
                  try with_reducible rfl
                try simp only [Act.put, List.setIfInBounds_toArray, List.set_cons_zero, List.set_cons_succ]
                refine wpAnyH_take (i := 17) (oi := { dst := some 57, op := Op.indexAddr 22 (Operand.tmp 53) (Operand.tmp 56), type := 0, pos := "ref.go:94", after := #[{ on := 13, ground := Ground.data }, { on := 16, ground := Ground.data }, { on := 12, ground := Ground.guard }], guard := some (12, false) }) (v := ?_) rfl (by kernel_rfl) (by kernel_rfl) (by kernel_rfl) (fun _ _ _ h => h) (Or.inl ⟨by rfl, ?_⟩) hHeld ?_
                rotate_left
                · intro u hSw
                  go_simp
                  try with_reducible rfl
                try simp only [Act.put, List.setIfInBounds_toArray, List.set_cons_zero, List.set_cons_succ]
                refine wpAnyH_take (i := 18) (oi := { dst := some 58, op := Op.load 3 (Operand.tmp 57), type := 3, pos := "ref.go:94", after := #[{ on := 17, ground := Ground.data }, { on := 12, ground := Ground.guard }], guard := some (12, false) }) (v := ?_) rfl (by kernel_rfl) (by kernel_rfl) (by kernel_rfl) (fun _ _ _ h => h) (Or.inl ⟨by rfl, ?_⟩) hHeld ?_
                rotate_left
                · intro u hSw
                  have c18 := cell_later hSw c4
                  go_simp
                  try with_reducible rfl
                try simp only [Act.put, List.setIfInBounds_toArray, List.set_cons_zero, List.set_cons_succ]
                refine wpAnyH_take (i := 19) (oi := { dst := some 59, op := Op.move (Operand.tmp 12), type := 3, pos := "ref.go:94", after := #[{ on := 12, ground := Ground.guard }], guard := some (12, false) }) (v := ?_) rfl (by kernel_rfl) (by kernel_rfl) (by kernel_rfl) (fun _ _ _ h => h) (Or.inl ⟨by rfl, ?_⟩) hHeld ?_
                rotate_left
                · intro u hSw
                  go_simp
                  try with_reducible rfl
                try simp only [Act.put, List.setIfInBounds_toArray, List.set_cons_zero, List.set_cons_succ]
                refine wpAnyH_take (i := 20) (oi := { dst := some 60, op := Op.binOp BinOp.lss 3 (Operand.tmp 58) (Operand.tmp 59) 3, type := 4, pos := "ref.go:94", after := #[{ on := 18, ground := Ground.data }, { on := 19, ground := Ground.data }, { on := 12, ground := Ground.guard }], guard := some (12, false) }) (v := ?_) rfl (by kernel_rfl) (by kernel_rfl) (by kernel_rfl) (fun _ _ _ h => h) (Or.inl ⟨by rfl, ?_⟩) hHeld ?_
                rotate_left
                · intro u hSw
                  go_simp
                  try with_reducible rfl
                try simp only [Act.put, List.setIfInBounds_toArray, List.set_cons_zero, List.set_cons_succ]
                refine wpAnyH_take (i := 21) (oi := { dst := some 61, op := Op.pick (Operand.tmp 52) (Operand.const (Value.bool true)) (Operand.tmp 60), type := 4, pos := "ref.go:94", after := #[{ on := 12, ground := Ground.data }, { on := 20, ground := Ground.data }, { on := 8, ground := Ground.guard }], guard := some (8, true) }) (v := ?_) rfl (by kernel_rfl) (by kernel_rfl) (by kernel_rfl) (fun _ _ _ h => h) (Or.inl ⟨by rfl, ?_⟩) hHeld ?_
                rotate_left
                · intro u hSw
                  go_simp
                  try with_reducible rfl
                try simp only [Act.put, List.setIfInBounds_toArray, List.set_cons_zero, List.set_cons_succ]
                refine wpAnyH_take (i := 22) (oi := { dst := some 62, op := Op.pick (Operand.tmp 48) (Operand.tmp 61) (Operand.const (Value.bool false)), type := 4, pos := "ref.go:94", after := #[{ on := 8, ground := Ground.data }, { on := 21, ground := Ground.data }], guard := none }) (v := ?_) rfl (by kernel_rfl) (by kernel_rfl) (by kernel_rfl) (fun _ _ _ h => h) (Or.inl ⟨by rfl, ?_⟩) hHeld ?_
                rotate_left
                · intro u hSw
                  go_simp
                  try with_reducible rfl
                try simp only [Act.put, List.setIfInBounds_toArray, List.set_cons_zero, List.set_cons_succ]
                refine wpAnyH_done (by kernel_rfl) ?_ _
                refine NoPanic.normal ?_
                have HBQ6 : Hid _ := HBQ.out.trans (HB6.out.mono HBQ.out.size)
                clear he
                go_wp2
                have h9 := nxt8 HNQ.out (fun h => HLAST.out h.2)
                exact ⟨⟨q + 1, by omega, by go_num, by first | rfl | rw [HM.out] | trivial, by first | rfl | trivial, HBQ6.out, by first | exact h9 | (rw [HM.out] at h9; exact h9)⟩, by simp [intOf]; omega⟩
          · have he : ((strB (nameB k q)).toList == (SB.extract fr SB.size).toList) = false := by rw [HPX.out]; exact strB_ne hnm
            have HNM : Hid (¬ nameB k q = p) := hnm
            clear hnm
            go_upto_region 13 with fail
            refine wp_region_noPanic ?_
            refine wp_region_held_drew (S := fun u => Below wr.heap.size wr u) (by kernel_rfl) ?_ (fun hHeld => ?_)
            · exact (Below.refl _ wr).drew
            refine wpAnyH_take (i := 0) (oi := { dst := some 40, op := Op.move (Operand.tmp 0), type := 3, pos := "ref.go:94", after := #[], guard := none }) (v := ?_) rfl (by kernel_rfl) (by kernel_rfl) (by kernel_rfl) (fun _ _ _ h => h) (Or.inl ⟨by rfl, ?_⟩) hHeld ?_
            rotate_left
            · intro u hSw
              go_simp
              try with_reducible rfl
            try simp only [Act.put, List.setIfInBounds_toArray, List.set_cons_zero, List.set_cons_succ]
            refine wpAnyH_take (i := 1) (oi := { dst := some 41, op := Op.move (Operand.tmp 12), type := 3, pos := "ref.go:94", after := #[], guard := none }) (v := ?_) rfl (by kernel_rfl) (by kernel_rfl) (by kernel_rfl) (fun _ _ _ h => h) (Or.inl ⟨by rfl, ?_⟩) hHeld ?_
            rotate_left
            · intro u hSw
              go_simp
              try with_reducible rfl
            try simp only [Act.put, List.setIfInBounds_toArray, List.set_cons_zero, List.set_cons_succ]
            refine wpAnyH_take (i := 3) (oi := { dst := some 43, op := Op.move (Operand.tmp 2), type := 9, pos := "ref.go:94", after := #[], guard := none }) (v := ?_) rfl (by kernel_rfl) (by kernel_rfl) (by kernel_rfl) (fun _ _ _ h => h) (Or.inl ⟨by rfl, ?_⟩) hHeld ?_
            rotate_left
            · intro u hSw
              go_simp
              try with_reducible rfl
            try simp only [Act.put, List.setIfInBounds_toArray, List.set_cons_zero, List.set_cons_succ]
            refine wpAnyH_take (i := 4) (oi := { dst := some 44, op := Op.move (Operand.tmp 9), type := 3, pos := "ref.go:94", after := #[], guard := none }) (v := ?_) rfl (by kernel_rfl) (by kernel_rfl) (by kernel_rfl) (fun _ _ _ h => h) (Or.inl ⟨by rfl, ?_⟩) hHeld ?_
            rotate_left
            · intro u hSw
              go_simp
              try with_reducible rfl
            try simp only [Act.put, List.setIfInBounds_toArray, List.set_cons_zero, List.set_cons_succ]
            refine wpAnyH_take (i := 5) (oi := { dst := some 45, op := Op.move (Operand.tmp 10), type := 3, pos := "ref.go:94", after := #[], guard := none }) (v := ?_) rfl (by kernel_rfl) (by kernel_rfl) (by kernel_rfl) (fun _ _ _ h => h) (Or.inl ⟨by rfl, ?_⟩) hHeld ?_
            rotate_left
            · intro u hSw
              go_simp
              try with_reducible rfl
            try simp only [Act.put, List.setIfInBounds_toArray, List.set_cons_zero, List.set_cons_succ]
            refine wpAnyH_take (i := 6) (oi := { dst := some 46, op := Op.slice 9 (Operand.tmp 43) (some (Operand.tmp 44)) (some (Operand.tmp 45)) none, type := 9, pos := "ref.go:94", after := #[{ on := 3, ground := Ground.data }, { on := 4, ground := Ground.data }, { on := 5, ground := Ground.data }], guard := none }) (v := ?_) rfl (by kernel_rfl) (by kernel_rfl) (by kernel_rfl) (fun _ _ _ h => h) (Or.inl ⟨by rfl, ?_⟩) hHeld ?_
            rotate_left
            · intro u hSw
              go_simp
              try with_reducible rfl
            try simp only [Act.put, List.setIfInBounds_toArray, List.set_cons_zero, List.set_cons_succ]
            refine wpAnyH_ready (rs := [2]) (by kernel_rfl) (by simp) ?_
            refine AllReadyH.cons (o := { dst := some 42, op := Op.call { callee := Callee.value (Operand.func 40), args := #[Operand.tmp 40, Operand.tmp 41], argTypes := #[3, 3] }, type := 9, pos := "ref.go:94", after := #[{ on := 0, ground := Ground.data }, { on := 1, ground := Ground.data }], guard := none }) rfl (fun K hK => ?_) AllReadyH.nil
            go_simp
            refine Calls.mono (rname_F k q _ (by omega) (by omega)) ?_
            rintro e w6 ⟨rfl, hb6⟩
            have HB6 : Hid (Below wr.heap.size wr w6) := Below.trans ((Below.refl _ wr).drew) hb6
            clear hb6
            go_wp2_with fail
            refine hK.out _ _ ?_ (fun hHeld => ?_)
            · exact HB6.out
            clear hK K
            try simp only [Act.put, List.setIfInBounds_toArray, List.set_cons_zero, List.set_cons_succ]
            refine wpAnyH_take (i := 7) (oi := { dst := some 47, op := Op.binOp BinOp.eql 9 (Operand.tmp 42) (Operand.tmp 46) 9, type := 4, pos := "ref.go:94", after := #[{ on := 2, ground := Ground.data }, { on := 6, ground := Ground.data }], guard := none }) (v := ?_) rfl (by kernel_rfl) (by kernel_rfl) (by kernel_rfl) (fun _ _ _ h => h) (Or.inl ⟨by rfl, ?_⟩) hHeld ?_
            rotate_left
            · intro u hSw
              go_simp
              try with_reducible rfl
            try simp only [Act.put, List.setIfInBounds_toArray, List.set_cons_zero, List.set_cons_succ]
            refine wpAnyH_take (i := 8) (oi := { dst := some 48, op := Op.move (Operand.tmp 47), type := 4, pos := "ref.go:94", after := #[{ on := 7, ground := Ground.data }, { on := 2, ground := Ground.chain }], guard := none }) (v := ?_) rfl (by kernel_rfl) (by kernel_rfl) (by kernel_rfl) (fun _ _ _ h => h) (Or.inl ⟨by rfl, ?_⟩) hHeld ?_
            rotate_left
            · intro u hSw
              go_simp
              try with_reducible rfl
            try simp only [Act.put, List.setIfInBounds_toArray, List.set_cons_zero, List.set_cons_succ]
            refine wpAnyH_take (i := 9) (oi := { dst := some 49, op := Op.move (Operand.tmp 8), type := 22, pos := "ref.go:94", after := #[{ on := 8, ground := Ground.guard }], guard := some (8, true) }) (v := undef) rfl (by kernel_rfl) (by kernel_rfl) (by kernel_rfl) (fun _ _ _ h => h) (Or.inr ⟨by rfl, rfl⟩) hHeld ?_
            try simp only [Act.put, List.setIfInBounds_toArray, List.set_cons_zero, List.set_cons_succ]
            refine wpAnyH_take (i := 10) (oi := { dst := some 50, op := Op.call { callee := Callee.builtin Builtin.len, args := #[Operand.tmp 49], argTypes := #[22] }, type := 3, pos := "ref.go:94", after := #[{ on := 9, ground := Ground.data }, { on := 8, ground := Ground.guard }], guard := some (8, true) }) (v := undef) rfl (by kernel_rfl) (by kernel_rfl) (by kernel_rfl) (fun _ _ _ h => h) (Or.inr ⟨by rfl, rfl⟩) hHeld ?_
            try simp only [Act.put, List.setIfInBounds_toArray, List.set_cons_zero, List.set_cons_succ]
            refine wpAnyH_take (i := 11) (oi := { dst := some 51, op := Op.binOp BinOp.eql 3 (Operand.tmp 50) (Operand.const (Value.int IntKind.i64 0)) 3, type := 4, pos := "ref.go:94", after := #[{ on := 10, ground := Ground.data }, { on := 8, ground := Ground.guard }], guard := some (8, true) }) (v := undef) rfl (by kernel_rfl) (by kernel_rfl) (by kernel_rfl) (fun _ _ _ h => h) (Or.inr ⟨by rfl, rfl⟩) hHeld ?_
            try simp only [Act.put, List.setIfInBounds_toArray, List.set_cons_zero, List.set_cons_succ]
            refine wpAnyH_take (i := 12) (oi := { dst := some 52, op := Op.move (Operand.tmp 51), type := 4, pos := "ref.go:94", after := #[{ on := 11, ground := Ground.data }, { on := 8, ground := Ground.chain }, { on := 8, ground := Ground.guard }], guard := some (8, true) }) (v := undef) rfl (by kernel_rfl) (by kernel_rfl) (by kernel_rfl) (fun _ _ _ h => h) (Or.inr ⟨by rfl, rfl⟩) hHeld ?_
            try simp only [Act.put, List.setIfInBounds_toArray, List.set_cons_zero, List.set_cons_succ]
            refine wpAnyH_take (i := 13) (oi := { dst := some 53, op := Op.move (Operand.tmp 8), type := 22, pos := "ref.go:94", after := #[{ on := 12, ground := Ground.guard }], guard := some (12, false) }) (v := undef) rfl (by kernel_rfl) (by kernel_rfl) (by kernel_rfl) (fun _ _ _ h => h) (Or.inr ⟨by rfl, rfl⟩) hHeld ?_
            try simp only [Act.put, List.setIfInBounds_toArray, List.set_cons_zero, List.set_cons_succ]
            refine wpAnyH_take (i := 14) (oi := { dst := some 54, op := Op.move (Operand.tmp 8), type := 22, pos := "ref.go:94", after := #[{ on := 12, ground := Ground.guard }], guard := some (12, false) }) (v := undef) rfl (by kernel_rfl) (by kernel_rfl) (by kernel_rfl) (fun _ _ _ h => h) (Or.inr ⟨by rfl, rfl⟩) hHeld ?_
            try simp only [Act.put, List.setIfInBounds_toArray, List.set_cons_zero, List.set_cons_succ]
            refine wpAnyH_take (i := 15) (oi := { dst := some 55, op := Op.call { callee := Callee.builtin Builtin.len, args := #[Operand.tmp 54], argTypes := #[22] }, type := 3, pos := "ref.go:94", after := #[{ on := 14, ground := Ground.data }, { on := 12, ground := Ground.guard }], guard := some (12, false) }) (v := undef) rfl (by kernel_rfl) (by kernel_rfl) (by kernel_rfl) (fun _ _ _ h => h) (Or.inr ⟨by rfl, rfl⟩) hHeld ?_
            try simp only [Act.put, List.setIfInBounds_toArray, List.set_cons_zero, List.set_cons_succ]
            refine wpAnyH_take (i := 16) (oi := { dst := some 56, op := Op.binOp BinOp.sub 3 (Operand.tmp 55) (Operand.const (Value.int IntKind.i64 1)) 3, type := 3, pos := "ref.go:94", after := #[{ on := 15, ground := Ground.data }, { on := 12, ground := Ground.guard }], guard := some (12, false) }) (v := undef) rfl (by kernel_rfl) (by kernel_rfl) (by kernel_rfl) (fun _ _ _ h => h) (Or.inr ⟨by rfl, rfl⟩) hHeld ?_
            try simp only [Act.put, List.setIfInBounds_toArray, List.set_cons_zero, List.set_cons_succ]
            refine wpAnyH_take (i := 17) (oi := { dst := some 57, op := Op.indexAddr 22 (Operand.tmp 53) (Operand.tmp 56), type := 0, pos := "ref.go:94", after := #[{ on := 13, ground := Ground.data }, { on := 16, ground := Ground.data }, { on := 12, ground := Ground.guard }], guard := some (12, false) }) (v := undef) rfl (by kernel_rfl) (by kernel_rfl) (by kernel_rfl) (fun _ _ _ h => h) (Or.inr ⟨by rfl, rfl⟩) hHeld ?_
            try simp only [Act.put, List.setIfInBounds_toArray, List.set_cons_zero, List.set_cons_succ]
            refine wpAnyH_take (i := 18) (oi := { dst := some 58, op := Op.load 3 (Operand.tmp 57), type := 3, pos := "ref.go:94", after := #[{ on := 17, ground := Ground.data }, { on := 12, ground := Ground.guard }], guard := some (12, false) }) (v := undef) rfl (by kernel_rfl) (by kernel_rfl) (by kernel_rfl) (fun _ _ _ h => h) (Or.inr ⟨by rfl, rfl⟩) hHeld ?_
            try simp only [Act.put, List.setIfInBounds_toArray, List.set_cons_zero, List.set_cons_succ]
            refine wpAnyH_take (i := 19) (oi := { dst := some 59, op := Op.move (Operand.tmp 12), type := 3, pos := "ref.go:94", after := #[{ on := 12, ground := Ground.guard }], guard := some (12, false) }) (v := undef) rfl (by kernel_rfl) (by kernel_rfl) (by kernel_rfl) (fun _ _ _ h => h) (Or.inr ⟨by rfl, rfl⟩) hHeld ?_
            try simp only [Act.put, List.setIfInBounds_toArray, List.set_cons_zero, List.set_cons_succ]
            refine wpAnyH_take (i := 20) (oi := { dst := some 60, op := Op.binOp BinOp.lss 3 (Operand.tmp 58) (Operand.tmp 59) 3, type := 4, pos := "ref.go:94", after := #[{ on := 18, ground := Ground.data }, { on := 19, ground := Ground.data }, { on := 12, ground := Ground.guard }], guard := some (12, false) }) (v := undef) rfl (by kernel_rfl) (by kernel_rfl) (by kernel_rfl) (fun _ _ _ h => h) (Or.inr ⟨by rfl, rfl⟩) hHeld ?_
            try simp only [Act.put, List.setIfInBounds_toArray, List.set_cons_zero, List.set_cons_succ]
            refine wpAnyH_take (i := 21) (oi := { dst := some 61, op := Op.pick (Operand.tmp 52) (Operand.const (Value.bool true)) (Operand.tmp 60), type := 4, pos := "ref.go:94", after := #[{ on := 12, ground := Ground.data }, { on := 20, ground := Ground.data }, { on := 8, ground := Ground.guard }], guard := some (8, true) }) (v := undef) rfl (by kernel_rfl) (by kernel_rfl) (by kernel_rfl) (fun _ _ _ h => h) (Or.inr ⟨by rfl, rfl⟩) hHeld ?_
            try simp only [Act.put, List.setIfInBounds_toArray, List.set_cons_zero, List.set_cons_succ]
            refine wpAnyH_take (i := 22) (oi := { dst := some 62, op := Op.pick (Operand.tmp 48) (Operand.tmp 61) (Operand.const (Value.bool false)), type := 4, pos := "ref.go:94", after := #[{ on := 8, ground := Ground.data }, { on := 21, ground := Ground.data }], guard := none }) (v := ?_) rfl (by kernel_rfl) (by kernel_rfl) (by kernel_rfl) (fun _ _ _ h => h) (Or.inl ⟨by rfl, ?_⟩) hHeld ?_
            rotate_left
            · intro u hSw
              go_simp
              try with_reducible rfl
            try simp only [Act.put, List.setIfInBounds_toArray, List.set_cons_zero, List.set_cons_succ]
            refine wpAnyH_done (by kernel_rfl) ?_ _
            refine NoPanic.normal ?_
            have HBQ6 : Hid _ := HBQ.out.trans (HB6.out.mono HBQ.out.size)
            clear he
            go_wp2
            exact ⟨⟨q + 1, by omega, by go_num, by first | rfl | trivial, by first | rfl | trivial, HBQ6.out, nxt8 HNQ.out (fun h => HNM.out h.1)⟩, by simp [intOf]; omega⟩
        · obtain rfl : q = n := by omega
          have HD : Hid _ := HNONE.out HNQ.out
          have HBW6 : Hid (Below w.heap.size w wr) := HB.out.trans (HBQ.out.mono HB.out.size)
          go_wp2
          go_ret2
          exact ⟨.inr ⟨HD.out, rfl⟩, HBW6.out⟩
end Go.Proofs.YtjmbpldkggbdlaaGreatDoor

/- The walk of DamageParses: at all numbers and texts. -/
namespace Go.Proofs.YtjmbpldkggbdlaaGreatDoor
open Go.RowKit Gf
set_option linter.unusedVariables false
set_option maxRecDepth 20000
set_option maxHeartbeats 8000000 in
theorem parses_bad (k r : Int) (t : List UInt8) (w : World) (E : Nat → Addr) (hE : ErrsG w E) (hk0 : -9223372036854775808 ≤ k) (hk1 : k ≤ 9223372036854775807) (hr0 : -9223372036854775808 ≤ r) (hr1 : r ≤ 9223372036854775807) (hL : ¬ LegalP k r) :
    Calls Tryz.prog 4 #[.int .i64 k, .int .i64 r, .string (strB t)] w fun e w' => e = .returned (.bool true) ∧ Below w.heap.size w w' := by
  have HE : Hid (ErrsG w E) := hE
  have HN : Hid (¬ LegalP k r) := hL
  clear hE hL
  go_enter Tryz.func4, Tryz.ntmps4
  go_wp2_with fail
  refine Calls.mono (alive8_ok w E HE.out) ?_
  rintro e w1 ⟨rfl, hb1⟩
  have HB1 : Hid _ := hb1
  clear hb1
  go_wp2_with fail
  refine Calls.mono (parse8_bad k r (strB t) _ (E 0) (errsG_below HE.out HB1.out).1.1 hk0 hk1 hr0 hr1 HN.out) ?_
  unfold errAt
  rintro e w2 ⟨rfl, hb2⟩
  have HB2 : Hid _ := HB1.out.trans (hb2.mono HB1.out.size)
  have e0 := (errsG_below HE.out HB2.out).1.1
  have eqs := fun u : World => eq_same u (E 0)
  unfold errAt at e0
  clear hb2
  go_wp2_with fail
  refine Calls.mono (legal_no k r _ hk0 hk1 hr0 hr1 HN.out) ?_
  rintro e w10 ⟨rfl, rfl⟩
  go_wp2
  go_ret
  exact ⟨rfl, HB2.out⟩
set_option maxHeartbeats 8000000 in
theorem parses_good (k r : Nat) (t : List UInt8) (w : World) (E : Nat → Addr) (hE : ErrsG w E) (h1 : 1 ≤ k) (h2 : 2 ≤ r) (h3 : k + r ≤ 16) (ht : t.length ≤ 140737488355328) :
    Calls Tryz.prog 4 #[.int .i64 k, .int .i64 r, .string (strB t)] w fun e w' => e = .returned (.bool true) ∧ Below w.heap.size w w' := by
  have HE : Hid (ErrsG w E) := hE
  have HT : Hid (t.length ≤ 140737488355328) := ht
  clear hE ht
  go_enter Tryz.func4, Tryz.ntmps4
  go_wp2_with fail
  refine Calls.mono (alive8_ok w E HE.out) ?_
  rintro e w1 ⟨rfl, hb1⟩
  have HB1 : Hid _ := hb1
  clear hb1
  go_wp2_with fail
  refine Calls.mono (parse8_F k r t _ E (errsG_below HE.out HB1.out).1 h1 h2 h3 HT.out) ?_
  rintro e w2 ⟨hc, hb2⟩
  have HB2 : Hid _ := HB1.out.trans (hb2.mono HB1.out.size)
  clear hb2
  cases hpc : parseC k (2 * (k + r)) t with
  | none =>
    have HPC : Hid (parseC k (2 * (k + r)) t = none) := hpc
    rcases hc with ⟨acc, a2, c2, hacc, _⟩ | ⟨_, rfl⟩
    · rw [HPC.out] at hacc; cases hacc
    have e3 := (errsG_below HE.out HB2.out).1.2
    have eqs := fun u : World => eq_same u (E 3)
    unfold errAt at e3 ⊢
    clear hpc
    go_wp2_with fail
    refine Calls.mono (legal_yes k r _ h1 h2 h3) ?_
    rintro e w10 ⟨rfl, rfl⟩
    clear e3
    go_wp2_with fail
    refine Calls.mono (rparse8_F k r t _ h1 h2 h3 HT.out) ?_
    rw [HPC.out]
    rintro e w4 ⟨(⟨acc, a2, c2, hacc, _⟩ | ⟨_, rfl⟩), hb4⟩
    · cases hacc
    have HB4 : Hid _ := HB2.out.trans (hb4.mono HB2.out.size)
    have e3 := (errsG_below HE.out HB4.out).1.2
    unfold errAt at e3
    clear hb4
    go_wp2
    go_ret
    exact ⟨rfl, HB4.out⟩
  | some acc =>
    have HPC : Hid (parseC k (2 * (k + r)) t = some acc) := hpc
    rcases hc with ⟨acc2, a2, c2, hacc, rfl, hlo⟩ | ⟨hn, _⟩
    rotate_left
    · rw [HPC.out] at hn; cases hn
    rw [HPC.out] at hacc
    cases hacc
    obtain ⟨hu, hr, htx⟩ := parseC_good hpc
    have hl32 : acc.length ≤ 32 := by have := pair_len hu hr; omega
    have HU : Hid _ := hu
    have HR : Hid (∀ x ∈ acc, x < 2 * (k + r)) := hr
    have HTX : Hid (textB k acc = t) := htx
    obtain ⟨a3, c3, e3, q1, q2, q3, hx3, q5⟩ := hlo
    cases e3
    have HX : Hid _ := hx3
    have HC : Hid (acc.length ≤ c2) := by first | exact q3 | exact q2 | exact q1
    have HJ : Hid (acc.length = (natJ8 acc).length) := (natJ8_len acc).symm
    have eqs : ((strB t).toList == (strB t).toList) = true := beq_self_eq_true _
    clear hpc hu hr htx hx3 q1 q2 q3 q5
    go_wp2_with fail
    refine Calls.mono (legal_yes k r _ h1 h2 h3) ?_
    rintro e w10 ⟨rfl, rfl⟩
    go_wp2_with fail
    refine Calls.mono (rparse8_F k r t _ h1 h2 h3 HT.out) ?_
    rw [HPC.out]
    rintro e w4 ⟨(⟨acc4, a4, c4, hacc, rfl, hlo⟩ | ⟨hn, _⟩), hb4⟩
    rotate_left
    · cases hn
    cases hacc
    have HB4 : Hid _ := HB2.out.trans (hb4.mono HB2.out.size)
    have HX4 : Hid _ := rowI_below HX.out hb4
    obtain ⟨a5, c5, e5, q1, q2, q3, hx5, q5⟩ := hlo
    cases e5
    have HY : Hid _ := hx5
    clear hb4 hx5 q1 q2 q3 q5
    go_wp2_with fail
    refine Calls.mono (text_legal k r acc.length c2 _ acc _ E (errsG_below HE.out HB4.out).1 h1 h2 h3 rfl HC.out HX4.out HU.out HR.out) ?_
    rw [HTX.out]
    rintro e w5 ⟨rfl, hb5⟩
    have HB5 : Hid _ := HB4.out.trans (hb5.mono HB4.out.size)
    have HX5 : Hid _ := rowI_below HX4.out hb5
    have HY5 : Hid _ := rowI_below HY.out hb5
    clear hb5
    go_wp2_with fail
    refine Calls.mono (sameInts_F _ _ acc.length _ acc.length _ (natJ8 acc) (natJ8 acc) _ HJ.out HJ.out (by omega) (by omega) HX5.out HY5.out) ?_
    rw [eqI_true]
    rintro e w6 ⟨rfl, hb6⟩
    have HB6 : Hid _ := HB5.out.trans (hb6.mono HB5.out.size)
    clear hb6
    go_wp2
    go_ret
    exact ⟨rfl, HB6.out⟩
theorem parses_all (k r : Int) (t : List UInt8) (w : World) (E : Nat → Addr) (hE : ErrsG w E) (hk0 : -9223372036854775808 ≤ k) (hk1 : k ≤ 9223372036854775807) (hr0 : -9223372036854775808 ≤ r) (hr1 : r ≤ 9223372036854775807) (ht : t.length ≤ 140737488355328) :
    Calls Tryz.prog 4 #[.int .i64 k, .int .i64 r, .string (strB t)] w fun e w' => e = .returned (.bool true) ∧ Below w.heap.size w w' := by
  by_cases hL : LegalP k r
  · obtain ⟨a1, b1, rfl, rfl, h1, h2, h3⟩ := legal_nat hL
    exact parses_good a1 b1 t w E hE h1 h2 h3 ht
  · exact parses_bad k r t w E hE hk0 hk1 hr0 hr1 hL
end Go.Proofs.YtjmbpldkggbdlaaGreatDoor

/- The errors' variables, by the rows' condition, where tables stand ahead of them and behind; nothing of the program is proved here. -/
namespace Go.Proofs.YtjmbpldkggbdlaaGreatDoor
open Go.RowKit Gf
set_option linter.unusedVariables false
set_option maxRecDepth 20000
theorem errs_of_laid_keep {W : World} {laid : List (String × DataW Unit)} {gs : List Nat} (keep : String × DataW Unit → Bool) (n m : Nat) (h : laidMetH Tryz.prog laid W) (he : laid.filter keep = (laid.drop n).take m) (hp : (laid.all fun x => x.2.handleName?.isNone) = true)
    (hn : ((laid.drop n).take m).map (fun x => Tryz.prog.globalNamed x.1) = gs.map some) (ht : ∀ g ∈ gs, (Tryz.prog.globals[g]?).map (·.type) = some 26) (hd : ∀ x ∈ (laid.drop n).take m, ∃ text, x.2 = errD text) : ∃ es, ErrsAt W gs es := by
  have hp2 : (((laid.drop n).take m).all fun x => x.2.handleName?.isNone) = true := List.all_eq_true.2 fun x hx => List.all_eq_true.1 hp x (List.mem_of_mem_drop (List.mem_of_mem_take hx))
  have h2 := h.filter keep
  rw [he] at h2
  exact errs_of_laid h2 hp2 hn ht hd
end Go.Proofs.YtjmbpldkggbdlaaGreatDoor

/- The law DamageParses holds: Parse of every text answers as the chapter says, and what is read is written as it was, at all numbers and texts; no condition but what the card ties. -/
namespace Go.Proofs.YtjmbpldkggbdlaaGreatDoor.damageParses
open Go.ChangeShapes Go.WideShapes Go.ChangeAt Go.RowKit
open Go.ChangeMaps (open_string shut_string)
open Gf
set_option linter.unusedVariables false
theorem errs {W : World} (h : laidMetH Tryz.prog Rows.damageParsesRow.laid W) : ∃ es, ErrsAt W gsDam es :=
  errs_of_laid_keep (fun x => ["tessera/api.ErrParams", "tessera/api.ErrShape", "tessera/api.ErrHalf", "tessera/api.ErrNumber"].contains x.1) 4 4 h (by kernel_rfl) (by kernel_rfl) (by kernel_rfl) (fun g hg => by
    have hall : (gsDam.all fun g => decide ((Tryz.prog.globals[g]?).map (·.type) = some 26)) = true := by kernel_rfl
    simpa using List.all_eq_true.1 hall g hg) (fun x hx => by
    simp only [Rows.damageParsesRow, List.drop, List.take, List.mem_cons, List.not_mem_nil, or_false] at hx
    rcases hx with rfl | rfl | rfl | rfl <;> exact ⟨_, rfl⟩)
set_option maxRecDepth 100000 in
theorem lifted (os : Os) (started : os.Started) (H : Type) (enc : TypeId × Value → H) :
    ReturnsInHanded {} Tryz.checked os 4 .any (fun w args => (Rows.damageParsesSpec.pre enc Tryz.prog Tryz.f4 Rows.damageParsesRow.domain false w args ∧ laidMetH Tryz.prog Rows.damageParsesRow.laid w) ∧ sizedMet enc Tryz.prog Tryz.f4 (OpenSpec.ofChange Rows.damageParsesSpec) false w args) (Rows.damageParsesSpec.post enc Tryz.prog Tryz.f4 false true false false) := by
  refine returnsInHanded_of_change_and (C := Tryz.checked) (X := fun w _ => laidMetH Tryz.prog Rows.damageParsesRow.laid w) (fun _ _ _ hh h => h.of_heap hh) own started (by kernel_rfl) Tryz.func4
    (ChangeSpec.witness_shaped (enc := enc) (C := Tryz.checked) (os := os) (X := fun w _ => laidMetH Tryz.prog Rows.damageParsesRow.laid w) false (World.laidAll Tryz.prog os Rows.damageParsesRow.laid) #[.int .i64 0, .int .i64 0, .string ⟨#[]⟩] 8 (World.laidAll_os _ _ _)
      (World.shaped_of_ZipB (by kernel_rfl) (by kernel_rfl)) (by kernel_rfl) (by kernel_rfl) (by kernel_rfl)
      (by rw [MakeChecks.laidMetH_plain _ _ _ (by kernel_rfl)]; exact laidMet_laidAll _ (by kernel_rfl) (by kernel_rfl))) ?_
  intro W base args ds gs before hval0 hW hcnd hsz0 hL _
  have hval : ∀ (j : Nat) t v, Tryz.f4.params[j]? = some t → args[j]? = some v → Value.okWide Tryz.prog W .any base t v := hval0
  have hsz : (DataW.weightsEach Tryz.prog (Tryz.f4.params.toList ++ Rows.damageParsesSpec.plain.varTypes Tryz.prog) (ds ++ gs)).all (· ≤ reachBytes) = true := hsz0
  have hW' := hW
  obtain ⟨p, q, hA0, hV, rfl, hfz, hnd⟩ := hW
  have hA : DataW.TrodAll enc Tryz.prog W 0 (fun _ => true) true Tryz.f4.params.toList args.toList ds p := hA0
  rw [Tryz.params4] at hA hval hsz
  obtain ⟨v0, vs0, d0, ds0, p0, q0, hargs, rfl, rfl, h0, r0⟩ := trodAll_cons hA
  obtain ⟨v1, vs1, d1, ds1, p1, q1, rfl, rfl, rfl, h1, r1⟩ := trodAll_cons r0
  obtain ⟨v2, vs2, d2, ds2, p2, q2, rfl, rfl, rfl, h2, r2⟩ := trodAll_cons r1
  obtain ⟨rfl, rfl, rfl⟩ := trodAll_nil r2
  obtain rfl : args = #[v0, v1, v2] := by cases args; simp_all
  obtain ⟨rfl, rfl⟩ := trodVars_none hV
  obtain ⟨es, hes⟩ := errs hL
  have k0 := h0
  have lt0 : ∀ x ∈ p0, x.block < W.heap.size := by obtain ⟨m, hm⟩ := k0; exact DataW.trod_lt m _ _ _ hm
  have k1 := h1
  have lt1 : ∀ x ∈ p1, x.block < W.heap.size := by obtain ⟨m, hm⟩ := k1; exact DataW.trod_lt m _ _ _ hm
  have k2 := h2
  have lt2 : ∀ x ∈ p2, x.block < W.heap.size := by obtain ⟨m, hm⟩ := k2; exact DataW.trod_lt m _ _ _ hm
  obtain ⟨x, rfl, rfl, rfl, wx⟩ := open_int Tryz.underlying3 (hval 0 3 v0 rfl rfl) h0
  obtain ⟨y, rfl, rfl, rfl, wy⟩ := open_int Tryz.underlying3 (hval 1 3 v1 rfl rfl) h1
  obtain ⟨bv, rfl, rfl, rfl, mv⟩ := open_string Tryz.underlying9 (hval 2 9 v2 rfl rfl) h2
  have btv : bv.data.toList.length ≤ 140737488351232 := sized_string hsz (j := 2) (t := 9) rfl rfl
  obtain ⟨tv, etv⟩ : ∃ t9, t9 = bv.data.toList := ⟨_, rfl⟩
  rw [← etv] at btv
  have ebv : bv = strB tv := by rw [etv]; exact small_ba bv bv.data.toList rfl
  clear etv
  subst ebv
  clear hA0 hval0
  refine (parses_all x y tv W (ofDam es) (errsG_of hes) (bounds_i64 wx).1 (bounds_i64 wx).2 (bounds_i64 wy).1 (bounds_i64 wy).2 (Nat.le_trans btv (by decide))).mono fun e W' ⟨he, bel⟩ => ?_
  subst he
  exact ⟨_, rfl, _, _, _, [], _, [], hW', trodAll_mk1 (shut_bool Tryz.underlying4 _), (trodAll_cons_mk (Below.trod laidOut (by kernel_rfl) (of_decide_eq_true (by kernel_rfl)) k0 bel lt0) (trodAll_cons_mk (Below.trod laidOut (by kernel_rfl) (of_decide_eq_true (by kernel_rfl)) k1 bel lt1) (trodAll_cons_mk (Below.trod laidOut (by kernel_rfl) (of_decide_eq_true (by kernel_rfl)) k2 bel lt2) trodAll_mk0))), rfl, bel.frame _, fun h => by cases h⟩

theorem over : Rows.damageParsesRow.holds Tryz.pinned (OpenSpec.ofChange Rows.damageParsesSpec) :=
  OpenClaim.holds_of_wide 4 Tryz.f4 rfl rfl rfl rfl rfl rfl rfl ⟨rfl, rfl, rfl, rfl, rfl⟩ rfl rfl rfl rfl rfl (by kernel_rfl) Tryz.func4 (by kernel_rfl)
    (of_decide_eq_true (by kernel_rfl)) (by unfold Func.isWrapper; first | (rw [if_pos (by decide +kernel)]; kernel_rfl) | (rw [if_neg (by decide +kernel)]; exact ⟨rfl, rfl⟩))
    (fun os started H enc _ => lifted os started H enc)

theorem proved : Rows.DamageParsesCardSaid :=
  Claim7.holds_tied_plain_at .later [] [.data, .data, .data, .data, .sentinel, .sentinel, .sentinel, .sentinel, .pinned] true (true, "5058b7e4062a64372cddf6dcb62c46ebcd46048e0b46b486fa9f484617f21b80") true over (fun _ h => by cases h) (by kernel_rfl) (fun _ h => by cases h) damageParses_row_tie rfl ⟨rfl, rfl⟩ (by kernel_rfl) rfl
    (fun f fn hf hfn => by
      obtain rfl : f = 4 := Option.some.inj ((show Tryz.prog.funcNamed "tessera/tesseralaw08.DamageParses" = some 4 by kernel_rfl).symm.trans hf) |>.symm
      obtain rfl : fn = Tryz.f4 := (Option.some.inj (Tryz.func4.symm.trans hfn)).symm
      exact ⟨by kernel_rfl, fun j t ht => by
        rw [Tryz.params4] at ht
        have hm : t ∈ [3, 3, 9] := by simpa using Array.mem_of_getElem? ht
        have hall : ([3, 3, 9].all fun u => !Tryz.prog.wantsStandIn u) = true := by kernel_rfl
        exact (show Tryz.prog.wantsStandIn t = false by simpa using List.all_eq_true.1 hall t hm)⟩)
    (by kernel_rfl)
#print axioms proved
end Go.Proofs.YtjmbpldkggbdlaaGreatDoor.damageParses
