/- The iterator of package base over the legal pairs: what it hands out, in its order, whatever the loop body does. -/
import Derived.RangeFuncNested
import Derived.RangeFuncBound
import Derived.RangeFuncCalls
import Derived.RangeFuncLeaves
import Derived.Shelf.Abstract
import Derived.Shelf.RegionOpen
import Derived.WalkKit
import Derived.OwnWalkIn
import Derived.TacticsInMore
import Derived.LoopNIn
import Derived.LoopIn
import Derived.Test.YtokepcikpkffpaaDoorGfLawsW
namespace Go.Proofs.YtokepcikpkffpaaDoor
open Go.RowKit Go.Shelf
set_option linter.unusedVariables false
set_option maxRecDepth 20000
attribute [local go_sem] Oper.semAt_some
/-- the pairs of one k, the first m of them -/
def pairRow (k : Int) (m : Nat) : List (Int × Int) := (List.range m).map fun (j : Nat) => (k, (j : Int) + 2)
theorem pairRow_succ (k : Int) (m : Nat) : pairRow k (m + 1) = pairRow k m ++ [(k, (m : Int) + 2)] := by simp [pairRow, List.range_succ]
/-- the pairs of the first n of all k -/
def pairsTo : Nat → List (Int × Int)
  | 0 => []
  | n + 1 => pairsTo n ++ pairRow ((n : Int) + 1) (14 - n)
/-- all legal pairs -/
def allPairs : List (Int × Int) := pairsTo 14
theorem pairsTo_pre : ∀ (m n : Nat), pairsTo n <+: pairsTo (n + m)
  | 0, n => List.prefix_refl _
  | m + 1, n => (pairsTo_pre m n).trans (List.prefix_append _ _)
theorem pairRow_pre (k : Int) : ∀ (d m : Nat), pairRow k m <+: pairRow k (m + d)
  | 0, m => List.prefix_refl _
  | d + 1, m => (pairRow_pre k d m).trans (by rw [← Nat.add_assoc, pairRow_succ]; exact List.prefix_append _ _)
theorem part_pre {k m : Nat} (hk : k < 14) (hm : m ≤ 14 - k) : pairsTo k ++ pairRow ((k : Int) + 1) m <+: allPairs := by
  have h1 : pairsTo (k + 1) <+: allPairs := by
    have := pairsTo_pre (14 - (k + 1)) (k + 1)
    rwa [show k + 1 + (14 - (k + 1)) = 14 by omega] at this
  have h2 := pairRow_pre ((k : Int) + 1) (14 - k - m) m
  rw [show m + (14 - k - m) = 14 - k by omega] at h2
  exact ((List.prefix_append_right_inj _).2 h2).trans h1
theorem allPairs_len : allPairs.length = 105 := by decide +kernel
theorem pre_len {xs : List (Int × Int)} (h : xs <+: allPairs) : xs.length ≤ 105 := by have := h.length_le; rwa [allPairs_len] at this
abbrev encP (p : Int × Int) : Array Value := #[.int .i64 p.1, .int .i64 p.2]
set_option maxHeartbeats 2000000 in
theorem all1_in (F : Fence) (n : Nat) (h6 : F.fn 32) (hro : F.round = none) (hn : 1 ≤ n) (l : Nat) (Kp : World → World → Prop) (J Jx : List (Int × Int) → World → Prop)
    (hY : ∀ pre x W, J pre W → pre.length < 105 → YieldAt F (n - 1) Tryd.prog l (encP x) W fun e W' =>
      (e = .returned (.bool true) ∧ J (pre ++ [x]) W' ∧ Kp W W') ∨ (e = .returned (.bool false) ∧ Jx (pre ++ [x]) W'))
    (W : World) (h0 : J [] W) :
    CallsIn F n Tryd.prog 32 #[.func (.yield l) #[] #[]] W fun e W' => (∃ v, e = .returned v) ∧
      ((∃ ys, ys = allPairs ∧ J ys W') ∨ (∃ pre, pre <+: allPairs ∧ Jx pre W')) := by
  refine callsIn_of_wp Tryd.func32 rfl h6 ?_ hro
  simp only [Tryd.ntmps32, List.size_toArray, List.length_cons, List.length_nil, Nat.reduceAdd, Nat.reduceSub, Array.replicate_succ, Array.replicate_zero, List.push_toArray, List.append_toArray, List.nil_append, List.cons_append]
  gi_wp2
  gi_loopw [2] (fun c wr => ∃ k : Nat, k ≤ 14 ∧ c = .int .i64 ((k : Int) + 1) ∧ J (pairsTo k) wr) (fun c _ => 15 - (intOf c).toNat)
  case atStart => exact ⟨0, by omega, rfl, h0⟩
  case round =>
    obtain ⟨k, hk, rfl, hJ⟩ := hrel
    by_cases hlt : k < 14
    · have hd : decide ((k : Int) + 1 ≤ 14) = true := by simp; omega
      gi_wp2
      gi_loopw [3] (fun c wr => ∃ m : Nat, m ≤ 14 - k ∧ c = .int .i64 ((m : Int) + 2) ∧ J (pairsTo k ++ pairRow ((k : Int) + 1) m) wr) (fun c _ => 17 - (intOf c).toNat)
      case atStart => exact ⟨0, by omega, rfl, by simpa [pairRow] using hJ⟩
      case round =>
        obtain ⟨m, hm, rfl, hJm⟩ := hrel
        by_cases hlm : m < 14 - k
        · obtain ⟨fn, tmps, assign, body, hy, hR⟩ := hY _ ((k : Int) + 1, (m : Int) + 2) wr hJm (by
            have h1 := pre_len (part_pre hlt (show m + 1 ≤ 14 - k by omega))
            rw [pairRow_succ] at h1
            simp at h1 ⊢; omega)
          dsimp only [encP] at hy
          gi_wp2
          refine hR.mono ?_
          rintro e W' (⟨rfl, hJ', _⟩ | ⟨rfl, hx⟩)
          · rw [List.append_assoc, ← pairRow_succ] at hJ'
            gi_wp2
            go_roundw
            case rel => exact ⟨m + 1, by omega, by go_num, hJ'⟩
            case measure => simp [intOf]; omega
          · rw [List.append_assoc, ← pairRow_succ] at hx
            gi_wp2
            refine bodyPost_ret (results_none rfl _ _ _) rfl ?_
            exact ⟨⟨_, rfl⟩, .inr ⟨_, part_pre hlt (by omega), hx⟩⟩
        · obtain rfl : m = 14 - k := by omega
          have hJ2 : J (pairsTo (k + 1)) wr := hJm
          have he : ¬ ((14 - k : Nat) : Int) + 2 ≤ 16 - ((k : Int) + 1) := by omega
          gi_wp2
          go_roundw
          case rel => exact ⟨k + 1, by omega, by go_num, hJ2⟩
          case measure => simp [intOf]; omega
    · obtain rfl : k = 14 := by omega
      gi_wp2
      go_end0
      exact ⟨⟨_, rfl⟩, .inl ⟨_, rfl, hJ⟩⟩
theorem all_stops (F : Fence) (n : Nat) (h6 : F.fn 32) (hro : F.round = none) (hn : 1 ≤ n) (w : World) :
    SeqStopsK F n Tryd.prog 32 #[] encP (fun _ _ => True) (fun ys => ys = allPairs) (fun pre => pre <+: allPairs) 105 w := fun l J Jx W _ _ _ hY h0 =>
  all1_in F n h6 hro hn l _ J Jx hY W h0
/-- the pair ahead of the i-th -/
def stP (i : Nat) : Int × Int := ((1, 1) :: allPairs).getD i (0, 0)
theorem stP_step : ∀ i < 105, (1 ≤ (stP i).1 ∧ (stP i).1 ≤ 14 ∧ 1 ≤ (stP i).2 ∧ (stP i).2 ≤ 15) ∧ (16 < (stP i).1 + ((stP i).2 + 1) → stP (i + 1) = ((stP i).1 + 1, 2)) ∧ ((stP i).1 + ((stP i).2 + 1) ≤ 16 → stP (i + 1) = ((stP i).1, (stP i).2 + 1)) := by decide +kernel
theorem stP_next {pre : List (Int × Int)} (h : pre <+: allPairs) (hl : pre.length < 105) : pre ++ [stP (pre.length + 1)] <+: allPairs ∧ ∀ x, x ≠ stP (pre.length + 1) → ¬ pre ++ [x] <+: allPairs := by
  obtain ⟨t, ht⟩ := h
  cases t with
  | nil =>
    have := congrArg List.length ht
    rw [allPairs_len, List.append_nil] at this
    omega
  | cons y t =>
    have e : stP (pre.length + 1) = y := by
      rw [stP, List.getD_cons_succ, ← ht]
      simp [List.getD]
    rw [e]
    refine ⟨⟨t, by rw [← ht]; simp⟩, fun x hx h2 => hx ?_⟩
    obtain ⟨s, hs⟩ := h2
    rw [← ht, List.append_assoc] at hs
    have := List.append_cancel_left hs
    simp at this
    exact this.1
/-- the marks of loops that are over -/
def Marks (b0 : Nat) (W : World) : List Deferred → Prop
  | [] => True
  | d :: ds => (∃ D, d = { target := .collected D, args := #[] } ∧ b0 ≤ D ∧ W.heap[D]? = some (.deferred (some [])) ∧ ∀ d' ∈ ds, d' ≠ d) ∧ Marks b0 W ds
theorem marks_kept {b0 : Nat} {W W' : World} : ∀ {ds : List Deferred}, (∀ (D : Nat), ({ target := .collected D, args := #[] } : Deferred) ∈ ds → W.heap[D]? = some (.deferred (some [])) → W'.heap[D]? = some (.deferred (some []))) → Marks b0 W ds → Marks b0 W' ds
  | [], _, _ => trivial
  | d :: ds, hk, ⟨⟨D, e, hb, hD, hne⟩, hm⟩ => ⟨⟨D, e, hb, hk D (by rw [e]; exact List.mem_cons_self ..) hD, hne⟩, marks_kept (fun D' h h2 => hk D' (List.mem_cons_of_mem _ h) h2) hm⟩
theorem marks_lt {b0 : Nat} {W : World} : ∀ {ds : List Deferred}, Marks b0 W ds → ∀ D, ({ target := .collected D, args := #[] } : Deferred) ∈ ds → D < W.heap.size
  | [], _, _, h => by cases h
  | d :: ds, ⟨⟨D, e, hb, hD, hne⟩, hm⟩, D', h => by
    rcases List.mem_cons.1 h with h | h
    · rw [e] at h
      cases h
      exact (Array.getElem?_eq_some_iff.1 hD).1
    · exact marks_lt hm D' h
theorem leaves_marks {F : Fence} {n : Nat} {P : Program} {fn : Func} {tmps : Array Value} {b0 rb : Nat} {w0 : World} {v : Value} {cs : Array Value} {t : TypeId} {fr : Nat × Nat}
    (hres : ∀ W', W'.heap[rb]? = some (.cells cs t fr) → (results fn tmps).run P W' = .ok v W') (hb0 : b0 = w0.heap.size) :
    ∀ (ds : List Deferred) (W : World), Marks b0 W ds → W.heap[rb]? = some (.cells cs t fr) → Below b0 w0 W → LeavesInM F n P fn tmps (fun e w' => e = .returned v ∧ Below b0 w0 w') ds .returning W
  | [], W, _, hr, hB => ⟨v, hres W hr, rfl, hB⟩
  | d :: ds, W, ⟨⟨D, e, hb, hD, hne⟩, hm⟩, hr, hB => by
    subst e
    have hDr : rb ≠ D := fun h => by rw [h, hD] at hr; cases hr
    refine ⟨by simp, .inl ⟨D, _, rfl, run_takeDeferred hD, ?_⟩⟩
    refine leaves_marks hres hb0 ds _ (marks_kept (fun D' h h2 => ?_) hm) ((World.putObj_heap_other hDr).trans hr) (hB.trans (belowK_b (w := w0) (Nat.le_of_eq hb0) W D _ _ ?_ hD rfl rfl))
    · exact (World.putObj_heap_other (fun h' => hne _ h (by rw [h']))).trans h2
    · omega
end Go.Proofs.YtokepcikpkffpaaDoor
