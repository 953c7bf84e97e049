/- What the document's own Busy answers, of all programs in form. -/
import Derived.Test.YtanmgpgiepkogaaDoorStepF
import Derived.Test.YtanmgpgiepkogaaDoorHolds
namespace Go.Proofs.YtanmgpgiepkogaaDoor
open Go.RowKit Gf
set_option linter.unusedVariables false
set_option maxRecDepth 20000
set_option linter.unusedSimpArgs false
def visB (bs : List Bool) : Array Value := (bs.map Value.bool).toArray
theorem visB_get {bs : List Bool} {j : Nat} {b : Bool} (h : bs[j]? = some b) : (visB bs)[j]? = some (.bool b) := by simp [visB, h]
theorem visB_set (bs : List Bool) (j : Nat) (b : Bool) : (visB bs).setIfInBounds j (.bool b) = visB (bs.set j b) := by
  apply Array.toList_inj.1
  simp [visB, List.map_set]
theorem infoB9 : ∃ i, Tryd.prog.info? 4 = some i ∧ i.size = 1 ∧ i.bytes = 1 ∧ i.zero = some (.bool false) := by
  have hi : (Tryd.prog.info? 4).map (fun i => (i.size, i.bytes, i.zero)) = some (1, 1, some (.bool false)) := by kernel_rfl
  cases hq : Tryd.prog.info? 4 with
  | none => simp [hq] at hi
  | some i =>
    simp only [hq, Option.map_some, Option.some.injEq, Prod.mk.injEq] at hi
    exact ⟨i, rfl, hi.1, hi.2.1, hi.2.2⟩
theorem run_makeB9 (n : Nat) (hn : n ≤ 17592186043904) (w : World) :
    (Instr.makeSlice 45 (.int .i64 (n : Int)) (.int .i64 (n : Int))).run Tryd.prog w = .ok (.slice (some ⟨w.heap.size, 0, none⟩) n n) (w.alloc (.cells (visB (List.replicate n false)) 4)) := by
  obtain ⟨i, hi, h1, h2, h3⟩ := infoB9
  have := run_make (P := Tryd.prog) w 45 4 i _ Tryd.underlying45 hi h3 .i64 .i64 n n (by omega) (by omega) (by rw [h2]; omega) (by omega)
  rw [this, h1]
  have e : madeCells (Value.bool false).cells (n * 1) = visB (List.replicate n false) := by
    apply Array.ext_getElem?
    intro k
    have hz : (Value.bool false).cells = #[.bool false] := by rfl
    rw [hz]
    by_cases h : k < n <;> simp [madeCells, visB, h, Nat.mod_one]
  simp only [Int.toNat_natCast, e]
/-- the answers so far, j steps being left -/
def outL (ss : List Stp) (j : Nat) : List Bool := List.replicate j false ++ bsyL (ss.drop j)
theorem outL_set {ss : List Stp} {p : Nat} {s : Stp} (h : ss[p]? = some s) : (outL ss (p + 1)).set p (bsyS s (liv (ss.drop (p + 1)))) = outL ss p := by
  have hp : p < ss.length := by
    rcases Nat.lt_or_ge p ss.length with h' | h'
    · exact h'
    · rw [List.getElem?_eq_none h'] at h; cases h
  have hs : ss[p] = s := by rw [List.getElem?_eq_getElem hp] at h; exact Option.some.inj h
  have hd : ss.drop p = s :: ss.drop (p + 1) := by rw [List.drop_eq_getElem_cons hp, hs]
  unfold outL
  rw [hd, bsyL, List.replicate_succ', List.append_assoc, List.set_append_right _ _ (by simp)]
  simp
theorem outL_at {ss : List Stp} {p j : Nat} (h : p < j) : (outL ss j)[p]? = some false := by
  rw [outL, List.getElem?_append_left (by simpa using h), List.getElem?_replicate, if_pos h]
theorem liv_drop {ss : List Stp} {p : Nat} {s : Stp} (h : ss[p]? = some s) : liv (ss.drop p) = if bsyS s (liv (ss.drop (p + 1))) = true then aftS s (liv (ss.drop (p + 1))) else liv (ss.drop (p + 1)) := by
  have hp : p < ss.length := by
    rcases Nat.lt_or_ge p ss.length with h' | h'
    · exact h'
    · rw [List.getElem?_eq_none h'] at h; cases h
  have hs : ss[p] = s := by rw [List.getElem?_eq_getElem hp] at h; exact Option.some.inj h
  rw [List.drop_eq_getElem_cons hp, hs, liv]
def askL (A : Int → Bool) : List Bool := (List.range 65).map fun (r : Nat) => A (r : Int)
theorem askL_get {A : Int → Bool} {q : Nat} (h : q < 65) : (askL A)[q]? = some (A q) := by simp [askL, h]
theorem askL_set {A : Int → Bool} {q : Nat} (v : Bool) (h : q < 65) : (askL A).set q v = askL (fun r => if r = q then v else A r) := by
  apply List.ext_getElem?
  intro i
  rw [List.getElem?_set]
  by_cases hi : i < 65
  · rw [askL_get hi]
    by_cases e : q = i
    · subst e; rw [if_pos rfl]; simp [askL, h]
    · have e2 : ¬ (i : Int) = (q : Int) := by omega
      rw [if_neg e, askL_get hi, if_neg e2]
  · have h1 : (askL A).length = 65 := by simp [askL]
    rw [List.getElem?_eq_none (by simp [askL]; omega), List.getElem?_eq_none (by simp [askL]; omega)]
    split
    · rw [if_neg (by rw [h1]; omega)]
    · rfl
theorem askL_nil : askL (liv []) = List.replicate 65 false := by
  show (List.range 65).map (fun _ => false) = _
  decide
set_option maxRecDepth 100000 in
set_option maxHeartbeats 16000000 in
theorem busy_F (ia oa sa : Option Addr) (il ic ol oc sl sc ni no : Nat) (rg : Int) (ss : List Stp) (w : World) (hsl : sl = ss.length) (hs9 : sl ≤ 4096) (hrg : rg ≤ 64) (hok : ∀ s ∈ ss, OkS ni no rg s) (hS : StpW w sa ss) :
    Calls Tryd.prog 18 #[.agg #[.slice ia il ic, .slice oa ol oc, .int .i64 rg, .slice sa sl sc]] w fun e w' => ∃ g, e = .returned (.slice (some ⟨g, 0, none⟩) sl sl) ∧ w.heap.size ≤ g ∧ w'.heap[g]? = some (.cells (visB (bsyL ss)) 4 (0, 0)) ∧ Below w.heap.size w w' := by
  have HSL : Hid (sl = ss.length) := hsl
  have HS : Hid (StpW w sa ss) := hS
  have HOK : Hid (∀ s ∈ ss, OkS ni no rg s) := hok
  have mk1 := fun u : World => run_makeB9 sl (by omega) u
  have mk2 : ∀ u : World, (Instr.makeSlice 45 (.int .i64 65) (.int .i64 65)).run Tryd.prog u = .ok (.slice (some ⟨u.heap.size, 0, none⟩) 65 65) (u.alloc (.cells (visB (List.replicate 65 false)) 4)) := fun u => run_makeB9 65 (by omega) u
  have HA : Holds ((((w.alloc (.cells #[.slice ia il ic, .slice oa ol oc, .int .i64 rg, .slice sa sl sc] 25)).alloc (.cells (visB (List.replicate sl false)) 4)).alloc (.cells (visB (List.replicate 65 false)) 4))) [(w.heap.size + 1 + 1, .cells (visB (List.replicate 65 false)) 4), (w.heap.size + 1, .cells (visB (List.replicate sl false)) 4), (w.heap.size, .cells #[.slice ia il ic, .slice oa ol oc, .int .i64 rg, .slice sa sl sc] 25)] := by
    have h := holds_new (holds_new (holds_new (holds_nil w) #[.slice ia il ic, .slice oa ol oc, .int .i64 rg, .slice sa sl sc] 25) (visB (List.replicate sl false)) 4) (visB (List.replicate 65 false)) 4
    simp only [World.size_alloc] at h
    exact h
  have HB0 : Hid (Below w.heap.size w (((w.alloc (.cells #[.slice ia il ic, .slice oa ol oc, .int .i64 rg, .slice sa sl sc] 25)).alloc (.cells (visB (List.replicate sl false)) 4)).alloc (.cells (visB (List.replicate 65 false)) 4))) := (((Below.refl _ w).alloc (Nat.le_refl _) _).alloc (by simp) _).alloc (by simp; omega) _
  have HA0 : Hid (Holds ((((w.alloc (.cells #[.slice ia il ic, .slice oa ol oc, .int .i64 rg, .slice sa sl sc] 25)).alloc (.cells (visB (List.replicate sl false)) 4)).alloc (.cells (visB (List.replicate 65 false)) 4))) [(w.heap.size + 1 + 1, .cells (visB (askL (liv (ss.drop sl)))) 4), (w.heap.size + 1, .cells (visB (outL ss sl)) 4), (w.heap.size, .cells #[.slice ia il ic, .slice oa ol oc, .int .i64 rg, .slice sa sl sc] 25)]) := by
    show Holds ..
    rw [hsl, List.drop_length, askL_nil, outL, List.drop_length, bsyL, List.append_nil, ← hsl]
    exact HA
  clear hsl hS hok HA
  go_enter Tryd.func18, Tryd.ntmps18
  go_wp2
  clear mk1 mk2
  go_loopw [5] (fun i wr => ∃ (j : Nat) (x : Int), j ≤ sl ∧ x = j - 1 ∧ i = .int .i64 x ∧ Below w.heap.size w wr ∧ Holds wr [(w.heap.size + 1 + 1, .cells (visB (askL (liv (ss.drop j)))) 4), (w.heap.size + 1, .cells (visB (outL ss j)) 4), (w.heap.size, .cells #[.slice ia il ic, .slice oa ol oc, .int .i64 rg, .slice sa sl sc] 25)]) (fun i _ => (intOf i + 1).toNat)
  case atStart => exact ⟨sl, (sl : Int) - 1, Nat.le_refl _, rfl, by first | rfl | go_num, HB0.out, HA0.out⟩
  case round =>
    obtain ⟨j, x, hj, hx, rfl, hb, hh⟩ := hrel
    have HB : Hid (Below w.heap.size w wr) := hb
    have HH : Hid (Holds wr [(w.heap.size + 1 + 1, .cells (visB (askL (liv (ss.drop j)))) 4), (w.heap.size + 1, .cells (visB (outL ss j)) 4), (w.heap.size, .cells #[.slice ia il ic, .slice oa ol oc, .int .i64 rg, .slice sa sl sc] 25)]) := hh
    clear hb hh
    rcases j with _ | p
    · obtain rfl : x = -1 := by omega
      have HR : Hid (wr.heap[w.heap.size + 1]? = some (.cells (visB (bsyL ss)) 4 (0, 0))) := holds_at HH.out 1 rfl
      clear hx
      go_wp2
      go_ret
      exact ⟨w.heap.size + 1, rfl, by omega, HR.out, HB.out⟩
    · obtain rfl : x = (p : Int) := by omega
      have hps : p < ss.length := by rw [← HSL.out]; omega
      obtain ⟨b, off, rfl, hc⟩ := stpW_get (stpW_below HS.out HB.out) hps
      obtain ⟨c0, c1, c2, c3⟩ := hc p hps
      obtain ⟨⟨op, dst, src, c⟩, hs⟩ : ∃ s, ss[p] = s := ⟨_, rfl⟩
      rw [hs] at c0 c1 c2 c3
      simp only at c0 c1 c2 c3
      have hget : ss[p]? = some ⟨op, dst, src, c⟩ := by rw [List.getElem?_eq_getElem hps, hs]
      have HGET : Hid (ss[p]? = some ⟨op, dst, src, c⟩) := hget
      have hok := HOK.out _ (List.mem_of_getElem? hget)
      unfold OkS at hok
      simp only at hok
      have h5 : op = 5 → 0 ≤ src ∧ src < rg := fun e => by omega
      have hn5 : op ≠ 5 → 0 ≤ dst ∧ dst < rg := fun e => by omega
      have h4 : op = 4 → 0 ≤ src ∧ src < rg := fun e => by omega
      have h3 : op ≠ 5 → op = 1 ∨ op = 2 ∨ op = 3 ∨ op = 4 := fun e => by omega
      obtain ⟨A, hA⟩ : ∃ A, A = liv (ss.drop (p + 1)) := ⟨_, rfl⟩
      have HDA : Hid (A = liv (ss.drop (p + 1))) := hA
      have HLV : Hid (liv (ss.drop p) = if bsyS ⟨op, dst, src, c⟩ A = true then aftS ⟨op, dst, src, c⟩ A else A) := by
        have := liv_drop hget
        rw [← hA] at this
        exact this
      rw [← hA] at HH
      have HPL : Hid (p < ss.length) := hps
      have hpsl : p < sl := by omega
      have HLT : Hid (w.heap.size + 1 + 1 < wr.heap.size) := ltHeap (holds_at HH.out 0 rfl)
      obtain ⟨cv, hcv⟩ : ∃ cv : Int, cv = (c.toNat : Int) := ⟨_, rfl⟩
      rw [← hcv] at c3
      have kP : wr.cell? ⟨w.heap.size, 3, none⟩ = some (.slice (some ⟨b, off, none⟩) sl sc) := cellAt (holds_at HH.out 2 rfl) 3 _ rfl
      clear hcv hc hs hget hok hA hps hx
      by_cases w5 : op = 5
      · subst w5
        obtain ⟨sq, rfl⟩ := Int.eq_ofNat_of_zero_le (h5 rfl).1
        have hsq : sq < 65 := by have := (h5 rfl).2; omega
        clear h5 hn5
        have hbz : bsyS ⟨5, dst, (sq : Int), c⟩ A = true := by rfl
        have hA2 : liv (ss.drop p) = (fun r => if r = (sq : Int) then true else A r) := by
          rw [HLV.out, hbz]
          rfl
        have H1 : Hid ((wr.alloc (.cells #[.int .i64 5, .int .i64 dst, .int .i64 (sq : Int), .int .u8 cv] 48)).heap[wr.heap.size]? = some (.cells #[.int .i64 5, .int .i64 dst, .int .i64 (sq : Int), .int .u8 cv] 48 (0, 0))) := heap_alloc_last _ _
        have H2 : Hid ((wr.alloc (.cells #[.int .i64 5, .int .i64 dst, .int .i64 (sq : Int), .int .u8 cv] 48)).heap[w.heap.size + 1]? = some (.cells (visB (outL ss (p + 1))) 4 (0, 0))) := heap_later (holds_at HH.out 1 rfl) ((Below.refl _ _).alloc (Nat.le_refl _) _)
        have H3 : Hid ((wr.alloc (.cells #[.int .i64 5, .int .i64 dst, .int .i64 (sq : Int), .int .u8 cv] 48)).heap[w.heap.size + 1 + 1]? = some (.cells (visB (askL A)) 4 (0, 0))) := heap_later (holds_at HH.out 0 rfl) ((Below.refl _ _).alloc (Nat.le_refl _) _)
        have H4 : Hid ((wr.alloc (.cells #[.int .i64 5, .int .i64 dst, .int .i64 (sq : Int), .int .u8 cv] 48)).heap[w.heap.size]? = some (.cells #[.slice ia il ic, .slice oa ol oc, .int .i64 rg, .slice (some ⟨b, off, none⟩) sl sc] 25 (0, 0))) := heap_later (holds_at HH.out 2 rfl) ((Below.refl _ _).alloc (Nat.le_refl _) _)
        have f1 : (wr.alloc (.cells #[.int .i64 5, .int .i64 dst, .int .i64 (sq : Int), .int .u8 cv] 48)).frozen? ⟨w.heap.size + 1, p, none⟩ = false := frozen_of_row _ _ _ _ _ H2.out
        have o1 : (wr.alloc (.cells #[.int .i64 5, .int .i64 dst, .int .i64 (sq : Int), .int .u8 cv] 48)).cell? ⟨w.heap.size + 1, p, none⟩ = some (.bool false) := cellAt H2.out p _ (visB_get (outL_at (Nat.lt_succ_self p)))
        have G1 : Hid (((wr.alloc (.cells #[.int .i64 5, .int .i64 dst, .int .i64 (sq : Int), .int .u8 cv] 48)).setCell ⟨w.heap.size + 1, p, none⟩ (.bool true)).heap[wr.heap.size]? = some (.cells #[.int .i64 5, .int .i64 dst, .int .i64 (sq : Int), .int .u8 cv] 48 (0, 0))) := (heap_setCell_other _ _ _ _ (by show wr.heap.size ≠ w.heap.size + 1; have := HLT.out; omega)).trans H1.out
        have G2 : Hid (((wr.alloc (.cells #[.int .i64 5, .int .i64 dst, .int .i64 (sq : Int), .int .u8 cv] 48)).setCell ⟨w.heap.size + 1, p, none⟩ (.bool true)).heap[w.heap.size + 1]? = some (.cells (visB (outL ss p)) 4 (0, 0))) := by
          rw [← outL_set HGET.out, ← HDA.out, hbz, ← visB_set]
          exact heap_setCell_same _ _ _ _ _ _ H2.out
        have G3 : Hid (((wr.alloc (.cells #[.int .i64 5, .int .i64 dst, .int .i64 (sq : Int), .int .u8 cv] 48)).setCell ⟨w.heap.size + 1, p, none⟩ (.bool true)).heap[w.heap.size + 1 + 1]? = some (.cells (visB (askL A)) 4 (0, 0))) := (heap_setCell_other _ _ _ _ (by show w.heap.size + 1 + 1 ≠ w.heap.size + 1; omega)).trans H3.out
        have G4 : Hid (((wr.alloc (.cells #[.int .i64 5, .int .i64 dst, .int .i64 (sq : Int), .int .u8 cv] 48)).setCell ⟨w.heap.size + 1, p, none⟩ (.bool true)).heap[w.heap.size]? = some (.cells #[.slice ia il ic, .slice oa ol oc, .int .i64 rg, .slice (some ⟨b, off, none⟩) sl sc] 25 (0, 0))) := (heap_setCell_other _ _ _ _ (by show w.heap.size ≠ w.heap.size + 1; omega)).trans H4.out
        have g0 : ((wr.alloc (.cells #[.int .i64 5, .int .i64 dst, .int .i64 (sq : Int), .int .u8 cv] 48)).setCell ⟨w.heap.size + 1, p, none⟩ (.bool true)).cell? ⟨wr.heap.size, 0, none⟩ = some (.int .i64 5) := cellAt G1.out 0 _ rfl
        have g1 : ((wr.alloc (.cells #[.int .i64 5, .int .i64 dst, .int .i64 (sq : Int), .int .u8 cv] 48)).setCell ⟨w.heap.size + 1, p, none⟩ (.bool true)).cell? ⟨wr.heap.size, 1, none⟩ = some (.int .i64 dst) := cellAt G1.out 1 _ rfl
        have g2 : ((wr.alloc (.cells #[.int .i64 5, .int .i64 dst, .int .i64 (sq : Int), .int .u8 cv] 48)).setCell ⟨w.heap.size + 1, p, none⟩ (.bool true)).cell? ⟨wr.heap.size, 2, none⟩ = some (.int .i64 (sq : Int)) := cellAt G1.out 2 _ rfl
        have HBB : Hid (Below w.heap.size w ((wr.alloc (.cells #[.int .i64 5, .int .i64 dst, .int .i64 (sq : Int), .int .u8 cv] 48)).setCell ⟨w.heap.size + 1, p, none⟩ (.bool true))) := (HB.out.alloc HB.out.size _).setCell (p := ⟨w.heap.size + 1, p, none⟩) (by show w.heap.size ≤ w.heap.size + 1; omega) _
        have f2 : ((wr.alloc (.cells #[.int .i64 5, .int .i64 dst, .int .i64 (sq : Int), .int .u8 cv] 48)).setCell ⟨w.heap.size + 1, p, none⟩ (.bool true)).frozen? ⟨w.heap.size + 1 + 1, sq, none⟩ = false := frozen_of_row _ _ _ _ _ G3.out
        have o2 : ((wr.alloc (.cells #[.int .i64 5, .int .i64 dst, .int .i64 (sq : Int), .int .u8 cv] 48)).setCell ⟨w.heap.size + 1, p, none⟩ (.bool true)).cell? ⟨w.heap.size + 1 + 1, sq, none⟩ = some (.bool (A (sq : Int))) := cellAt G3.out sq _ (visB_get (askL_get (by assumption)))
        have K3 : Hid ((((wr.alloc (.cells #[.int .i64 5, .int .i64 dst, .int .i64 (sq : Int), .int .u8 cv] 48)).setCell ⟨w.heap.size + 1, p, none⟩ (.bool true)).setCell ⟨w.heap.size + 1 + 1, sq, none⟩ (.bool true)).heap[w.heap.size + 1 + 1]? = some (.cells (visB (askL (liv (ss.drop p)))) 4 (0, 0))) := by
          rw [hA2, ← askL_set true (by assumption), ← visB_set]
          exact heap_setCell_same _ _ _ _ _ _ G3.out
        have K2 : Hid ((((wr.alloc (.cells #[.int .i64 5, .int .i64 dst, .int .i64 (sq : Int), .int .u8 cv] 48)).setCell ⟨w.heap.size + 1, p, none⟩ (.bool true)).setCell ⟨w.heap.size + 1 + 1, sq, none⟩ (.bool true)).heap[w.heap.size + 1]? = some (.cells (visB (outL ss p)) 4 (0, 0))) := (heap_setCell_other _ _ _ _ (by show w.heap.size + 1 ≠ w.heap.size + 1 + 1; omega)).trans G2.out
        have K4 : Hid ((((wr.alloc (.cells #[.int .i64 5, .int .i64 dst, .int .i64 (sq : Int), .int .u8 cv] 48)).setCell ⟨w.heap.size + 1, p, none⟩ (.bool true)).setCell ⟨w.heap.size + 1 + 1, sq, none⟩ (.bool true)).heap[w.heap.size]? = some (.cells #[.slice ia il ic, .slice oa ol oc, .int .i64 rg, .slice (some ⟨b, off, none⟩) sl sc] 25 (0, 0))) := (heap_setCell_other _ _ _ _ (by show w.heap.size ≠ w.heap.size + 1 + 1; omega)).trans G4.out
        have K1 : Hid ((((wr.alloc (.cells #[.int .i64 5, .int .i64 dst, .int .i64 (sq : Int), .int .u8 cv] 48)).setCell ⟨w.heap.size + 1, p, none⟩ (.bool true)).setCell ⟨w.heap.size + 1 + 1, sq, none⟩ (.bool true)).heap[wr.heap.size]? = some (.cells #[.int .i64 5, .int .i64 dst, .int .i64 (sq : Int), .int .u8 cv] 48 (0, 0))) := (heap_setCell_other _ _ _ _ (by show wr.heap.size ≠ w.heap.size + 1 + 1; have := HLT.out; omega)).trans G1.out
        have e0 : (((wr.alloc (.cells #[.int .i64 5, .int .i64 dst, .int .i64 (sq : Int), .int .u8 cv] 48)).setCell ⟨w.heap.size + 1, p, none⟩ (.bool true)).setCell ⟨w.heap.size + 1 + 1, sq, none⟩ (.bool true)).cell? ⟨wr.heap.size, 0, none⟩ = some (.int .i64 5) := cellAt K1.out 0 _ rfl
        have e1 : (((wr.alloc (.cells #[.int .i64 5, .int .i64 dst, .int .i64 (sq : Int), .int .u8 cv] 48)).setCell ⟨w.heap.size + 1, p, none⟩ (.bool true)).setCell ⟨w.heap.size + 1 + 1, sq, none⟩ (.bool true)).cell? ⟨wr.heap.size, 1, none⟩ = some (.int .i64 dst) := cellAt K1.out 1 _ rfl
        have e2 : (((wr.alloc (.cells #[.int .i64 5, .int .i64 dst, .int .i64 (sq : Int), .int .u8 cv] 48)).setCell ⟨w.heap.size + 1, p, none⟩ (.bool true)).setCell ⟨w.heap.size + 1 + 1, sq, none⟩ (.bool true)).cell? ⟨wr.heap.size, 2, none⟩ = some (.int .i64 (sq : Int)) := cellAt K1.out 2 _ rfl
        have HBC : Hid (Below w.heap.size w (((wr.alloc (.cells #[.int .i64 5, .int .i64 dst, .int .i64 (sq : Int), .int .u8 cv] 48)).setCell ⟨w.heap.size + 1, p, none⟩ (.bool true)).setCell ⟨w.heap.size + 1 + 1, sq, none⟩ (.bool true))) := HBB.out.setCell (p := ⟨w.heap.size + 1 + 1, sq, none⟩) (by show w.heap.size ≤ w.heap.size + 1 + 1; omega) _
        have HFIN : Hid (Holds (((wr.alloc (.cells #[.int .i64 5, .int .i64 dst, .int .i64 (sq : Int), .int .u8 cv] 48)).setCell ⟨w.heap.size + 1, p, none⟩ (.bool true)).setCell ⟨w.heap.size + 1 + 1, sq, none⟩ (.bool true)) [(w.heap.size + 1 + 1, .cells (visB (askL (liv (ss.drop p)))) 4), (w.heap.size + 1, .cells (visB (outL ss p)) 4), (w.heap.size, .cells #[.slice ia il ic, .slice oa ol oc, .int .i64 rg, .slice (some ⟨b, off, none⟩) sl sc] 25)]) := holds_cons (holds_cons (holds_cons (holds_nil _) K4.out) K2.out) K3.out
        clear hbz hA2 
        go_wp2
        exact ⟨⟨p, (p : Int) - 1, by omega, by go_num, rfl, HBC.out, HFIN.out⟩, by simp [intOf] <;> omega⟩
      obtain ⟨hd0, hd1⟩ := hn5 w5
      obtain ⟨dq, rfl⟩ := Int.eq_ofNat_of_zero_le hd0
      have hdq : dq < 65 := by omega
      have v5 : (op == 5) = false := beq_eq_false_iff_ne.2 w5
      have W5 : Hid (op ≠ 5) := w5
      clear h5 hd0 hd1 w5 hn5
      cases hA : A (dq : Int)
      · have hbz : bsyS ⟨op, (dq : Int), src, c⟩ A = false := by simp [bsyS, hA, v5]
        have hA2 : liv (ss.drop p) = A := by
          rw [HLV.out, hbz]
          rfl
        have H1 : Hid ((wr.alloc (.cells #[.int .i64 op, .int .i64 (dq : Int), .int .i64 src, .int .u8 cv] 48)).heap[wr.heap.size]? = some (.cells #[.int .i64 op, .int .i64 (dq : Int), .int .i64 src, .int .u8 cv] 48 (0, 0))) := heap_alloc_last _ _
        have H2 : Hid ((wr.alloc (.cells #[.int .i64 op, .int .i64 (dq : Int), .int .i64 src, .int .u8 cv] 48)).heap[w.heap.size + 1]? = some (.cells (visB (outL ss (p + 1))) 4 (0, 0))) := heap_later (holds_at HH.out 1 rfl) ((Below.refl _ _).alloc (Nat.le_refl _) _)
        have H3 : Hid ((wr.alloc (.cells #[.int .i64 op, .int .i64 (dq : Int), .int .i64 src, .int .u8 cv] 48)).heap[w.heap.size + 1 + 1]? = some (.cells (visB (askL A)) 4 (0, 0))) := heap_later (holds_at HH.out 0 rfl) ((Below.refl _ _).alloc (Nat.le_refl _) _)
        have H4 : Hid ((wr.alloc (.cells #[.int .i64 op, .int .i64 (dq : Int), .int .i64 src, .int .u8 cv] 48)).heap[w.heap.size]? = some (.cells #[.slice ia il ic, .slice oa ol oc, .int .i64 rg, .slice (some ⟨b, off, none⟩) sl sc] 25 (0, 0))) := heap_later (holds_at HH.out 2 rfl) ((Below.refl _ _).alloc (Nat.le_refl _) _)
        have f1 : (wr.alloc (.cells #[.int .i64 op, .int .i64 (dq : Int), .int .i64 src, .int .u8 cv] 48)).frozen? ⟨w.heap.size + 1, p, none⟩ = false := frozen_of_row _ _ _ _ _ H2.out
        have o1 : (wr.alloc (.cells #[.int .i64 op, .int .i64 (dq : Int), .int .i64 src, .int .u8 cv] 48)).cell? ⟨w.heap.size + 1, p, none⟩ = some (.bool false) := cellAt H2.out p _ (visB_get (outL_at (Nat.lt_succ_self p)))
        have G1 : Hid (((wr.alloc (.cells #[.int .i64 op, .int .i64 (dq : Int), .int .i64 src, .int .u8 cv] 48)).setCell ⟨w.heap.size + 1, p, none⟩ (.bool false)).heap[wr.heap.size]? = some (.cells #[.int .i64 op, .int .i64 (dq : Int), .int .i64 src, .int .u8 cv] 48 (0, 0))) := (heap_setCell_other _ _ _ _ (by show wr.heap.size ≠ w.heap.size + 1; have := HLT.out; omega)).trans H1.out
        have G2 : Hid (((wr.alloc (.cells #[.int .i64 op, .int .i64 (dq : Int), .int .i64 src, .int .u8 cv] 48)).setCell ⟨w.heap.size + 1, p, none⟩ (.bool false)).heap[w.heap.size + 1]? = some (.cells (visB (outL ss p)) 4 (0, 0))) := by
          rw [← outL_set HGET.out, ← HDA.out, hbz, ← visB_set]
          exact heap_setCell_same _ _ _ _ _ _ H2.out
        have G3 : Hid (((wr.alloc (.cells #[.int .i64 op, .int .i64 (dq : Int), .int .i64 src, .int .u8 cv] 48)).setCell ⟨w.heap.size + 1, p, none⟩ (.bool false)).heap[w.heap.size + 1 + 1]? = some (.cells (visB (askL A)) 4 (0, 0))) := (heap_setCell_other _ _ _ _ (by show w.heap.size + 1 + 1 ≠ w.heap.size + 1; omega)).trans H3.out
        have G4 : Hid (((wr.alloc (.cells #[.int .i64 op, .int .i64 (dq : Int), .int .i64 src, .int .u8 cv] 48)).setCell ⟨w.heap.size + 1, p, none⟩ (.bool false)).heap[w.heap.size]? = some (.cells #[.slice ia il ic, .slice oa ol oc, .int .i64 rg, .slice (some ⟨b, off, none⟩) sl sc] 25 (0, 0))) := (heap_setCell_other _ _ _ _ (by show w.heap.size ≠ w.heap.size + 1; omega)).trans H4.out
        have g0 : ((wr.alloc (.cells #[.int .i64 op, .int .i64 (dq : Int), .int .i64 src, .int .u8 cv] 48)).setCell ⟨w.heap.size + 1, p, none⟩ (.bool false)).cell? ⟨wr.heap.size, 0, none⟩ = some (.int .i64 op) := cellAt G1.out 0 _ rfl
        have g1 : ((wr.alloc (.cells #[.int .i64 op, .int .i64 (dq : Int), .int .i64 src, .int .u8 cv] 48)).setCell ⟨w.heap.size + 1, p, none⟩ (.bool false)).cell? ⟨wr.heap.size, 1, none⟩ = some (.int .i64 (dq : Int)) := cellAt G1.out 1 _ rfl
        have g2 : ((wr.alloc (.cells #[.int .i64 op, .int .i64 (dq : Int), .int .i64 src, .int .u8 cv] 48)).setCell ⟨w.heap.size + 1, p, none⟩ (.bool false)).cell? ⟨wr.heap.size, 2, none⟩ = some (.int .i64 src) := cellAt G1.out 2 _ rfl
        have HBB : Hid (Below w.heap.size w ((wr.alloc (.cells #[.int .i64 op, .int .i64 (dq : Int), .int .i64 src, .int .u8 cv] 48)).setCell ⟨w.heap.size + 1, p, none⟩ (.bool false))) := (HB.out.alloc HB.out.size _).setCell (p := ⟨w.heap.size + 1, p, none⟩) (by show w.heap.size ≤ w.heap.size + 1; omega) _
        have a3 := cellAt H3.out dq _ (visB_get (askL_get (A := A) hdq))
        rw [hA] at a3
        have g3 : ((wr.alloc (.cells #[.int .i64 op, .int .i64 (dq : Int), .int .i64 src, .int .u8 cv] 48)).setCell ⟨w.heap.size + 1, p, none⟩ (.bool false)).cell? ⟨w.heap.size + 1, p, none⟩ = some (.bool false) := by
          have h9 : ((wr.alloc (.cells #[.int .i64 op, .int .i64 (dq : Int), .int .i64 src, .int .u8 cv] 48)).setCell ⟨w.heap.size + 1, p, none⟩ (.bool false)).heap[w.heap.size + 1]? = _ := heap_setCell_same _ _ _ _ _ _ H2.out
          exact cellAt h9 p _ (by rw [visB_set]; exact visB_get (by rw [List.getElem?_set, if_pos rfl, if_pos (by simp [outL, bsyL_len]; have := HPL.out; omega)]))
        have K3 : Hid (((wr.alloc (.cells #[.int .i64 op, .int .i64 (dq : Int), .int .i64 src, .int .u8 cv] 48)).setCell ⟨w.heap.size + 1, p, none⟩ (.bool false)).heap[w.heap.size + 1 + 1]? = some (.cells (visB (askL (liv (ss.drop p)))) 4 (0, 0))) := by
          rw [hA2]
          exact G3.out
        have K2 : Hid _ := G2.out
        have K4 : Hid _ := G4.out
        have HBC : Hid _ := HBB.out
        have HFIN : Hid (Holds ((wr.alloc (.cells #[.int .i64 op, .int .i64 (dq : Int), .int .i64 src, .int .u8 cv] 48)).setCell ⟨w.heap.size + 1, p, none⟩ (.bool false)) [(w.heap.size + 1 + 1, .cells (visB (askL (liv (ss.drop p)))) 4), (w.heap.size + 1, .cells (visB (outL ss p)) 4), (w.heap.size, .cells #[.slice ia il ic, .slice oa ol oc, .int .i64 rg, .slice (some ⟨b, off, none⟩) sl sc] 25)]) := holds_cons (holds_cons (holds_cons (holds_nil _) K4.out) K2.out) K3.out
        clear hbz hA2 hA
        go_wp2
        exact ⟨⟨p, (p : Int) - 1, by omega, by go_num, rfl, HBC.out, HFIN.out⟩, by simp [intOf] <;> omega⟩
      by_cases w1 : op = 1
      · subst w1
        clear h4 v5
        have hbz : bsyS ⟨1, (dq : Int), src, c⟩ A = true := by simp [bsyS, hA]
        have hA2 : liv (ss.drop p) = (fun r => if r = (dq : Int) then false else A r) := by
          rw [HLV.out, hbz]
          rfl
        have H1 : Hid ((wr.alloc (.cells #[.int .i64 1, .int .i64 (dq : Int), .int .i64 src, .int .u8 cv] 48)).heap[wr.heap.size]? = some (.cells #[.int .i64 1, .int .i64 (dq : Int), .int .i64 src, .int .u8 cv] 48 (0, 0))) := heap_alloc_last _ _
        have H2 : Hid ((wr.alloc (.cells #[.int .i64 1, .int .i64 (dq : Int), .int .i64 src, .int .u8 cv] 48)).heap[w.heap.size + 1]? = some (.cells (visB (outL ss (p + 1))) 4 (0, 0))) := heap_later (holds_at HH.out 1 rfl) ((Below.refl _ _).alloc (Nat.le_refl _) _)
        have H3 : Hid ((wr.alloc (.cells #[.int .i64 1, .int .i64 (dq : Int), .int .i64 src, .int .u8 cv] 48)).heap[w.heap.size + 1 + 1]? = some (.cells (visB (askL A)) 4 (0, 0))) := heap_later (holds_at HH.out 0 rfl) ((Below.refl _ _).alloc (Nat.le_refl _) _)
        have H4 : Hid ((wr.alloc (.cells #[.int .i64 1, .int .i64 (dq : Int), .int .i64 src, .int .u8 cv] 48)).heap[w.heap.size]? = some (.cells #[.slice ia il ic, .slice oa ol oc, .int .i64 rg, .slice (some ⟨b, off, none⟩) sl sc] 25 (0, 0))) := heap_later (holds_at HH.out 2 rfl) ((Below.refl _ _).alloc (Nat.le_refl _) _)
        have f1 : (wr.alloc (.cells #[.int .i64 1, .int .i64 (dq : Int), .int .i64 src, .int .u8 cv] 48)).frozen? ⟨w.heap.size + 1, p, none⟩ = false := frozen_of_row _ _ _ _ _ H2.out
        have o1 : (wr.alloc (.cells #[.int .i64 1, .int .i64 (dq : Int), .int .i64 src, .int .u8 cv] 48)).cell? ⟨w.heap.size + 1, p, none⟩ = some (.bool false) := cellAt H2.out p _ (visB_get (outL_at (Nat.lt_succ_self p)))
        have G1 : Hid (((wr.alloc (.cells #[.int .i64 1, .int .i64 (dq : Int), .int .i64 src, .int .u8 cv] 48)).setCell ⟨w.heap.size + 1, p, none⟩ (.bool true)).heap[wr.heap.size]? = some (.cells #[.int .i64 1, .int .i64 (dq : Int), .int .i64 src, .int .u8 cv] 48 (0, 0))) := (heap_setCell_other _ _ _ _ (by show wr.heap.size ≠ w.heap.size + 1; have := HLT.out; omega)).trans H1.out
        have G2 : Hid (((wr.alloc (.cells #[.int .i64 1, .int .i64 (dq : Int), .int .i64 src, .int .u8 cv] 48)).setCell ⟨w.heap.size + 1, p, none⟩ (.bool true)).heap[w.heap.size + 1]? = some (.cells (visB (outL ss p)) 4 (0, 0))) := by
          rw [← outL_set HGET.out, ← HDA.out, hbz, ← visB_set]
          exact heap_setCell_same _ _ _ _ _ _ H2.out
        have G3 : Hid (((wr.alloc (.cells #[.int .i64 1, .int .i64 (dq : Int), .int .i64 src, .int .u8 cv] 48)).setCell ⟨w.heap.size + 1, p, none⟩ (.bool true)).heap[w.heap.size + 1 + 1]? = some (.cells (visB (askL A)) 4 (0, 0))) := (heap_setCell_other _ _ _ _ (by show w.heap.size + 1 + 1 ≠ w.heap.size + 1; omega)).trans H3.out
        have G4 : Hid (((wr.alloc (.cells #[.int .i64 1, .int .i64 (dq : Int), .int .i64 src, .int .u8 cv] 48)).setCell ⟨w.heap.size + 1, p, none⟩ (.bool true)).heap[w.heap.size]? = some (.cells #[.slice ia il ic, .slice oa ol oc, .int .i64 rg, .slice (some ⟨b, off, none⟩) sl sc] 25 (0, 0))) := (heap_setCell_other _ _ _ _ (by show w.heap.size ≠ w.heap.size + 1; omega)).trans H4.out
        have g0 : ((wr.alloc (.cells #[.int .i64 1, .int .i64 (dq : Int), .int .i64 src, .int .u8 cv] 48)).setCell ⟨w.heap.size + 1, p, none⟩ (.bool true)).cell? ⟨wr.heap.size, 0, none⟩ = some (.int .i64 1) := cellAt G1.out 0 _ rfl
        have g1 : ((wr.alloc (.cells #[.int .i64 1, .int .i64 (dq : Int), .int .i64 src, .int .u8 cv] 48)).setCell ⟨w.heap.size + 1, p, none⟩ (.bool true)).cell? ⟨wr.heap.size, 1, none⟩ = some (.int .i64 (dq : Int)) := cellAt G1.out 1 _ rfl
        have g2 : ((wr.alloc (.cells #[.int .i64 1, .int .i64 (dq : Int), .int .i64 src, .int .u8 cv] 48)).setCell ⟨w.heap.size + 1, p, none⟩ (.bool true)).cell? ⟨wr.heap.size, 2, none⟩ = some (.int .i64 src) := cellAt G1.out 2 _ rfl
        have HBB : Hid (Below w.heap.size w ((wr.alloc (.cells #[.int .i64 1, .int .i64 (dq : Int), .int .i64 src, .int .u8 cv] 48)).setCell ⟨w.heap.size + 1, p, none⟩ (.bool true))) := (HB.out.alloc HB.out.size _).setCell (p := ⟨w.heap.size + 1, p, none⟩) (by show w.heap.size ≤ w.heap.size + 1; omega) _
        have a3 := cellAt H3.out dq _ (visB_get (askL_get (A := A) hdq))
        rw [hA] at a3
        have g3 : ((wr.alloc (.cells #[.int .i64 1, .int .i64 (dq : Int), .int .i64 src, .int .u8 cv] 48)).setCell ⟨w.heap.size + 1, p, none⟩ (.bool true)).cell? ⟨w.heap.size + 1, p, none⟩ = some (.bool true) := by
          have h9 : ((wr.alloc (.cells #[.int .i64 1, .int .i64 (dq : Int), .int .i64 src, .int .u8 cv] 48)).setCell ⟨w.heap.size + 1, p, none⟩ (.bool true)).heap[w.heap.size + 1]? = _ := heap_setCell_same _ _ _ _ _ _ H2.out
          exact cellAt h9 p _ (by rw [visB_set]; exact visB_get (by rw [List.getElem?_set, if_pos rfl, if_pos (by simp [outL, bsyL_len]; have := HPL.out; omega)]))
        have f2 : ((wr.alloc (.cells #[.int .i64 1, .int .i64 (dq : Int), .int .i64 src, .int .u8 cv] 48)).setCell ⟨w.heap.size + 1, p, none⟩ (.bool true)).frozen? ⟨w.heap.size + 1 + 1, dq, none⟩ = false := frozen_of_row _ _ _ _ _ G3.out
        have o2 : ((wr.alloc (.cells #[.int .i64 1, .int .i64 (dq : Int), .int .i64 src, .int .u8 cv] 48)).setCell ⟨w.heap.size + 1, p, none⟩ (.bool true)).cell? ⟨w.heap.size + 1 + 1, dq, none⟩ = some (.bool (A (dq : Int))) := cellAt G3.out dq _ (visB_get (askL_get (by assumption)))
        have K3 : Hid ((((wr.alloc (.cells #[.int .i64 1, .int .i64 (dq : Int), .int .i64 src, .int .u8 cv] 48)).setCell ⟨w.heap.size + 1, p, none⟩ (.bool true)).setCell ⟨w.heap.size + 1 + 1, dq, none⟩ (.bool false)).heap[w.heap.size + 1 + 1]? = some (.cells (visB (askL (liv (ss.drop p)))) 4 (0, 0))) := by
          rw [hA2, ← askL_set false (by assumption), ← visB_set]
          exact heap_setCell_same _ _ _ _ _ _ G3.out
        have K2 : Hid ((((wr.alloc (.cells #[.int .i64 1, .int .i64 (dq : Int), .int .i64 src, .int .u8 cv] 48)).setCell ⟨w.heap.size + 1, p, none⟩ (.bool true)).setCell ⟨w.heap.size + 1 + 1, dq, none⟩ (.bool false)).heap[w.heap.size + 1]? = some (.cells (visB (outL ss p)) 4 (0, 0))) := (heap_setCell_other _ _ _ _ (by show w.heap.size + 1 ≠ w.heap.size + 1 + 1; omega)).trans G2.out
        have K4 : Hid ((((wr.alloc (.cells #[.int .i64 1, .int .i64 (dq : Int), .int .i64 src, .int .u8 cv] 48)).setCell ⟨w.heap.size + 1, p, none⟩ (.bool true)).setCell ⟨w.heap.size + 1 + 1, dq, none⟩ (.bool false)).heap[w.heap.size]? = some (.cells #[.slice ia il ic, .slice oa ol oc, .int .i64 rg, .slice (some ⟨b, off, none⟩) sl sc] 25 (0, 0))) := (heap_setCell_other _ _ _ _ (by show w.heap.size ≠ w.heap.size + 1 + 1; omega)).trans G4.out
        have K1 : Hid ((((wr.alloc (.cells #[.int .i64 1, .int .i64 (dq : Int), .int .i64 src, .int .u8 cv] 48)).setCell ⟨w.heap.size + 1, p, none⟩ (.bool true)).setCell ⟨w.heap.size + 1 + 1, dq, none⟩ (.bool false)).heap[wr.heap.size]? = some (.cells #[.int .i64 1, .int .i64 (dq : Int), .int .i64 src, .int .u8 cv] 48 (0, 0))) := (heap_setCell_other _ _ _ _ (by show wr.heap.size ≠ w.heap.size + 1 + 1; have := HLT.out; omega)).trans G1.out
        have e0 : (((wr.alloc (.cells #[.int .i64 1, .int .i64 (dq : Int), .int .i64 src, .int .u8 cv] 48)).setCell ⟨w.heap.size + 1, p, none⟩ (.bool true)).setCell ⟨w.heap.size + 1 + 1, dq, none⟩ (.bool false)).cell? ⟨wr.heap.size, 0, none⟩ = some (.int .i64 1) := cellAt K1.out 0 _ rfl
        have e1 : (((wr.alloc (.cells #[.int .i64 1, .int .i64 (dq : Int), .int .i64 src, .int .u8 cv] 48)).setCell ⟨w.heap.size + 1, p, none⟩ (.bool true)).setCell ⟨w.heap.size + 1 + 1, dq, none⟩ (.bool false)).cell? ⟨wr.heap.size, 1, none⟩ = some (.int .i64 (dq : Int)) := cellAt K1.out 1 _ rfl
        have e2 : (((wr.alloc (.cells #[.int .i64 1, .int .i64 (dq : Int), .int .i64 src, .int .u8 cv] 48)).setCell ⟨w.heap.size + 1, p, none⟩ (.bool true)).setCell ⟨w.heap.size + 1 + 1, dq, none⟩ (.bool false)).cell? ⟨wr.heap.size, 2, none⟩ = some (.int .i64 src) := cellAt K1.out 2 _ rfl
        have HBC : Hid (Below w.heap.size w (((wr.alloc (.cells #[.int .i64 1, .int .i64 (dq : Int), .int .i64 src, .int .u8 cv] 48)).setCell ⟨w.heap.size + 1, p, none⟩ (.bool true)).setCell ⟨w.heap.size + 1 + 1, dq, none⟩ (.bool false))) := HBB.out.setCell (p := ⟨w.heap.size + 1 + 1, dq, none⟩) (by show w.heap.size ≤ w.heap.size + 1 + 1; omega) _
        have HFIN : Hid (Holds (((wr.alloc (.cells #[.int .i64 1, .int .i64 (dq : Int), .int .i64 src, .int .u8 cv] 48)).setCell ⟨w.heap.size + 1, p, none⟩ (.bool true)).setCell ⟨w.heap.size + 1 + 1, dq, none⟩ (.bool false)) [(w.heap.size + 1 + 1, .cells (visB (askL (liv (ss.drop p)))) 4), (w.heap.size + 1, .cells (visB (outL ss p)) 4), (w.heap.size, .cells #[.slice ia il ic, .slice oa ol oc, .int .i64 rg, .slice (some ⟨b, off, none⟩) sl sc] 25)]) := holds_cons (holds_cons (holds_cons (holds_nil _) K4.out) K2.out) K3.out
        clear hbz hA2 hA
        go_wp2
        exact ⟨⟨p, (p : Int) - 1, by omega, by go_num, rfl, HBC.out, HFIN.out⟩, by simp [intOf] <;> omega⟩
      by_cases w2 : op = 2
      · subst w2
        clear h4 v5
        have hbz : bsyS ⟨2, (dq : Int), src, c⟩ A = true := by simp [bsyS, hA]
        have hA2 : liv (ss.drop p) = (fun r => if r = (dq : Int) then false else A r) := by
          rw [HLV.out, hbz]
          rfl
        have H1 : Hid ((wr.alloc (.cells #[.int .i64 2, .int .i64 (dq : Int), .int .i64 src, .int .u8 cv] 48)).heap[wr.heap.size]? = some (.cells #[.int .i64 2, .int .i64 (dq : Int), .int .i64 src, .int .u8 cv] 48 (0, 0))) := heap_alloc_last _ _
        have H2 : Hid ((wr.alloc (.cells #[.int .i64 2, .int .i64 (dq : Int), .int .i64 src, .int .u8 cv] 48)).heap[w.heap.size + 1]? = some (.cells (visB (outL ss (p + 1))) 4 (0, 0))) := heap_later (holds_at HH.out 1 rfl) ((Below.refl _ _).alloc (Nat.le_refl _) _)
        have H3 : Hid ((wr.alloc (.cells #[.int .i64 2, .int .i64 (dq : Int), .int .i64 src, .int .u8 cv] 48)).heap[w.heap.size + 1 + 1]? = some (.cells (visB (askL A)) 4 (0, 0))) := heap_later (holds_at HH.out 0 rfl) ((Below.refl _ _).alloc (Nat.le_refl _) _)
        have H4 : Hid ((wr.alloc (.cells #[.int .i64 2, .int .i64 (dq : Int), .int .i64 src, .int .u8 cv] 48)).heap[w.heap.size]? = some (.cells #[.slice ia il ic, .slice oa ol oc, .int .i64 rg, .slice (some ⟨b, off, none⟩) sl sc] 25 (0, 0))) := heap_later (holds_at HH.out 2 rfl) ((Below.refl _ _).alloc (Nat.le_refl _) _)
        have f1 : (wr.alloc (.cells #[.int .i64 2, .int .i64 (dq : Int), .int .i64 src, .int .u8 cv] 48)).frozen? ⟨w.heap.size + 1, p, none⟩ = false := frozen_of_row _ _ _ _ _ H2.out
        have o1 : (wr.alloc (.cells #[.int .i64 2, .int .i64 (dq : Int), .int .i64 src, .int .u8 cv] 48)).cell? ⟨w.heap.size + 1, p, none⟩ = some (.bool false) := cellAt H2.out p _ (visB_get (outL_at (Nat.lt_succ_self p)))
        have G1 : Hid (((wr.alloc (.cells #[.int .i64 2, .int .i64 (dq : Int), .int .i64 src, .int .u8 cv] 48)).setCell ⟨w.heap.size + 1, p, none⟩ (.bool true)).heap[wr.heap.size]? = some (.cells #[.int .i64 2, .int .i64 (dq : Int), .int .i64 src, .int .u8 cv] 48 (0, 0))) := (heap_setCell_other _ _ _ _ (by show wr.heap.size ≠ w.heap.size + 1; have := HLT.out; omega)).trans H1.out
        have G2 : Hid (((wr.alloc (.cells #[.int .i64 2, .int .i64 (dq : Int), .int .i64 src, .int .u8 cv] 48)).setCell ⟨w.heap.size + 1, p, none⟩ (.bool true)).heap[w.heap.size + 1]? = some (.cells (visB (outL ss p)) 4 (0, 0))) := by
          rw [← outL_set HGET.out, ← HDA.out, hbz, ← visB_set]
          exact heap_setCell_same _ _ _ _ _ _ H2.out
        have G3 : Hid (((wr.alloc (.cells #[.int .i64 2, .int .i64 (dq : Int), .int .i64 src, .int .u8 cv] 48)).setCell ⟨w.heap.size + 1, p, none⟩ (.bool true)).heap[w.heap.size + 1 + 1]? = some (.cells (visB (askL A)) 4 (0, 0))) := (heap_setCell_other _ _ _ _ (by show w.heap.size + 1 + 1 ≠ w.heap.size + 1; omega)).trans H3.out
        have G4 : Hid (((wr.alloc (.cells #[.int .i64 2, .int .i64 (dq : Int), .int .i64 src, .int .u8 cv] 48)).setCell ⟨w.heap.size + 1, p, none⟩ (.bool true)).heap[w.heap.size]? = some (.cells #[.slice ia il ic, .slice oa ol oc, .int .i64 rg, .slice (some ⟨b, off, none⟩) sl sc] 25 (0, 0))) := (heap_setCell_other _ _ _ _ (by show w.heap.size ≠ w.heap.size + 1; omega)).trans H4.out
        have g0 : ((wr.alloc (.cells #[.int .i64 2, .int .i64 (dq : Int), .int .i64 src, .int .u8 cv] 48)).setCell ⟨w.heap.size + 1, p, none⟩ (.bool true)).cell? ⟨wr.heap.size, 0, none⟩ = some (.int .i64 2) := cellAt G1.out 0 _ rfl
        have g1 : ((wr.alloc (.cells #[.int .i64 2, .int .i64 (dq : Int), .int .i64 src, .int .u8 cv] 48)).setCell ⟨w.heap.size + 1, p, none⟩ (.bool true)).cell? ⟨wr.heap.size, 1, none⟩ = some (.int .i64 (dq : Int)) := cellAt G1.out 1 _ rfl
        have g2 : ((wr.alloc (.cells #[.int .i64 2, .int .i64 (dq : Int), .int .i64 src, .int .u8 cv] 48)).setCell ⟨w.heap.size + 1, p, none⟩ (.bool true)).cell? ⟨wr.heap.size, 2, none⟩ = some (.int .i64 src) := cellAt G1.out 2 _ rfl
        have HBB : Hid (Below w.heap.size w ((wr.alloc (.cells #[.int .i64 2, .int .i64 (dq : Int), .int .i64 src, .int .u8 cv] 48)).setCell ⟨w.heap.size + 1, p, none⟩ (.bool true))) := (HB.out.alloc HB.out.size _).setCell (p := ⟨w.heap.size + 1, p, none⟩) (by show w.heap.size ≤ w.heap.size + 1; omega) _
        have a3 := cellAt H3.out dq _ (visB_get (askL_get (A := A) hdq))
        rw [hA] at a3
        have g3 : ((wr.alloc (.cells #[.int .i64 2, .int .i64 (dq : Int), .int .i64 src, .int .u8 cv] 48)).setCell ⟨w.heap.size + 1, p, none⟩ (.bool true)).cell? ⟨w.heap.size + 1, p, none⟩ = some (.bool true) := by
          have h9 : ((wr.alloc (.cells #[.int .i64 2, .int .i64 (dq : Int), .int .i64 src, .int .u8 cv] 48)).setCell ⟨w.heap.size + 1, p, none⟩ (.bool true)).heap[w.heap.size + 1]? = _ := heap_setCell_same _ _ _ _ _ _ H2.out
          exact cellAt h9 p _ (by rw [visB_set]; exact visB_get (by rw [List.getElem?_set, if_pos rfl, if_pos (by simp [outL, bsyL_len]; have := HPL.out; omega)]))
        have f2 : ((wr.alloc (.cells #[.int .i64 2, .int .i64 (dq : Int), .int .i64 src, .int .u8 cv] 48)).setCell ⟨w.heap.size + 1, p, none⟩ (.bool true)).frozen? ⟨w.heap.size + 1 + 1, dq, none⟩ = false := frozen_of_row _ _ _ _ _ G3.out
        have o2 : ((wr.alloc (.cells #[.int .i64 2, .int .i64 (dq : Int), .int .i64 src, .int .u8 cv] 48)).setCell ⟨w.heap.size + 1, p, none⟩ (.bool true)).cell? ⟨w.heap.size + 1 + 1, dq, none⟩ = some (.bool (A (dq : Int))) := cellAt G3.out dq _ (visB_get (askL_get (by assumption)))
        have K3 : Hid ((((wr.alloc (.cells #[.int .i64 2, .int .i64 (dq : Int), .int .i64 src, .int .u8 cv] 48)).setCell ⟨w.heap.size + 1, p, none⟩ (.bool true)).setCell ⟨w.heap.size + 1 + 1, dq, none⟩ (.bool false)).heap[w.heap.size + 1 + 1]? = some (.cells (visB (askL (liv (ss.drop p)))) 4 (0, 0))) := by
          rw [hA2, ← askL_set false (by assumption), ← visB_set]
          exact heap_setCell_same _ _ _ _ _ _ G3.out
        have K2 : Hid ((((wr.alloc (.cells #[.int .i64 2, .int .i64 (dq : Int), .int .i64 src, .int .u8 cv] 48)).setCell ⟨w.heap.size + 1, p, none⟩ (.bool true)).setCell ⟨w.heap.size + 1 + 1, dq, none⟩ (.bool false)).heap[w.heap.size + 1]? = some (.cells (visB (outL ss p)) 4 (0, 0))) := (heap_setCell_other _ _ _ _ (by show w.heap.size + 1 ≠ w.heap.size + 1 + 1; omega)).trans G2.out
        have K4 : Hid ((((wr.alloc (.cells #[.int .i64 2, .int .i64 (dq : Int), .int .i64 src, .int .u8 cv] 48)).setCell ⟨w.heap.size + 1, p, none⟩ (.bool true)).setCell ⟨w.heap.size + 1 + 1, dq, none⟩ (.bool false)).heap[w.heap.size]? = some (.cells #[.slice ia il ic, .slice oa ol oc, .int .i64 rg, .slice (some ⟨b, off, none⟩) sl sc] 25 (0, 0))) := (heap_setCell_other _ _ _ _ (by show w.heap.size ≠ w.heap.size + 1 + 1; omega)).trans G4.out
        have K1 : Hid ((((wr.alloc (.cells #[.int .i64 2, .int .i64 (dq : Int), .int .i64 src, .int .u8 cv] 48)).setCell ⟨w.heap.size + 1, p, none⟩ (.bool true)).setCell ⟨w.heap.size + 1 + 1, dq, none⟩ (.bool false)).heap[wr.heap.size]? = some (.cells #[.int .i64 2, .int .i64 (dq : Int), .int .i64 src, .int .u8 cv] 48 (0, 0))) := (heap_setCell_other _ _ _ _ (by show wr.heap.size ≠ w.heap.size + 1 + 1; have := HLT.out; omega)).trans G1.out
        have e0 : (((wr.alloc (.cells #[.int .i64 2, .int .i64 (dq : Int), .int .i64 src, .int .u8 cv] 48)).setCell ⟨w.heap.size + 1, p, none⟩ (.bool true)).setCell ⟨w.heap.size + 1 + 1, dq, none⟩ (.bool false)).cell? ⟨wr.heap.size, 0, none⟩ = some (.int .i64 2) := cellAt K1.out 0 _ rfl
        have e1 : (((wr.alloc (.cells #[.int .i64 2, .int .i64 (dq : Int), .int .i64 src, .int .u8 cv] 48)).setCell ⟨w.heap.size + 1, p, none⟩ (.bool true)).setCell ⟨w.heap.size + 1 + 1, dq, none⟩ (.bool false)).cell? ⟨wr.heap.size, 1, none⟩ = some (.int .i64 (dq : Int)) := cellAt K1.out 1 _ rfl
        have e2 : (((wr.alloc (.cells #[.int .i64 2, .int .i64 (dq : Int), .int .i64 src, .int .u8 cv] 48)).setCell ⟨w.heap.size + 1, p, none⟩ (.bool true)).setCell ⟨w.heap.size + 1 + 1, dq, none⟩ (.bool false)).cell? ⟨wr.heap.size, 2, none⟩ = some (.int .i64 src) := cellAt K1.out 2 _ rfl
        have HBC : Hid (Below w.heap.size w (((wr.alloc (.cells #[.int .i64 2, .int .i64 (dq : Int), .int .i64 src, .int .u8 cv] 48)).setCell ⟨w.heap.size + 1, p, none⟩ (.bool true)).setCell ⟨w.heap.size + 1 + 1, dq, none⟩ (.bool false))) := HBB.out.setCell (p := ⟨w.heap.size + 1 + 1, dq, none⟩) (by show w.heap.size ≤ w.heap.size + 1 + 1; omega) _
        have HFIN : Hid (Holds (((wr.alloc (.cells #[.int .i64 2, .int .i64 (dq : Int), .int .i64 src, .int .u8 cv] 48)).setCell ⟨w.heap.size + 1, p, none⟩ (.bool true)).setCell ⟨w.heap.size + 1 + 1, dq, none⟩ (.bool false)) [(w.heap.size + 1 + 1, .cells (visB (askL (liv (ss.drop p)))) 4), (w.heap.size + 1, .cells (visB (outL ss p)) 4), (w.heap.size, .cells #[.slice ia il ic, .slice oa ol oc, .int .i64 rg, .slice (some ⟨b, off, none⟩) sl sc] 25)]) := holds_cons (holds_cons (holds_cons (holds_nil _) K4.out) K2.out) K3.out
        clear hbz hA2 hA
        go_wp2
        exact ⟨⟨p, (p : Int) - 1, by omega, by go_num, rfl, HBC.out, HFIN.out⟩, by simp [intOf] <;> omega⟩
      by_cases w4 : op = 4
      · subst w4
        obtain ⟨sq, rfl⟩ := Int.eq_ofNat_of_zero_le (h4 rfl).1
        have hsq : sq < 65 := by have := (h4 rfl).2; omega
        clear h4 v5 w1 w2
        have hbz : bsyS ⟨4, (dq : Int), (sq : Int), c⟩ A = true := by simp [bsyS, hA]
        have hA2 : liv (ss.drop p) = (fun r => if r = (sq : Int) then true else A r) := by
          rw [HLV.out, hbz]
          rfl
        have H1 : Hid ((wr.alloc (.cells #[.int .i64 4, .int .i64 (dq : Int), .int .i64 (sq : Int), .int .u8 cv] 48)).heap[wr.heap.size]? = some (.cells #[.int .i64 4, .int .i64 (dq : Int), .int .i64 (sq : Int), .int .u8 cv] 48 (0, 0))) := heap_alloc_last _ _
        have H2 : Hid ((wr.alloc (.cells #[.int .i64 4, .int .i64 (dq : Int), .int .i64 (sq : Int), .int .u8 cv] 48)).heap[w.heap.size + 1]? = some (.cells (visB (outL ss (p + 1))) 4 (0, 0))) := heap_later (holds_at HH.out 1 rfl) ((Below.refl _ _).alloc (Nat.le_refl _) _)
        have H3 : Hid ((wr.alloc (.cells #[.int .i64 4, .int .i64 (dq : Int), .int .i64 (sq : Int), .int .u8 cv] 48)).heap[w.heap.size + 1 + 1]? = some (.cells (visB (askL A)) 4 (0, 0))) := heap_later (holds_at HH.out 0 rfl) ((Below.refl _ _).alloc (Nat.le_refl _) _)
        have H4 : Hid ((wr.alloc (.cells #[.int .i64 4, .int .i64 (dq : Int), .int .i64 (sq : Int), .int .u8 cv] 48)).heap[w.heap.size]? = some (.cells #[.slice ia il ic, .slice oa ol oc, .int .i64 rg, .slice (some ⟨b, off, none⟩) sl sc] 25 (0, 0))) := heap_later (holds_at HH.out 2 rfl) ((Below.refl _ _).alloc (Nat.le_refl _) _)
        have f1 : (wr.alloc (.cells #[.int .i64 4, .int .i64 (dq : Int), .int .i64 (sq : Int), .int .u8 cv] 48)).frozen? ⟨w.heap.size + 1, p, none⟩ = false := frozen_of_row _ _ _ _ _ H2.out
        have o1 : (wr.alloc (.cells #[.int .i64 4, .int .i64 (dq : Int), .int .i64 (sq : Int), .int .u8 cv] 48)).cell? ⟨w.heap.size + 1, p, none⟩ = some (.bool false) := cellAt H2.out p _ (visB_get (outL_at (Nat.lt_succ_self p)))
        have G1 : Hid (((wr.alloc (.cells #[.int .i64 4, .int .i64 (dq : Int), .int .i64 (sq : Int), .int .u8 cv] 48)).setCell ⟨w.heap.size + 1, p, none⟩ (.bool true)).heap[wr.heap.size]? = some (.cells #[.int .i64 4, .int .i64 (dq : Int), .int .i64 (sq : Int), .int .u8 cv] 48 (0, 0))) := (heap_setCell_other _ _ _ _ (by show wr.heap.size ≠ w.heap.size + 1; have := HLT.out; omega)).trans H1.out
        have G2 : Hid (((wr.alloc (.cells #[.int .i64 4, .int .i64 (dq : Int), .int .i64 (sq : Int), .int .u8 cv] 48)).setCell ⟨w.heap.size + 1, p, none⟩ (.bool true)).heap[w.heap.size + 1]? = some (.cells (visB (outL ss p)) 4 (0, 0))) := by
          rw [← outL_set HGET.out, ← HDA.out, hbz, ← visB_set]
          exact heap_setCell_same _ _ _ _ _ _ H2.out
        have G3 : Hid (((wr.alloc (.cells #[.int .i64 4, .int .i64 (dq : Int), .int .i64 (sq : Int), .int .u8 cv] 48)).setCell ⟨w.heap.size + 1, p, none⟩ (.bool true)).heap[w.heap.size + 1 + 1]? = some (.cells (visB (askL A)) 4 (0, 0))) := (heap_setCell_other _ _ _ _ (by show w.heap.size + 1 + 1 ≠ w.heap.size + 1; omega)).trans H3.out
        have G4 : Hid (((wr.alloc (.cells #[.int .i64 4, .int .i64 (dq : Int), .int .i64 (sq : Int), .int .u8 cv] 48)).setCell ⟨w.heap.size + 1, p, none⟩ (.bool true)).heap[w.heap.size]? = some (.cells #[.slice ia il ic, .slice oa ol oc, .int .i64 rg, .slice (some ⟨b, off, none⟩) sl sc] 25 (0, 0))) := (heap_setCell_other _ _ _ _ (by show w.heap.size ≠ w.heap.size + 1; omega)).trans H4.out
        have g0 : ((wr.alloc (.cells #[.int .i64 4, .int .i64 (dq : Int), .int .i64 (sq : Int), .int .u8 cv] 48)).setCell ⟨w.heap.size + 1, p, none⟩ (.bool true)).cell? ⟨wr.heap.size, 0, none⟩ = some (.int .i64 4) := cellAt G1.out 0 _ rfl
        have g1 : ((wr.alloc (.cells #[.int .i64 4, .int .i64 (dq : Int), .int .i64 (sq : Int), .int .u8 cv] 48)).setCell ⟨w.heap.size + 1, p, none⟩ (.bool true)).cell? ⟨wr.heap.size, 1, none⟩ = some (.int .i64 (dq : Int)) := cellAt G1.out 1 _ rfl
        have g2 : ((wr.alloc (.cells #[.int .i64 4, .int .i64 (dq : Int), .int .i64 (sq : Int), .int .u8 cv] 48)).setCell ⟨w.heap.size + 1, p, none⟩ (.bool true)).cell? ⟨wr.heap.size, 2, none⟩ = some (.int .i64 (sq : Int)) := cellAt G1.out 2 _ rfl
        have HBB : Hid (Below w.heap.size w ((wr.alloc (.cells #[.int .i64 4, .int .i64 (dq : Int), .int .i64 (sq : Int), .int .u8 cv] 48)).setCell ⟨w.heap.size + 1, p, none⟩ (.bool true))) := (HB.out.alloc HB.out.size _).setCell (p := ⟨w.heap.size + 1, p, none⟩) (by show w.heap.size ≤ w.heap.size + 1; omega) _
        have a3 := cellAt H3.out dq _ (visB_get (askL_get (A := A) hdq))
        rw [hA] at a3
        have g3 : ((wr.alloc (.cells #[.int .i64 4, .int .i64 (dq : Int), .int .i64 (sq : Int), .int .u8 cv] 48)).setCell ⟨w.heap.size + 1, p, none⟩ (.bool true)).cell? ⟨w.heap.size + 1, p, none⟩ = some (.bool true) := by
          have h9 : ((wr.alloc (.cells #[.int .i64 4, .int .i64 (dq : Int), .int .i64 (sq : Int), .int .u8 cv] 48)).setCell ⟨w.heap.size + 1, p, none⟩ (.bool true)).heap[w.heap.size + 1]? = _ := heap_setCell_same _ _ _ _ _ _ H2.out
          exact cellAt h9 p _ (by rw [visB_set]; exact visB_get (by rw [List.getElem?_set, if_pos rfl, if_pos (by simp [outL, bsyL_len]; have := HPL.out; omega)]))
        have f2 : ((wr.alloc (.cells #[.int .i64 4, .int .i64 (dq : Int), .int .i64 (sq : Int), .int .u8 cv] 48)).setCell ⟨w.heap.size + 1, p, none⟩ (.bool true)).frozen? ⟨w.heap.size + 1 + 1, sq, none⟩ = false := frozen_of_row _ _ _ _ _ G3.out
        have o2 : ((wr.alloc (.cells #[.int .i64 4, .int .i64 (dq : Int), .int .i64 (sq : Int), .int .u8 cv] 48)).setCell ⟨w.heap.size + 1, p, none⟩ (.bool true)).cell? ⟨w.heap.size + 1 + 1, sq, none⟩ = some (.bool (A (sq : Int))) := cellAt G3.out sq _ (visB_get (askL_get (by assumption)))
        have K3 : Hid ((((wr.alloc (.cells #[.int .i64 4, .int .i64 (dq : Int), .int .i64 (sq : Int), .int .u8 cv] 48)).setCell ⟨w.heap.size + 1, p, none⟩ (.bool true)).setCell ⟨w.heap.size + 1 + 1, sq, none⟩ (.bool true)).heap[w.heap.size + 1 + 1]? = some (.cells (visB (askL (liv (ss.drop p)))) 4 (0, 0))) := by
          rw [hA2, ← askL_set true (by assumption), ← visB_set]
          exact heap_setCell_same _ _ _ _ _ _ G3.out
        have K2 : Hid ((((wr.alloc (.cells #[.int .i64 4, .int .i64 (dq : Int), .int .i64 (sq : Int), .int .u8 cv] 48)).setCell ⟨w.heap.size + 1, p, none⟩ (.bool true)).setCell ⟨w.heap.size + 1 + 1, sq, none⟩ (.bool true)).heap[w.heap.size + 1]? = some (.cells (visB (outL ss p)) 4 (0, 0))) := (heap_setCell_other _ _ _ _ (by show w.heap.size + 1 ≠ w.heap.size + 1 + 1; omega)).trans G2.out
        have K4 : Hid ((((wr.alloc (.cells #[.int .i64 4, .int .i64 (dq : Int), .int .i64 (sq : Int), .int .u8 cv] 48)).setCell ⟨w.heap.size + 1, p, none⟩ (.bool true)).setCell ⟨w.heap.size + 1 + 1, sq, none⟩ (.bool true)).heap[w.heap.size]? = some (.cells #[.slice ia il ic, .slice oa ol oc, .int .i64 rg, .slice (some ⟨b, off, none⟩) sl sc] 25 (0, 0))) := (heap_setCell_other _ _ _ _ (by show w.heap.size ≠ w.heap.size + 1 + 1; omega)).trans G4.out
        have K1 : Hid ((((wr.alloc (.cells #[.int .i64 4, .int .i64 (dq : Int), .int .i64 (sq : Int), .int .u8 cv] 48)).setCell ⟨w.heap.size + 1, p, none⟩ (.bool true)).setCell ⟨w.heap.size + 1 + 1, sq, none⟩ (.bool true)).heap[wr.heap.size]? = some (.cells #[.int .i64 4, .int .i64 (dq : Int), .int .i64 (sq : Int), .int .u8 cv] 48 (0, 0))) := (heap_setCell_other _ _ _ _ (by show wr.heap.size ≠ w.heap.size + 1 + 1; have := HLT.out; omega)).trans G1.out
        have e0 : (((wr.alloc (.cells #[.int .i64 4, .int .i64 (dq : Int), .int .i64 (sq : Int), .int .u8 cv] 48)).setCell ⟨w.heap.size + 1, p, none⟩ (.bool true)).setCell ⟨w.heap.size + 1 + 1, sq, none⟩ (.bool true)).cell? ⟨wr.heap.size, 0, none⟩ = some (.int .i64 4) := cellAt K1.out 0 _ rfl
        have e1 : (((wr.alloc (.cells #[.int .i64 4, .int .i64 (dq : Int), .int .i64 (sq : Int), .int .u8 cv] 48)).setCell ⟨w.heap.size + 1, p, none⟩ (.bool true)).setCell ⟨w.heap.size + 1 + 1, sq, none⟩ (.bool true)).cell? ⟨wr.heap.size, 1, none⟩ = some (.int .i64 (dq : Int)) := cellAt K1.out 1 _ rfl
        have e2 : (((wr.alloc (.cells #[.int .i64 4, .int .i64 (dq : Int), .int .i64 (sq : Int), .int .u8 cv] 48)).setCell ⟨w.heap.size + 1, p, none⟩ (.bool true)).setCell ⟨w.heap.size + 1 + 1, sq, none⟩ (.bool true)).cell? ⟨wr.heap.size, 2, none⟩ = some (.int .i64 (sq : Int)) := cellAt K1.out 2 _ rfl
        have HBC : Hid (Below w.heap.size w (((wr.alloc (.cells #[.int .i64 4, .int .i64 (dq : Int), .int .i64 (sq : Int), .int .u8 cv] 48)).setCell ⟨w.heap.size + 1, p, none⟩ (.bool true)).setCell ⟨w.heap.size + 1 + 1, sq, none⟩ (.bool true))) := HBB.out.setCell (p := ⟨w.heap.size + 1 + 1, sq, none⟩) (by show w.heap.size ≤ w.heap.size + 1 + 1; omega) _
        have HFIN : Hid (Holds (((wr.alloc (.cells #[.int .i64 4, .int .i64 (dq : Int), .int .i64 (sq : Int), .int .u8 cv] 48)).setCell ⟨w.heap.size + 1, p, none⟩ (.bool true)).setCell ⟨w.heap.size + 1 + 1, sq, none⟩ (.bool true)) [(w.heap.size + 1 + 1, .cells (visB (askL (liv (ss.drop p)))) 4), (w.heap.size + 1, .cells (visB (outL ss p)) 4), (w.heap.size, .cells #[.slice ia il ic, .slice oa ol oc, .int .i64 rg, .slice (some ⟨b, off, none⟩) sl sc] 25)]) := holds_cons (holds_cons (holds_cons (holds_nil _) K4.out) K2.out) K3.out
        clear hbz hA2 hA
        go_wp2
        exact ⟨⟨p, (p : Int) - 1, by omega, by go_num, rfl, HBC.out, HFIN.out⟩, by simp [intOf] <;> omega⟩
      obtain rfl : op = 3 := by have := h3 W5.out; omega
      clear h4 v5 w1 w2 w4
      have hbz : bsyS ⟨3, (dq : Int), src, c⟩ A = true := by simp [bsyS, hA]
      have hA2 : liv (ss.drop p) = A := by
        rw [HLV.out, hbz]
        rfl
      have H1 : Hid ((wr.alloc (.cells #[.int .i64 3, .int .i64 (dq : Int), .int .i64 src, .int .u8 cv] 48)).heap[wr.heap.size]? = some (.cells #[.int .i64 3, .int .i64 (dq : Int), .int .i64 src, .int .u8 cv] 48 (0, 0))) := heap_alloc_last _ _
      have H2 : Hid ((wr.alloc (.cells #[.int .i64 3, .int .i64 (dq : Int), .int .i64 src, .int .u8 cv] 48)).heap[w.heap.size + 1]? = some (.cells (visB (outL ss (p + 1))) 4 (0, 0))) := heap_later (holds_at HH.out 1 rfl) ((Below.refl _ _).alloc (Nat.le_refl _) _)
      have H3 : Hid ((wr.alloc (.cells #[.int .i64 3, .int .i64 (dq : Int), .int .i64 src, .int .u8 cv] 48)).heap[w.heap.size + 1 + 1]? = some (.cells (visB (askL A)) 4 (0, 0))) := heap_later (holds_at HH.out 0 rfl) ((Below.refl _ _).alloc (Nat.le_refl _) _)
      have H4 : Hid ((wr.alloc (.cells #[.int .i64 3, .int .i64 (dq : Int), .int .i64 src, .int .u8 cv] 48)).heap[w.heap.size]? = some (.cells #[.slice ia il ic, .slice oa ol oc, .int .i64 rg, .slice (some ⟨b, off, none⟩) sl sc] 25 (0, 0))) := heap_later (holds_at HH.out 2 rfl) ((Below.refl _ _).alloc (Nat.le_refl _) _)
      have f1 : (wr.alloc (.cells #[.int .i64 3, .int .i64 (dq : Int), .int .i64 src, .int .u8 cv] 48)).frozen? ⟨w.heap.size + 1, p, none⟩ = false := frozen_of_row _ _ _ _ _ H2.out
      have o1 : (wr.alloc (.cells #[.int .i64 3, .int .i64 (dq : Int), .int .i64 src, .int .u8 cv] 48)).cell? ⟨w.heap.size + 1, p, none⟩ = some (.bool false) := cellAt H2.out p _ (visB_get (outL_at (Nat.lt_succ_self p)))
      have G1 : Hid (((wr.alloc (.cells #[.int .i64 3, .int .i64 (dq : Int), .int .i64 src, .int .u8 cv] 48)).setCell ⟨w.heap.size + 1, p, none⟩ (.bool true)).heap[wr.heap.size]? = some (.cells #[.int .i64 3, .int .i64 (dq : Int), .int .i64 src, .int .u8 cv] 48 (0, 0))) := (heap_setCell_other _ _ _ _ (by show wr.heap.size ≠ w.heap.size + 1; have := HLT.out; omega)).trans H1.out
      have G2 : Hid (((wr.alloc (.cells #[.int .i64 3, .int .i64 (dq : Int), .int .i64 src, .int .u8 cv] 48)).setCell ⟨w.heap.size + 1, p, none⟩ (.bool true)).heap[w.heap.size + 1]? = some (.cells (visB (outL ss p)) 4 (0, 0))) := by
        rw [← outL_set HGET.out, ← HDA.out, hbz, ← visB_set]
        exact heap_setCell_same _ _ _ _ _ _ H2.out
      have G3 : Hid (((wr.alloc (.cells #[.int .i64 3, .int .i64 (dq : Int), .int .i64 src, .int .u8 cv] 48)).setCell ⟨w.heap.size + 1, p, none⟩ (.bool true)).heap[w.heap.size + 1 + 1]? = some (.cells (visB (askL A)) 4 (0, 0))) := (heap_setCell_other _ _ _ _ (by show w.heap.size + 1 + 1 ≠ w.heap.size + 1; omega)).trans H3.out
      have G4 : Hid (((wr.alloc (.cells #[.int .i64 3, .int .i64 (dq : Int), .int .i64 src, .int .u8 cv] 48)).setCell ⟨w.heap.size + 1, p, none⟩ (.bool true)).heap[w.heap.size]? = some (.cells #[.slice ia il ic, .slice oa ol oc, .int .i64 rg, .slice (some ⟨b, off, none⟩) sl sc] 25 (0, 0))) := (heap_setCell_other _ _ _ _ (by show w.heap.size ≠ w.heap.size + 1; omega)).trans H4.out
      have g0 : ((wr.alloc (.cells #[.int .i64 3, .int .i64 (dq : Int), .int .i64 src, .int .u8 cv] 48)).setCell ⟨w.heap.size + 1, p, none⟩ (.bool true)).cell? ⟨wr.heap.size, 0, none⟩ = some (.int .i64 3) := cellAt G1.out 0 _ rfl
      have g1 : ((wr.alloc (.cells #[.int .i64 3, .int .i64 (dq : Int), .int .i64 src, .int .u8 cv] 48)).setCell ⟨w.heap.size + 1, p, none⟩ (.bool true)).cell? ⟨wr.heap.size, 1, none⟩ = some (.int .i64 (dq : Int)) := cellAt G1.out 1 _ rfl
      have g2 : ((wr.alloc (.cells #[.int .i64 3, .int .i64 (dq : Int), .int .i64 src, .int .u8 cv] 48)).setCell ⟨w.heap.size + 1, p, none⟩ (.bool true)).cell? ⟨wr.heap.size, 2, none⟩ = some (.int .i64 src) := cellAt G1.out 2 _ rfl
      have HBB : Hid (Below w.heap.size w ((wr.alloc (.cells #[.int .i64 3, .int .i64 (dq : Int), .int .i64 src, .int .u8 cv] 48)).setCell ⟨w.heap.size + 1, p, none⟩ (.bool true))) := (HB.out.alloc HB.out.size _).setCell (p := ⟨w.heap.size + 1, p, none⟩) (by show w.heap.size ≤ w.heap.size + 1; omega) _
      have a3 := cellAt H3.out dq _ (visB_get (askL_get (A := A) hdq))
      rw [hA] at a3
      have g3 : ((wr.alloc (.cells #[.int .i64 3, .int .i64 (dq : Int), .int .i64 src, .int .u8 cv] 48)).setCell ⟨w.heap.size + 1, p, none⟩ (.bool true)).cell? ⟨w.heap.size + 1, p, none⟩ = some (.bool true) := by
        have h9 : ((wr.alloc (.cells #[.int .i64 3, .int .i64 (dq : Int), .int .i64 src, .int .u8 cv] 48)).setCell ⟨w.heap.size + 1, p, none⟩ (.bool true)).heap[w.heap.size + 1]? = _ := heap_setCell_same _ _ _ _ _ _ H2.out
        exact cellAt h9 p _ (by rw [visB_set]; exact visB_get (by rw [List.getElem?_set, if_pos rfl, if_pos (by simp [outL, bsyL_len]; have := HPL.out; omega)]))
      have K3 : Hid (((wr.alloc (.cells #[.int .i64 3, .int .i64 (dq : Int), .int .i64 src, .int .u8 cv] 48)).setCell ⟨w.heap.size + 1, p, none⟩ (.bool true)).heap[w.heap.size + 1 + 1]? = some (.cells (visB (askL (liv (ss.drop p)))) 4 (0, 0))) := by
        rw [hA2]
        exact G3.out
      have K2 : Hid _ := G2.out
      have K4 : Hid _ := G4.out
      have HBC : Hid _ := HBB.out
      have HFIN : Hid (Holds ((wr.alloc (.cells #[.int .i64 3, .int .i64 (dq : Int), .int .i64 src, .int .u8 cv] 48)).setCell ⟨w.heap.size + 1, p, none⟩ (.bool true)) [(w.heap.size + 1 + 1, .cells (visB (askL (liv (ss.drop p)))) 4), (w.heap.size + 1, .cells (visB (outL ss p)) 4), (w.heap.size, .cells #[.slice ia il ic, .slice oa ol oc, .int .i64 rg, .slice (some ⟨b, off, none⟩) sl sc] 25)]) := holds_cons (holds_cons (holds_cons (holds_nil _) K4.out) K2.out) K3.out
      clear hbz hA2 hA
      go_wp2
      exact ⟨⟨p, (p : Int) - 1, by omega, by go_num, rfl, HBC.out, HFIN.out⟩, by simp [intOf] <;> omega⟩
end Go.Proofs.YtanmgpgiepkogaaDoor
