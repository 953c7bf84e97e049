/- Steps turned round in place, lists of numbers copied. -/
import Derived.Test.YtanmgpgiepkogaaDoorStepK
import Derived.Test.YtanmgpgiepkogaaDoorStepB
import Derived.Shelf.Abstract
import Derived.Test.YtanmgpgiepkogaaDoorPlacesK
import Derived.Test.YtanmgpgiepkogaaDoorHolds
import Derived.BigRegion
import Derived.Test.YtanmgpgiepkogaaDoorGfApp
/- What areHalves and Contains of package prog answer; what is known of an operation, by letters. -/
namespace Go.Proofs.YtanmgpgiepkogaaDoor
open Go.RowKit Go.Shelf Gf
set_option linter.unusedVariables false
set_option maxRecDepth 20000
set_option linter.unusedSimpArgs false
set_option maxHeartbeats 4000000 in
theorem halves_F (l cap : Nat) (a : Option Addr) (xs : List Int) (w : World) (hl : l = xs.length) (hl9 : l ≤ 4611686018427387904) (hcap : l ≤ cap) (hX : RowI w a xs) :
    Calls Tryd.prog 40 #[.slice a l cap] w fun e w' => e = .returned (.bool (Prg.goodB (32) xs)) ∧ w = w' := by
  obtain ⟨d, hd⟩ : ∃ d, d = Prg.goodB (32) xs := ⟨_, rfl⟩
  have HY : Hid (GoodH (32) xs → d = true) := fun h => hd.trans (Prg.goodB_yes h)
  have HN0 : Hid (¬ GoodH (32) xs → d = false) := fun h => hd.trans (Prg.goodB_no h)
  rw [← hd]
  clear hd
  have HL : Hid (l = xs.length) := hl
  have HX : Hid (RowI w a xs) := hX
  clear hl hX
  go_enter Tryd.func40, Tryd.ntmps40
  go_wp2
  go_loopw [7] (fun i wr => ∃ j : Nat, j ≤ l ∧ i = .int .i64 j ∧ wr = w ∧ GoodH (32) (xs.take j)) (fun i _ => l - (intOf i).toNat)
  case atStart => exact ⟨0, by omega, rfl, rfl, by rw [List.take_zero]; exact goodH_nil _⟩
  case round =>
    obtain ⟨j, hj, rfl, rfl, hg⟩ := hrel
    have HG : Hid (GoodH (32) (xs.take j)) := hg
    clear hg
    by_cases hlt : j < l
    · have hjx : j < xs.length := by rw [← HL.out]; exact hlt
      obtain ⟨b, off, hab, hbl, hc⟩ := rowI_cell HX.out hjx
      have c1 := hc j hjx
      have c0 := hc (j - 1) (by omega)
      rw [show xs.getD j 0 = xs[j] by simp [List.getD, hjx]] at c1
      obtain ⟨x, hx⟩ : ∃ x, xs[j] = x := ⟨_, rfl⟩
      obtain ⟨y, hy⟩ : ∃ y, xs.getD (j - 1) 0 = y := ⟨_, rfl⟩
      have HS : Hid _ := Prg.goodH_step2 (n := 32) hjx hx hy HG.out
      have HF : Hid (¬ GoodH (32) (xs.take (j + 1)) → ¬ GoodH (32) xs) := fun h => Prg.goodH_full h
      rw [hx] at c1
      rw [hy] at c0
      clear hx hy hc hjx
      subst hab
      by_cases n1 : 0 ≤ x ∧ x < 32
      rotate_left
      · have HB : Hid _ := HF.out (fun h => n1 (by have := (HS.out.1 h).1; omega))
        clear HS HF c0
        go_wp2_with fail
        refine Calls.mono (pthere_F x 32 _) ?_
        rw [decide_eq_false n1]
        rintro e w2 ⟨rfl, rfl⟩
        go_wp2
        go_ret
        exact ⟨by rw [HN0.out HB.out]; rfl, rfl⟩
      by_cases n3 : j = 0
      · have HN : Hid _ := HS.out.2 ⟨by omega, .inl n3⟩
        clear HS HF c0
        subst n3
        rw [Nat.add_zero] at c1
        go_wp2_with fail
        refine Calls.mono (pthere_F x 32 _) ?_
        rw [decide_eq_true n1]
        rintro e w2 ⟨rfl, rfl⟩
        go_wp2
        exact ⟨⟨1, by omega, by go_num, by first | rfl | trivial, HN.out⟩, by simp [intOf]; omega⟩
      obtain ⟨q, rfl⟩ : ∃ q, j = q + 1 := ⟨j - 1, by omega⟩
      rw [Nat.add_sub_cancel] at c0
      by_cases n4 : x ≤ y
      · have HB : Hid _ := HF.out (fun h => by have := (HS.out.1 h).2; omega)
        clear HS HF
        go_wp2_with fail
        refine Calls.mono (pthere_F x 32 _) ?_
        rw [decide_eq_true n1]
        rintro e w2 ⟨rfl, rfl⟩
        go_wp2
        go_ret
        exact ⟨by rw [HN0.out HB.out]; rfl, rfl⟩
      · have HN : Hid _ := HS.out.2 ⟨by omega, .inr (by omega)⟩
        clear HS HF
        go_wp2_with fail
        refine Calls.mono (pthere_F x 32 _) ?_
        rw [decide_eq_true n1]
        rintro e w2 ⟨rfl, rfl⟩
        go_wp2
        exact ⟨⟨q + 1 + 1, by omega, by go_num, by first | rfl | trivial, HN.out⟩, by simp [intOf]; omega⟩
    · obtain rfl : j = l := by omega
      have HF : Hid (GoodH (32) xs) := by have := HG.out; rwa [HL.out, List.take_length] at this
      go_wp2
      go_ret
      exact ⟨by rw [HY.out HF.out]; rfl, rfl⟩
set_option maxHeartbeats 2000000 in
theorem indexB_F (g n : Nat) (bs : List Bool) (w : World) (hn : n = bs.length) (hn9 : n ≤ 1000) (h : w.heap[g]? = some (.cells (visB bs) 4 (0, 0))) :
    Calls Tryd.prog 84 #[.slice (some ⟨g, 0, none⟩) n n, .bool false] w fun e w' => (∃ i : Int, e = .returned (.int .i64 i) ∧ (0 ≤ i ↔ false ∈ bs) ∧ i < 1000 ∧ -2 < i) ∧ w = w' := by
  have HN : Hid (n = bs.length) := hn
  have HH : Hid (w.heap[g]? = some (.cells (visB bs) 4 (0, 0))) := h
  clear hn h
  go_enter Tryd.func84, Tryd.ntmps84
  go_wp2
  go_loopw [8] (fun i wr => ∃ j : Nat, j ≤ n ∧ i = .int .i64 j ∧ wr = w ∧ false ∉ bs.take j) (fun i _ => n - (intOf i).toNat)
  case atStart => exact ⟨0, by omega, rfl, rfl, by simp⟩
  case round =>
    obtain ⟨j, hj, rfl, rfl, hno⟩ := hrel
    have HNO : Hid (false ∉ bs.take j) := hno
    clear hno
    by_cases hlt : j < n
    · have hjb : j < bs.length := by rw [← HN.out]; exact hlt
      have hget : bs[j]? = some bs[j] := List.getElem?_eq_getElem hjb
      have HTK : Hid (bs.take (j + 1) = bs.take j ++ [bs[j]]) := List.take_succ_eq_append_getElem hjb
      have c0 := cellAt HH.out j _ (visB_get hget)
      obtain ⟨x, hx⟩ : ∃ x, bs[j] = x := ⟨_, rfl⟩
      rw [hx] at c0 HTK hget
      have HM : Hid (x ∈ bs) := List.mem_of_getElem? hget
      clear hx hget hjb
      cases x
      · have HMM : Hid (false ∈ bs) := HM.out
        clear HM HTK
        go_wp2
        go_ret
        exact ⟨⟨j, rfl, by simp [HMM.out], by omega, by omega⟩, rfl⟩
      · have HNX : Hid (false ∉ bs.take (j + 1)) := by show _ ∉ _; rw [HTK.out]; simp [HNO.out]
        clear HM HTK
        go_wp2
        exact ⟨⟨j + 1, by omega, by go_num, by first | rfl | trivial, HNX.out⟩, by simp [intOf]; omega⟩
    · obtain rfl : j = n := by omega
      have HNB : Hid (false ∉ bs) := by have := HNO.out; rwa [HN.out, List.take_length] at this
      go_wp2
      go_ret
      exact ⟨⟨-1, rfl, by simp [HNB.out], by omega, by omega⟩, rfl⟩
theorem containsB_F (g n : Nat) (bs : List Bool) (w : World) (hn : n = bs.length) (hn9 : n ≤ 1000) (h : w.heap[g]? = some (.cells (visB bs) 4 (0, 0))) :
    Calls Tryd.prog 66 #[.slice (some ⟨g, 0, none⟩) n n, .bool false] w fun e w' => e = .returned (.bool (decide (false ∈ bs))) ∧ w = w' := by
  have HC : Hid _ := indexB_F g n bs w hn hn9 h
  clear hn h
  go_enter Tryd.func66, Tryd.ntmps66
  go_wp2_with fail
  refine Calls.mono HC.out ?_
  rintro e w1 ⟨⟨i, rfl, hi, _, _⟩, rfl⟩
  have HI : Hid (0 ≤ i ↔ false ∈ bs) := hi
  clear hi
  by_cases h0 : 0 ≤ i
  · have E : Hid (decide (false ∈ bs) = true) := decide_eq_true (HI.out.1 h0)
    go_wp2
    go_ret
    exact ⟨by rw [E.out]; rfl, rfl⟩
  · have E : Hid (decide (false ∈ bs) = false) := decide_eq_false (fun h => h0 (HI.out.2 h))
    have E0 : Hid (decide (0 ≤ i) = false) := decide_eq_false h0
    go_wp2
    go_ret
    exact ⟨by rw [E.out]; show Ending.returned (Value.bool (decide (0 ≤ i))) = _; rw [E0.out], rfl⟩
noncomputable def okSB (ni no : Nat) (rg : Int) (s : Stp) : Bool := @decide (OkS ni no rg s) (Classical.propDecidable _)
theorem okSB_yes {ni no : Nat} {rg : Int} {s : Stp} (h : OkS ni no rg s) : okSB ni no rg s = true := @decide_eq_true _ (Classical.propDecidable _) h
theorem okSB_no {ni no : Nat} {rg : Int} {s : Stp} (h : ¬ OkS ni no rg s) : okSB ni no rg s = false := @decide_eq_false _ (Classical.propDecidable _) h
theorem okSB_dec {ni no : Nat} {rg : Int} {s : Stp} {P : Prop} [Decidable P] (h : P ↔ OkS ni no rg s) : decide P = okSB ni no rg s := by
  by_cases hp : P
  · rw [decide_eq_true hp, okSB_yes (h.1 hp)]
  · rw [decide_eq_false hp, okSB_no (fun q => hp (h.2 q))]
/-- an operation that there is, by letters -/
structure OpF (op : Int) (s : ByteArray) (f so an as9 ou : Bool) (n m : Nat) : Prop where
  cells : opcN op = #[.string s, .bool f, .bool so, .bool an, .bool as9, .bool ou, .func (.func n) #[] #[], .func (.func m) #[] #[]]
  ou : ou = decide (op = 5)
  an : an = decide (op = 1 ∨ op = 2)
  as9 : as9 = decide (op = 4 ∨ op = 5)
  f : f = decide (op = 3 ∨ op = 4)
  so : so = decide (op = 1 ∨ op = 4 ∨ op = 5)
  en : ∀ args w, (callFunc n args).run Tryd.prog w = .ok (.enter n args) w
  em : ∀ args w, (callFunc m args).run Tryd.prog w = .ok (.enter m args) w
  fits : ∀ (ni no : Nat) (rg dst src : Int) (c : F) (w : World), Calls Tryd.prog n #[.agg #[.int .i64 ni, .int .i64 no, .int .i64 rg], .agg #[.int .i64 op, .int .i64 dst, .int .i64 src, .int .u8 (c.toNat : Int)]] w fun e w' => e = .returned (.bool (okSB ni no rg ⟨op, dst, src, c⟩)) ∧ Below w.heap.size w w'
theorem op_some {op : Int} (h : 1 ≤ op ∧ op ≤ 5) : ∃ s f so an as9 ou n m, OpF op s f so an as9 ou n m ∧ m = (if op = 1 then 86 else if op = 2 then 88 else if op = 3 then 90 else if op = 4 then 92 else 94) := by
  have : op = 1 ∨ op = 2 ∨ op = 3 ∨ op = 4 ∨ op = 5 := by omega
  rcases this with rfl | rfl | rfl | rfl | rfl
  · exact ⟨_, _, _, _, _, _, _, _, ⟨rfl, by decide, by decide, by decide, by decide, by decide, enters_of Tryd.func85 (by kernel_rfl) rfl, enters_of Tryd.func86 (by kernel_rfl) rfl, fun ni no rg dst src c w => by
      have h := fit_load ni no rg 1 dst src c.toNat w
      rwa [okSB_dec (s := ⟨1, dst, src, c⟩) (ni := ni) (no := no) (rg := rg) (by simp [OkS])] at h⟩, rfl⟩
  · exact ⟨_, _, _, _, _, _, _, _, ⟨rfl, by decide, by decide, by decide, by decide, by decide, enters_of Tryd.func87 (by kernel_rfl) rfl, enters_of Tryd.func88 (by kernel_rfl) rfl, fun ni no rg dst src c w => by
      have h := fit_zero ni no rg 2 dst src c.toNat w
      rwa [okSB_dec (s := ⟨2, dst, src, c⟩) (ni := ni) (no := no) (rg := rg) (by simp [OkS])] at h⟩, rfl⟩
  · exact ⟨_, _, _, _, _, _, _, _, ⟨rfl, by decide, by decide, by decide, by decide, by decide, enters_of Tryd.func89 (by kernel_rfl) rfl, enters_of Tryd.func90 (by kernel_rfl) rfl, fun ni no rg dst src c w => by
      have h := fit_mul ni no rg 3 dst src c.toNat w
      rwa [okSB_dec (s := ⟨3, dst, src, c⟩) (ni := ni) (no := no) (rg := rg) (by simp [OkS])] at h⟩, rfl⟩
  · exact ⟨_, _, _, _, _, _, _, _, ⟨rfl, by decide, by decide, by decide, by decide, by decide, enters_of Tryd.func91 (by kernel_rfl) rfl, enters_of Tryd.func92 (by kernel_rfl) rfl, fun ni no rg dst src c w => by
      have h := fit_add ni no rg 4 dst src c.toNat w
      rwa [okSB_dec (s := ⟨4, dst, src, c⟩) (ni := ni) (no := no) (rg := rg) (by simp [OkS])] at h⟩, rfl⟩
  · exact ⟨_, _, _, _, _, _, _, _, ⟨rfl, by decide, by decide, by decide, by decide, by decide, enters_of Tryd.func93 (by kernel_rfl) rfl, enters_of Tryd.func94 (by kernel_rfl) rfl, fun ni no rg dst src c w => by
      have h := fit_out ni no rg 5 dst src c.toNat w
      rwa [okSB_dec (s := ⟨5, dst, src, c⟩) (ni := ni) (no := no) (rg := rg) (by simp [OkS])] at h⟩, rfl⟩
end Go.Proofs.YtanmgpgiepkogaaDoor

/- What the program's gathering of what is asked for does at one step. -/
namespace Go.Proofs.YtanmgpgiepkogaaDoor
open Go.RowKit Gf
set_option linter.unusedVariables false
set_option maxRecDepth 20000
set_option linter.unusedSimpArgs false
theorem cell_setCell_other9 (w : World) (p q : Addr) (v : Value) (h : q.block ≠ p.block) : (w.setCell p v).cell? q = w.cell? q := by
  simp only [World.cell?]
  rw [heap_setCell_other _ _ _ _ h]
def askN (A : Int → Bool) : List Bool := (List.range 64).map fun (r : Nat) => A (r : Int)
theorem askN_get {A : Int → Bool} {q : Nat} (h : q < 64) : (askN A)[q]? = some (A q) := by simp [askN, h]
theorem askN_set {A : Int → Bool} {q : Nat} (v : Bool) (h : q < 64) : (askN A).set q v = askN (fun r => if r = q then v else A r) := by
  apply List.ext_getElem?
  intro i
  rw [List.getElem?_set]
  by_cases hi : i < 64
  · rw [askN_get hi]
    by_cases e : q = i
    · subst e; rw [if_pos rfl]; simp [askN, h]
    · have e2 : ¬ (i : Int) = (q : Int) := by omega
      rw [if_neg e, askN_get hi, if_neg e2]
  · have h1 : (askN A).length = 64 := by simp [askN]
    rw [List.getElem?_eq_none (by simp [askN]; omega), List.getElem?_eq_none (by simp [askN]; omega)]
    split
    · rw [if_neg (by rw [h1]; omega)]
    · rfl
set_option maxRecDepth 100000 in
set_option maxHeartbeats 8000000 in
theorem idle_F (ab : Nat) (A : Int → Bool) (op dst src : Int) (c : F) (w : World) (hop : 1 ≤ op ∧ op ≤ 5) (hd : op ≠ 5 → 0 ≤ dst ∧ dst < 64) (hs : op = 4 ∨ op = 5 → 0 ≤ src ∧ src < 64) (hab : w.heap[ab]? = some (.cells (visB (askN A)) 128 (0, 0))) :
    Calls Tryd.prog 71 #[.pointer (some ⟨ab, 0, none⟩), .agg #[.int .i64 op, .int .i64 dst, .int .i64 src, .int .u8 (c.toNat : Int)]] w fun e w' => e = .returned (.bool (!bsyS ⟨op, dst, src, c⟩ A)) ∧
      w'.heap[ab]? = some (.cells (visB (askN (if bsyS ⟨op, dst, src, c⟩ A = true then aftS ⟨op, dst, src, c⟩ A else A))) 128 (0, 0)) ∧ w.grownBy w' (some ab) := by
  obtain ⟨s9, f9, so, an, as9, ou, n9, m9, hO, hmm⟩ := op_some hop
  have HO0 : Hid (okN op = true) := decide_eq_true hop
  have HO1 : Hid _ := hO.cells
  have HAN : Hid _ := hO.an
  have HAS : Hid _ := hO.as9
  have HOU : Hid _ := hO.ou
  have HAB : Hid (w.heap[ab]? = some (.cells (visB (askN A)) 128 (0, 0))) := hab
  obtain ⟨b, hb⟩ : ∃ b, b = bsyS ⟨op, dst, src, c⟩ A := ⟨_, rfl⟩
  have HBS : Hid (b = bsyS ⟨op, dst, src, c⟩ A) := hb
  rw [← hb]
  obtain ⟨A2, hA2⟩ : ∃ A2, A2 = if b = true then aftS ⟨op, dst, src, c⟩ A else A := ⟨_, rfl⟩
  have HA2 : Hid (A2 = if b = true then aftS ⟨op, dst, src, c⟩ A else A) := hA2
  rw [← hA2]
  have HHD : Hid (op ≠ 5 → 0 ≤ dst ∧ dst < 64) := hd
  have HHS : Hid (op = 4 ∨ op = 5 → 0 ≤ src ∧ src < 64) := hs
  have HOPP : Hid (1 ≤ op ∧ op ≤ 5) := hop
  clear hO hmm hop hd hs hab hb hA2
  obtain ⟨cv, hcv⟩ : ∃ cv : Int, cv = (c.toNat : Int) := ⟨_, rfl⟩
  rw [← hcv]
  clear hcv
  have HS1 : Hid _ := heap_alloc_last w (.cells #[.int .i64 op, .int .i64 dst, .int .i64 src, .int .u8 cv] 48)
  have HB1 : Hid (Below w.heap.size w (w.alloc (.cells #[.int .i64 op, .int .i64 dst, .int .i64 src, .int .u8 cv] 48))) := (Below.refl _ w).alloc (Nat.le_refl _) _
  go_enter Tryd.func71, Tryd.ntmps71
  go_wp2_with fail
  refine Calls.mono (find_F op _) ?_
  rw [HO0.out, HO1.out]
  rintro e w2 ⟨rfl, hb2⟩
  have hB2 : Below w.heap.size w w2 := HB1.out.trans (hb2.mono HB1.out.size)
  have hs2 := heap_later HS1.out hb2
  obtain ⟨X, hX⟩ : ∃ X, X = w2.alloc (.cells #[.string s9, .bool f9, .bool so, .bool an, .bool as9, .bool ou, .func (.func n9) #[] #[], .func (.func m9) #[] #[]] 92) := ⟨_, rfl⟩
  have hbX : Below w2.heap.size w2 X := by rw [hX]; exact (Below.refl _ _).alloc (Nat.le_refl _) _
  have HBX : Hid (Below w.heap.size w X) := hB2.trans (hbX.mono hB2.size)
  have HOB : Hid (X.heap[w2.heap.size]? = some (.cells #[.string s9, .bool f9, .bool so, .bool an, .bool as9, .bool ou, .func (.func n9) #[] #[], .func (.func m9) #[] #[]] 92 (0, 0))) := by show _ = _; rw [hX]; exact heap_alloc_last _ _
  have HSB : Hid _ := heap_later hs2 hbX
  have HAX : Hid _ := heap_later HAB.out HBX.out
  have HXE : Hid _ := hX
  have hne1 : w2.heap.size ≠ ab := by have := ltHeap HAB.out; have := hB2.size; omega
  have hne2 : w.heap.size ≠ ab := by have := ltHeap HAB.out; omega
  have k0 := cellAt (heap_later hs2 hbX) 0 _ rfl
  have k1 := cellAt (heap_later hs2 hbX) 1 _ rfl
  have k2 := cellAt (heap_later hs2 hbX) 2 _ rfl
  have q3 := cellAt HOB.out 3 _ rfl
  have q4 := cellAt HOB.out 4 _ rfl
  have q5 := cellAt HOB.out 5 _ rfl
  have FZ : ∀ q, X.frozen? ⟨ab, q, none⟩ = false := fun q => frozen_of_row _ _ _ _ _ HAX.out
  have HG : Hid (w.grownBy X (some ab)) := grown_below (World.grownBy.refl _ _) HBX.out
  clear hb2 hB2 hbX hX
  have q0 := cellAt hs2 0 _ rfl
  clear hs2
  go_wp2
  rw [← HXE.out]
  clear HXE q0
  have HSRC : Hid (op = 4 ∨ op = 5 → ∃ q : Nat, src = (q : Int) ∧ q < 64) := fun h => by
    obtain ⟨q, hq⟩ := Int.eq_ofNat_of_zero_le (HHS.out h).1
    exact ⟨q, hq, by have := (HHS.out h).2; omega⟩
  have HDST : Hid (op ≠ 5 → ∃ q : Nat, dst = (q : Int) ∧ q < 64) := fun h => by
    obtain ⟨q, hq⟩ := Int.eq_ofNat_of_zero_le (HHD.out h).1
    exact ⟨q, hq, by have := (HHD.out h).2; omega⟩
  by_cases h5 : op = 5
  · have e1 : ou = true := by rw [HOU.out]; exact decide_eq_true h5
    have e2 : an = false := by rw [HAN.out]; exact decide_eq_false (by omega)
    have e3 : as9 = true := by rw [HAS.out]; exact decide_eq_true (.inr h5)
    obtain ⟨q, rfl, q64⟩ := HSRC.out (.inr h5)
    have HBT : Hid (b = true) := by show _ = _; rw [HBS.out, bsyS, h5]; rfl
    have HA3 : Hid (A2 = fun r => if r = (q : Int) then true else A r) := by show _ = _; rw [HA2.out, if_pos HBT.out, aftS, if_pos h5]
    subst e1 e2 e3
    clear h5
    go_region
    obtain ⟨X1, hX1⟩ : ∃ X1, X1 = X.drew := ⟨_, rfl⟩
    rw [← hX1]
    have HAX1 : Hid (X1.heap[ab]? = some (.cells (visB (askN A)) 128 (0, 0))) := by show _ = _; rw [hX1]; exact HAX.out
    have HG1 : Hid (w.grownBy X1 (some ab)) := by show World.grownBy _ _ _; rw [hX1]; exact grownBy_drew HG.out
    have k1 : X1.cell? ⟨w.heap.size, 1, none⟩ = some (.int .i64 dst) := by rw [hX1]; exact k1
    have k2 : X1.cell? ⟨w.heap.size, 2, none⟩ = some (.int .i64 (q : Int)) := by rw [hX1]; exact k2
    have q3 : X1.cell? ⟨w2.heap.size, 3, none⟩ = some (.bool false) := by rw [hX1]; exact q3
    have q4 : X1.cell? ⟨w2.heap.size, 4, none⟩ = some (.bool true) := by rw [hX1]; exact q4
    have FZ1 : ∀ q, X1.frozen? ⟨ab, q, none⟩ = false := fun q => frozen_of_row _ _ _ _ _ HAX1.out
    clear hX1
    have hold := cellAt HAX1.out q _ (visB_get (askN_get q64))
    have HW : Hid ((X1.drew.setCell ⟨ab, q, none⟩ (.bool true)).heap[ab]? = some (.cells (visB (askN A2)) 128 (0, 0))) := by
      show _ = _
      rw [HA3.out, ← askN_set true q64, ← visB_set]
      exact heap_setCell_same _ _ _ _ _ _ HAX1.out
    have HGW : Hid (w.grownBy (X1.drew.setCell ⟨ab, q, none⟩ (.bool true)) (some ab)) := grownBy_setCell (grownBy_drew HG1.out) _
    go_wp2
    go_region
    go_wp2
    go_ret
    exact ⟨by rw [HBT.out]; rfl, HW.out, HGW.out⟩
  have e1 : ou = false := by rw [HOU.out]; exact decide_eq_false h5
  subst e1
  obtain ⟨d, rfl, d64⟩ := HDST.out h5
  have hold := cellAt HAX.out d _ (visB_get (askN_get d64))
  have HBE : Hid (b = A (d : Int)) := by show _ = _; rw [HBS.out, bsyS, show (op == 5) = false by simpa using h5, Bool.false_or]
  have HN5 : Hid (op ≠ 5) := h5
  clear h5
  obtain ⟨v, hv⟩ : ∃ v, v = A (d : Int) := ⟨_, rfl⟩
  rw [← hv] at HBE hold
  have HV : Hid (v = A (d : Int)) := hv
  clear hv
  cases v
  · have HA3 : Hid (A2 = A) := by show _ = _; rw [HA2.out, HBE.out]; rfl
    go_region
    go_wp2
    go_ret
    exact ⟨by rw [HBE.out]; rfl, by rw [HA3.out]; exact HAX.out, grownBy_drew HG.out⟩
  by_cases h12 : op = 1 ∨ op = 2
  · have e2 : an = true := by rw [HAN.out]; exact decide_eq_true h12
    have e3 : as9 = false := by rw [HAS.out]; exact decide_eq_false (by omega)
    have HA3 : Hid (A2 = fun r => if r = (d : Int) then false else A r) := by show _ = _; rw [HA2.out, HBE.out, if_pos rfl, aftS, if_neg HN5.out, if_pos h12]
    subst e2 e3
    clear h12
    go_region
    clear hold
    obtain ⟨X1, hX1⟩ : ∃ X1, X1 = X.drew := ⟨_, rfl⟩
    rw [← hX1]
    have HAX1 : Hid (X1.heap[ab]? = some (.cells (visB (askN A)) 128 (0, 0))) := by show _ = _; rw [hX1]; exact HAX.out
    have HG1 : Hid (w.grownBy X1 (some ab)) := by show World.grownBy _ _ _; rw [hX1]; exact grownBy_drew HG.out
    have k1 : X1.cell? ⟨w.heap.size, 1, none⟩ = some (.int .i64 (d : Int)) := by rw [hX1]; exact k1
    have k2 : X1.cell? ⟨w.heap.size, 2, none⟩ = some (.int .i64 src) := by rw [hX1]; exact k2
    have q3 : X1.cell? ⟨w2.heap.size, 3, none⟩ = some (.bool true) := by rw [hX1]; exact q3
    have q4 : X1.cell? ⟨w2.heap.size, 4, none⟩ = some (.bool false) := by rw [hX1]; exact q4
    have FZ1 : ∀ q, X1.frozen? ⟨ab, q, none⟩ = false := fun q => frozen_of_row _ _ _ _ _ HAX1.out
    clear hX1
    have hold := cellAt HAX1.out d _ (visB_get (askN_get d64))
    have HW : Hid ((X1.drew.setCell ⟨ab, d, none⟩ (.bool false)).heap[ab]? = some (.cells (visB (askN A2)) 128 (0, 0))) := by
      show _ = _
      rw [HA3.out, ← askN_set false d64, ← visB_set]
      exact heap_setCell_same _ _ _ _ _ _ HAX1.out
    have HGW : Hid (w.grownBy (X1.drew.setCell ⟨ab, d, none⟩ (.bool false)) (some ab)) := grownBy_setCell (grownBy_drew HG1.out) _
    have Q4 : (X1.drew.setCell ⟨ab, d, none⟩ (.bool false)).cell? ⟨w2.heap.size, 4, none⟩ = some (.bool false) := (cell_setCell_other9 _ _ _ _ (by simpa using hne1)).trans q4
    go_wp2
    go_region
    go_wp2
    go_ret
    exact ⟨by rw [HBE.out]; rfl, HW.out, HGW.out⟩
  have e2 : an = false := by rw [HAN.out]; exact decide_eq_false h12
  have HN12 : Hid (¬ (op = 1 ∨ op = 2)) := h12
  subst e2
  clear h12
  by_cases h4 : op = 4
  · have e3 : as9 = true := by rw [HAS.out]; exact decide_eq_true (.inl h4)
    obtain ⟨q, rfl, q64⟩ := HSRC.out (.inl h4)
    have HA3 : Hid (A2 = fun r => if r = (q : Int) then true else A r) := by show _ = _; rw [HA2.out, HBE.out, if_pos rfl, aftS, if_neg HN5.out, if_neg HN12.out, if_pos h4]
    subst e3
    clear h4
    go_region
    clear hold
    obtain ⟨X1, hX1⟩ : ∃ X1, X1 = X.drew := ⟨_, rfl⟩
    rw [← hX1]
    have HAX1 : Hid (X1.heap[ab]? = some (.cells (visB (askN A)) 128 (0, 0))) := by show _ = _; rw [hX1]; exact HAX.out
    have HG1 : Hid (w.grownBy X1 (some ab)) := by show World.grownBy _ _ _; rw [hX1]; exact grownBy_drew HG.out
    have k1 : X1.cell? ⟨w.heap.size, 1, none⟩ = some (.int .i64 (d : Int)) := by rw [hX1]; exact k1
    have k2 : X1.cell? ⟨w.heap.size, 2, none⟩ = some (.int .i64 (q : Int)) := by rw [hX1]; exact k2
    have q3 : X1.cell? ⟨w2.heap.size, 3, none⟩ = some (.bool false) := by rw [hX1]; exact q3
    have q4 : X1.cell? ⟨w2.heap.size, 4, none⟩ = some (.bool true) := by rw [hX1]; exact q4
    have FZ1 : ∀ q, X1.frozen? ⟨ab, q, none⟩ = false := fun q => frozen_of_row _ _ _ _ _ HAX1.out
    clear hX1
    have hold := cellAt HAX1.out q _ (visB_get (askN_get q64))
    have HW : Hid ((X1.drew.setCell ⟨ab, q, none⟩ (.bool true)).heap[ab]? = some (.cells (visB (askN A2)) 128 (0, 0))) := by
      show _ = _
      rw [HA3.out, ← askN_set true q64, ← visB_set]
      exact heap_setCell_same _ _ _ _ _ _ HAX1.out
    have HGW : Hid (w.grownBy (X1.drew.setCell ⟨ab, q, none⟩ (.bool true)) (some ab)) := grownBy_setCell (grownBy_drew HG1.out) _
    go_wp2
    go_region
    go_wp2
    go_ret
    exact ⟨by rw [HBE.out]; rfl, HW.out, HGW.out⟩
  · have e3 : as9 = false := by rw [HAS.out]; exact decide_eq_false (fun h => h.elim h4 HN5.out)
    have HA3 : Hid (A2 = A) := by show _ = _; rw [HA2.out, HBE.out, if_pos rfl, aftS, if_neg HN5.out, if_neg HN12.out, if_neg h4]
    subst e3
    clear h4
    go_region
    clear hold
    obtain ⟨X1, hX1⟩ : ∃ X1, X1 = X.drew := ⟨_, rfl⟩
    rw [← hX1]
    have HAX1 : Hid (X1.heap[ab]? = some (.cells (visB (askN A)) 128 (0, 0))) := by show _ = _; rw [hX1]; exact HAX.out
    have HG1 : Hid (w.grownBy X1 (some ab)) := by show World.grownBy _ _ _; rw [hX1]; exact grownBy_drew HG.out
    have k1 : X1.cell? ⟨w.heap.size, 1, none⟩ = some (.int .i64 (d : Int)) := by rw [hX1]; exact k1
    have k2 : X1.cell? ⟨w.heap.size, 2, none⟩ = some (.int .i64 src) := by rw [hX1]; exact k2
    have q3 : X1.cell? ⟨w2.heap.size, 3, none⟩ = some (.bool false) := by rw [hX1]; exact q3
    have q4 : X1.cell? ⟨w2.heap.size, 4, none⟩ = some (.bool false) := by rw [hX1]; exact q4
    have FZ1 : ∀ q, X1.frozen? ⟨ab, q, none⟩ = false := fun q => frozen_of_row _ _ _ _ _ HAX1.out
    clear hX1
    go_wp2
    go_ret
    exact ⟨by rw [HBE.out]; rfl, by rw [HA3.out]; exact HAX1.out, HG1.out⟩
end Go.Proofs.YtanmgpgiepkogaaDoor

/- Steps turned round in place, lists of numbers copied. -/
namespace Go.Proofs.YtanmgpgiepkogaaDoor
open Go.RowKit Gf
set_option linter.unusedVariables false
set_option maxRecDepth 20000
set_option linter.unusedSimpArgs false
theorem stpsL_set : ∀ (ys : List Stp) (i : Nat) (s : Stp), ((((stpsL ys).set (i * 4) (.int .i64 s.op)).set (i * 4 + 1) (.int .i64 s.dst)).set (i * 4 + 2) (.int .i64 s.src)).set (i * 4 + 3) (.int .u8 (s.c.toNat : Int)) = if i < ys.length then stpsL (ys.set i s) else stpsL ys
  | [], i, s => by simp [stpsL]
  | y :: ys, 0, s => by simp [stpsL, stpL, vf]
  | y :: ys, i + 1, s => by
    have ih := stpsL_set ys i s
    have e : stpsL (y :: ys) = stpL y ++ stpsL ys := rfl
    have h4 : (stpL y).length = 4 := rfl
    rw [e, List.set_append_right _ _ (by rw [h4]; omega), List.set_append_right _ _ (by rw [h4]; omega), List.set_append_right _ _ (by rw [h4]; omega), List.set_append_right _ _ (by rw [h4]; omega), h4,
      show (i + 1) * 4 - 4 = i * 4 by omega, show (i + 1) * 4 + 1 - 4 = i * 4 + 1 by omega, show (i + 1) * 4 + 2 - 4 = i * 4 + 2 by omega, show (i + 1) * 4 + 3 - 4 = i * 4 + 3 by omega, ih]
    by_cases h : i < ys.length
    · rw [if_pos h, if_pos (by rw [List.length_cons]; omega), List.set_cons_succ]; try rfl
    · rw [if_neg h, if_neg (by rw [List.length_cons]; omega)]; try rfl
def put4 (w : World) (g i : Nat) (s : Stp) : World := (((w.setCell ⟨g, i * 4, none⟩ (.int .i64 s.op)).setCell ⟨g, i * 4 + 1, none⟩ (.int .i64 s.dst)).setCell ⟨g, i * 4 + 2, none⟩ (.int .i64 s.src)).setCell ⟨g, i * 4 + 3, none⟩ (.int .u8 (s.c.toNat : Int))
theorem ownT_put {w : World} {B n g cap i : Nat} {ys : List Stp} (s : Stp) (ho : w.ownsRow B 48 4 (.slice (some ⟨g, 0, none⟩) n cap) n (stpsL ys)) (hi : i < n) : (put4 w g i s).ownsRow B 48 4 (.slice (some ⟨g, 0, none⟩) n cap) n (stpsL (ys.set i s)) := by
  have hl := ho.1
  rw [stpsL_len] at hl
  have hin : i < ys.length := by omega
  refine ⟨by rw [stpsL_len, List.length_set]; omega, ?_⟩
  rcases ho.2 with ⟨e, _⟩ | ⟨g', cap', cur, e, hB, hg, hle, h5, h6, h7⟩
  · cases e
  · cases e
    have h1 : (w.setCell ⟨g, i * 4, none⟩ (.int .i64 s.op)).heap[g]? = some (.cells (cur.setIfInBounds (i * 4) (.int .i64 s.op)) 48 (0, 0)) := heap_setCell_same _ _ _ _ _ _ hg
    have h2 : ((w.setCell ⟨g, i * 4, none⟩ (.int .i64 s.op)).setCell ⟨g, i * 4 + 1, none⟩ (.int .i64 s.dst)).heap[g]? = some (.cells _ 48 (0, 0)) := heap_setCell_same _ _ _ _ _ _ h1
    have h3 : (((w.setCell ⟨g, i * 4, none⟩ (.int .i64 s.op)).setCell ⟨g, i * 4 + 1, none⟩ (.int .i64 s.dst)).setCell ⟨g, i * 4 + 2, none⟩ (.int .i64 s.src)).heap[g]? = some (.cells _ 48 (0, 0)) := heap_setCell_same _ _ _ _ _ _ h2
    have h4 : (put4 w g i s).heap[g]? = some (.cells _ 48 (0, 0)) := heap_setCell_same _ _ _ _ _ _ h3
    refine .inr ⟨g, cap, _, rfl, hB, h4, hle, h5, by simp [h6], ?_⟩
    simp only [Array.toList_setIfInBounds, List.take_set, h7]
    rw [stpsL_set, if_pos hin]
theorem grown_put4 {w W : World} {g : Nat} (h : W.grownBy w (some g)) (i : Nat) (s : Stp) : W.grownBy (put4 w g i s) (some g) := grownBy_setCell (grownBy_setCell (grownBy_setCell (grownBy_setCell h _) _) _) _
/-- the list with k steps at either end turned round -/
def revK (z : Stp) (xs : List Stp) (k : Nat) : List Stp := (List.range xs.length).map fun i => if i < k ∨ xs.length ≤ i + k then xs.getD (xs.length - 1 - i) z else xs.getD i z
theorem revK_len (z : Stp) (xs : List Stp) (k : Nat) : (revK z xs k).length = xs.length := by simp [revK]
theorem revK_get {z : Stp} {xs : List Stp} {k i : Nat} (h : i < xs.length) : (revK z xs k)[i]? = some (if i < k ∨ xs.length ≤ i + k then xs.getD (xs.length - 1 - i) z else xs.getD i z) := by simp [revK, h]
theorem revK_zero (z : Stp) (xs : List Stp) : revK z xs 0 = xs := by
  apply List.ext_getElem?
  intro i
  by_cases h : i < xs.length
  · rw [revK_get h, if_neg (by omega)]; simp [List.getD, h]
  · rw [List.getElem?_eq_none (by rw [revK_len]; omega), List.getElem?_eq_none (by omega)]
theorem revK_step {z : Stp} {xs : List Stp} {k j : Nat} (hk : k < j) (hj : j + 1 + k = xs.length) : ((revK z xs k).set k (xs.getD j z)).set j (xs.getD k z) = revK z xs (k + 1) := by
  apply List.ext_getElem?
  intro i
  rw [List.getElem?_set, List.length_set, revK_len, List.getElem?_set, revK_len]
  by_cases h : i < xs.length
  · rw [revK_get h, revK_get h]
    by_cases e1 : j = i
    · subst e1
      rw [if_pos rfl, if_pos h, if_pos (by omega), show xs.length - 1 - j = k by omega]
    · rw [if_neg e1]
      by_cases e2 : k = i
      · subst e2
        rw [if_pos rfl, if_pos h, if_pos (by omega), show xs.length - 1 - k = j by omega]
      · rw [if_neg e2]
        by_cases e3 : i < k ∨ xs.length ≤ i + k
        · rw [if_pos e3, if_pos (by omega)]
        · rw [if_neg e3, if_neg (by omega)]
  · rw [List.getElem?_eq_none (by rw [revK_len]; omega), List.getElem?_eq_none (by rw [revK_len]; omega)]
    repeat' split
    all_goals first | rfl | omega
theorem revK_done {z : Stp} {xs : List Stp} {k : Nat} (h : xs.length ≤ 2 * k + 1) : revK z xs k = xs.reverse := by
  apply List.ext_getElem?
  intro i
  by_cases hi : i < xs.length
  · rw [revK_get hi, List.getElem?_reverse hi]
    by_cases e : i < k ∨ xs.length ≤ i + k
    · rw [if_pos e]; simp [List.getD, show xs.length - 1 - i < xs.length by omega]
    · rw [if_neg e, show xs.length - 1 - i = i by omega]; simp [List.getD, hi]
  · rw [List.getElem?_eq_none (by rw [revK_len]; omega), List.getElem?_eq_none (by rw [List.length_reverse]; omega)]
theorem ownT_cells {w : World} {B n g cap : Nat} {ys : List Stp} (ho : w.ownsRow B 48 4 (.slice (some ⟨g, 0, none⟩) n cap) n (stpsL ys)) {i : Nat} {s : Stp} (hs : ys[i]? = some s) : w.cell? ⟨g, i * 4, none⟩ = some (.int .i64 s.op) ∧ w.cell? ⟨g, i * 4 + 1, none⟩ = some (.int .i64 s.dst) ∧ w.cell? ⟨g, i * 4 + 2, none⟩ = some (.int .i64 s.src) ∧ w.cell? ⟨g, i * 4 + 3, none⟩ = some (.int .u8 (s.c.toNat : Int)) ∧ (∀ q, w.frozen? ⟨g, q, none⟩ = false) := by
  have hl := ho.1
  rw [stpsL_len] at hl
  have hi : i < ys.length := (List.getElem?_eq_some_iff.1 hs).1
  rcases ho.2 with ⟨e, _⟩ | ⟨g', cap', cur, e, hB, hg, hle, h5, h6, h7⟩
  · cases e
  · cases e
    have H : ∀ q, q < 4 → cur[i * 4 + q]? = (stpL s)[q]? := fun q hq => by
      rw [← Array.getElem?_toList, ← List.getElem?_take_of_lt (show i * 4 + q < n * 4 by omega), h7, stpsL_at ys i q hq, hs]; rfl
    exact ⟨cellAt hg _ _ (H 0 (by omega)), cellAt hg _ _ (H 1 (by omega)), cellAt hg _ _ (H 2 (by omega)), cellAt hg _ _ (H 3 (by omega)), fun q => frozen_of_row _ _ _ _ _ hg⟩
set_option maxRecDepth 100000 in
set_option maxHeartbeats 8000000 in
theorem reverse_F (B n : Nat) (v : Value) (xs : List Stp) (w : World) (ho : w.ownsRow B 48 4 v n (stpsL xs)) (hn9 : n ≤ 4096) :
    Calls Tryd.prog 72 #[v] w fun e w' => e = .returned (.tuple #[]) ∧ w'.ownsRow B 48 4 v n (stpsL xs.reverse) ∧ w.grownBy w' v.ownBlock := by
  have hl := ho.1
  rw [stpsL_len] at hl
  have HL : Hid (n = xs.length) := by show _ = _; omega
  rcases ho.2 with ⟨rfl, hn0⟩ | ⟨g, cap, cur, rfl, _⟩
  · subst hn0
    have hx : xs = [] := List.eq_nil_of_length_eq_zero HL.out.symm
    have HO : Hid (w.ownsRow B 48 4 (.slice none 0 0) 0 (stpsL xs.reverse)) := by rw [hx] at ho ⊢; exact ho
    clear ho hl hx
    go_enter Tryd.func72, Tryd.ntmps72
    go_wp2
    go_loopw [2, 3] (fun i j wr => i = .int .i64 0 ∧ j = .int .i64 (-1) ∧ wr = w) (fun _ _ _ => 0)
    case atStart => exact ⟨rfl, rfl, rfl⟩
    case round =>
      obtain ⟨rfl, rfl, rfl⟩ := hrel
      go_wp2
      exact ⟨rfl, .tuple #[], by simp [results, Tryd.results72, go_sem], rfl, HO.out, World.grownBy.refl _ _⟩
  · have HO : Hid (w.ownsRow B 48 4 (.slice (some ⟨g, 0, none⟩) n cap) n (stpsL xs)) := ho
    have hcap : n ≤ cap := by
      rcases ho.2 with ⟨e, _⟩ | ⟨g', cap', cur, e, hB, hg, hle, _⟩
      · cases e
      · cases e; exact hle
    clear ho hl
    go_enter Tryd.func72, Tryd.ntmps72
    go_wp2
    go_loopw [2, 3] (fun i j wr => ∃ (k : Nat) (x : Int), x = (n : Int) - 1 - k ∧ (2 * k ≤ n) ∧ i = .int .i64 k ∧ j = .int .i64 x ∧ w.grownBy wr (some g) ∧ wr.ownsRow B 48 4 (.slice (some ⟨g, 0, none⟩) n cap) n (stpsL (revK ⟨0, 0, 0, 0⟩ xs k))) (fun i _ _ => n - (intOf i).toNat)
    case atStart => exact ⟨0, (n : Int) - 1, by omega, by omega, rfl, by first | rfl | go_num, World.grownBy.refl _ _, by rw [revK_zero]; exact HO.out⟩
    case round =>
      obtain ⟨k, x, hx, hk2, rfl, rfl, hgr, hor⟩ := hrel
      have HGR : Hid (w.grownBy wr (some g)) := hgr
      have HOR : Hid (wr.ownsRow B 48 4 (.slice (some ⟨g, 0, none⟩) n cap) n (stpsL (revK ⟨0, 0, 0, 0⟩ xs k))) := hor
      clear hgr hor
      by_cases hlt : (k : Int) < x
      · obtain ⟨j, rfl⟩ := Int.eq_ofNat_of_zero_le (show 0 ≤ x by omega)
        have HKJ : Hid (k < j) := by show _ < _; omega
        have HJN : Hid (j + 1 + k = xs.length) := by show _ = _; rw [← HL.out]; omega
        have hjn : j < n := by omega
        have hkn : k < n := by omega
        obtain ⟨⟨o1, d1, s1, c1⟩, h1⟩ : ∃ s, xs.getD k ⟨0, 0, 0, 0⟩ = s := ⟨_, rfl⟩
        obtain ⟨⟨o2, d2, s2, c2⟩, h2⟩ : ∃ s, xs.getD j ⟨0, 0, 0, 0⟩ = s := ⟨_, rfl⟩
        have g1 : (revK ⟨0, 0, 0, 0⟩ xs k)[k]? = some ⟨o1, d1, s1, c1⟩ := by rw [revK_get (by rw [← HL.out]; omega), if_neg (by rw [← HL.out]; omega), h1]
        have g2 : (revK ⟨0, 0, 0, 0⟩ xs k)[j]? = some ⟨o2, d2, s2, c2⟩ := by rw [revK_get (by rw [← HL.out]; omega), if_neg (by rw [← HL.out]; omega), h2]
        obtain ⟨a0, a1, a2, a3, az⟩ := ownT_cells HOR.out g1
        obtain ⟨b0, b1, b2, b3, _⟩ := ownT_cells HOR.out g2
        have hnx := ownT_put ⟨o1, d1, s1, c1⟩ (ownT_put ⟨o2, d2, s2, c2⟩ HOR.out hkn) hjn
        rw [← h1, ← h2, revK_step HKJ.out HJN.out, h1, h2] at hnx
        have hgx : w.grownBy (put4 (put4 wr g k ⟨o2, d2, s2, c2⟩) g j ⟨o1, d1, s1, c1⟩) (some g) := grown_put4 (grown_put4 HGR.out _ _) _ _
        obtain ⟨Z, hZ⟩ : ∃ Z, Z = put4 (put4 wr g k ⟨o2, d2, s2, c2⟩) g j ⟨o1, d1, s1, c1⟩ := ⟨_, rfl⟩
        rw [← hZ] at hnx hgx
        have HZ : Hid (Z = ((((((((((wr).setCell ⟨g, k * 4, none⟩ (.int .i64 o2)).setCell ⟨g, k * 4 + 1, none⟩ (.int .i64 d2)).setCell ⟨g, k * 4 + 2, none⟩ (.int .i64 s2)).setCell ⟨g, k * 4 + 3, none⟩ (.int .u8 (c2.toNat : Int)))).setCell ⟨g, j * 4, none⟩ (.int .i64 o1)).setCell ⟨g, j * 4 + 1, none⟩ (.int .i64 d1)).setCell ⟨g, j * 4 + 2, none⟩ (.int .i64 s1)).setCell ⟨g, j * 4 + 3, none⟩ (.int .u8 (c1.toNat : Int)))) := hZ
        have HNX : Hid (Z.drew.ownsRow B 48 4 (.slice (some ⟨g, 0, none⟩) n cap) n (stpsL (revK ⟨0, 0, 0, 0⟩ xs (k + 1)))) := hnx
        have HGX : Hid (w.grownBy Z.drew (some g)) := grownBy_drew hgx
        clear hZ hnx hgx
        have HX : Hid ((j : Int) = (n : Int) - 1 - k) := hx
        clear g1 g2 h1 h2 hx
        go_wp2
        go_region
        rw [← HZ.out]
        go_wp2
        exact ⟨⟨k + 1, (j : Int) - 1, by have := HX.out; omega, by have := HX.out; have := HKJ.out; omega, by go_num, by first | rfl | go_num, HGX.out, HNX.out⟩, by simp [intOf]; omega⟩
      · have hdone : Hid (revK ⟨0, 0, 0, 0⟩ xs k = xs.reverse) := revK_done (by rw [← HL.out]; omega)
        go_wp2
        exact ⟨rfl, .tuple #[], by simp [results, Tryd.results72, go_sem], rfl, by rw [← hdone.out]; exact HOR.out, HGR.out⟩
end Go.Proofs.YtanmgpgiepkogaaDoor
