/- What areHalves and Contains of package prog answer; what is known of an operation, by letters. -/
import Derived.Test.YtkoakingmnjdoaaGreatDoorStepK
import Derived.Test.YtkoakingmnjdoaaGreatDoorStepB
import Derived.Shelf.Abstract
namespace Go.Proofs.YtkoakingmnjdoaaGreatDoor
open Go.RowKit Go.Shelf Gf
set_option linter.unusedVariables false
set_option maxRecDepth 20000
set_option linter.unusedSimpArgs false
set_option maxHeartbeats 4000000 in
theorem halves_F (l cap : Nat) (a : Option Addr) (xs : List Int) (w : World) (hl : l = xs.length) (hl9 : l ≤ 4611686018427387904) (hcap : l ≤ cap) (hX : RowI w a xs) :
    Calls Tryz.prog 106 #[.slice a l cap] w fun e w' => e = .returned (.bool (Prg.goodB (32) xs)) ∧ w = w' := by
  obtain ⟨d, hd⟩ : ∃ d, d = Prg.goodB (32) xs := ⟨_, rfl⟩
  have HY : Hid (GoodH (32) xs → d = true) := fun h => hd.trans (Prg.goodB_yes h)
  have HN0 : Hid (¬ GoodH (32) xs → d = false) := fun h => hd.trans (Prg.goodB_no h)
  rw [← hd]
  clear hd
  have HL : Hid (l = xs.length) := hl
  have HX : Hid (RowI w a xs) := hX
  clear hl hX
  go_enter Tryz.func106, Tryz.ntmps106
  go_wp2
  go_loopw [7] (fun i wr => ∃ j : Nat, j ≤ l ∧ i = .int .i64 j ∧ wr = w ∧ GoodH (32) (xs.take j)) (fun i _ => l - (intOf i).toNat)
  case atStart => exact ⟨0, by omega, rfl, rfl, by rw [List.take_zero]; exact goodH_nil _⟩
  case round =>
    obtain ⟨j, hj, rfl, rfl, hg⟩ := hrel
    have HG : Hid (GoodH (32) (xs.take j)) := hg
    clear hg
    by_cases hlt : j < l
    · have hjx : j < xs.length := by rw [← HL.out]; exact hlt
      obtain ⟨b, off, hab, hbl, hc⟩ := rowI_cell HX.out hjx
      have c1 := hc j hjx
      have c0 := hc (j - 1) (by omega)
      rw [show xs.getD j 0 = xs[j] by simp [List.getD, hjx]] at c1
      obtain ⟨x, hx⟩ : ∃ x, xs[j] = x := ⟨_, rfl⟩
      obtain ⟨y, hy⟩ : ∃ y, xs.getD (j - 1) 0 = y := ⟨_, rfl⟩
      have HS : Hid _ := Prg.goodH_step2 (n := 32) hjx hx hy HG.out
      have HF : Hid (¬ GoodH (32) (xs.take (j + 1)) → ¬ GoodH (32) xs) := fun h => Prg.goodH_full h
      rw [hx] at c1
      rw [hy] at c0
      clear hx hy hc hjx
      subst hab
      by_cases n1 : 0 ≤ x ∧ x < 32
      rotate_left
      · have HB : Hid _ := HF.out (fun h => n1 (by have := (HS.out.1 h).1; omega))
        clear HS HF c0
        go_wp2_with fail
        refine Calls.mono (pthere_F x 32 _) ?_
        rw [decide_eq_false n1]
        rintro e w2 ⟨rfl, rfl⟩
        go_wp2
        go_ret
        exact ⟨by rw [HN0.out HB.out]; rfl, rfl⟩
      by_cases n3 : j = 0
      · have HN : Hid _ := HS.out.2 ⟨by omega, .inl n3⟩
        clear HS HF c0
        subst n3
        rw [Nat.add_zero] at c1
        go_wp2_with fail
        refine Calls.mono (pthere_F x 32 _) ?_
        rw [decide_eq_true n1]
        rintro e w2 ⟨rfl, rfl⟩
        go_wp2
        exact ⟨⟨1, by omega, by go_num, by first | rfl | trivial, HN.out⟩, by simp [intOf]; omega⟩
      obtain ⟨q, rfl⟩ : ∃ q, j = q + 1 := ⟨j - 1, by omega⟩
      rw [Nat.add_sub_cancel] at c0
      by_cases n4 : x ≤ y
      · have HB : Hid _ := HF.out (fun h => by have := (HS.out.1 h).2; omega)
        clear HS HF
        go_wp2_with fail
        refine Calls.mono (pthere_F x 32 _) ?_
        rw [decide_eq_true n1]
        rintro e w2 ⟨rfl, rfl⟩
        go_wp2
        go_ret
        exact ⟨by rw [HN0.out HB.out]; rfl, rfl⟩
      · have HN : Hid _ := HS.out.2 ⟨by omega, .inr (by omega)⟩
        clear HS HF
        go_wp2_with fail
        refine Calls.mono (pthere_F x 32 _) ?_
        rw [decide_eq_true n1]
        rintro e w2 ⟨rfl, rfl⟩
        go_wp2
        exact ⟨⟨q + 1 + 1, by omega, by go_num, by first | rfl | trivial, HN.out⟩, by simp [intOf]; omega⟩
    · obtain rfl : j = l := by omega
      have HF : Hid (GoodH (32) xs) := by have := HG.out; rwa [HL.out, List.take_length] at this
      go_wp2
      go_ret
      exact ⟨by rw [HY.out HF.out]; rfl, rfl⟩
set_option maxHeartbeats 2000000 in
theorem indexB_F (g n : Nat) (bs : List Bool) (w : World) (hn : n = bs.length) (hn9 : n ≤ 1000) (h : w.heap[g]? = some (.cells (visB bs) 4 (0, 0))) :
    Calls Tryz.prog 131 #[.slice (some ⟨g, 0, none⟩) n n, .bool false] w fun e w' => (∃ i : Int, e = .returned (.int .i64 i) ∧ (0 ≤ i ↔ false ∈ bs) ∧ i < 1000 ∧ -2 < i) ∧ w = w' := by
  have HN : Hid (n = bs.length) := hn
  have HH : Hid (w.heap[g]? = some (.cells (visB bs) 4 (0, 0))) := h
  clear hn h
  go_enter Tryz.func131, Tryz.ntmps131
  go_wp2
  go_loopw [8] (fun i wr => ∃ j : Nat, j ≤ n ∧ i = .int .i64 j ∧ wr = w ∧ false ∉ bs.take j) (fun i _ => n - (intOf i).toNat)
  case atStart => exact ⟨0, by omega, rfl, rfl, by simp⟩
  case round =>
    obtain ⟨j, hj, rfl, rfl, hno⟩ := hrel
    have HNO : Hid (false ∉ bs.take j) := hno
    clear hno
    by_cases hlt : j < n
    · have hjb : j < bs.length := by rw [← HN.out]; exact hlt
      have hget : bs[j]? = some bs[j] := List.getElem?_eq_getElem hjb
      have HTK : Hid (bs.take (j + 1) = bs.take j ++ [bs[j]]) := List.take_succ_eq_append_getElem hjb
      have c0 := cellAt HH.out j _ (visB_get hget)
      obtain ⟨x, hx⟩ : ∃ x, bs[j] = x := ⟨_, rfl⟩
      rw [hx] at c0 HTK hget
      have HM : Hid (x ∈ bs) := List.mem_of_getElem? hget
      clear hx hget hjb
      cases x
      · have HMM : Hid (false ∈ bs) := HM.out
        clear HM HTK
        go_wp2
        go_ret
        exact ⟨⟨j, rfl, by simp [HMM.out], by omega, by omega⟩, rfl⟩
      · have HNX : Hid (false ∉ bs.take (j + 1)) := by show _ ∉ _; rw [HTK.out]; simp [HNO.out]
        clear HM HTK
        go_wp2
        exact ⟨⟨j + 1, by omega, by go_num, by first | rfl | trivial, HNX.out⟩, by simp [intOf]; omega⟩
    · obtain rfl : j = n := by omega
      have HNB : Hid (false ∉ bs) := by have := HNO.out; rwa [HN.out, List.take_length] at this
      go_wp2
      go_ret
      exact ⟨⟨-1, rfl, by simp [HNB.out], by omega, by omega⟩, rfl⟩
theorem containsB_F (g n : Nat) (bs : List Bool) (w : World) (hn : n = bs.length) (hn9 : n ≤ 1000) (h : w.heap[g]? = some (.cells (visB bs) 4 (0, 0))) :
    Calls Tryz.prog 124 #[.slice (some ⟨g, 0, none⟩) n n, .bool false] w fun e w' => e = .returned (.bool (decide (false ∈ bs))) ∧ w = w' := by
  have HC : Hid _ := indexB_F g n bs w hn hn9 h
  clear hn h
  go_enter Tryz.func124, Tryz.ntmps124
  go_wp2_with fail
  refine Calls.mono HC.out ?_
  rintro e w1 ⟨⟨i, rfl, hi, _, _⟩, rfl⟩
  have HI : Hid (0 ≤ i ↔ false ∈ bs) := hi
  clear hi
  by_cases h0 : 0 ≤ i
  · have E : Hid (decide (false ∈ bs) = true) := decide_eq_true (HI.out.1 h0)
    go_wp2
    go_ret
    exact ⟨by rw [E.out]; rfl, rfl⟩
  · have E : Hid (decide (false ∈ bs) = false) := decide_eq_false (fun h => h0 (HI.out.2 h))
    have E0 : Hid (decide (0 ≤ i) = false) := decide_eq_false h0
    go_wp2
    go_ret
    exact ⟨by rw [E.out]; show Ending.returned (Value.bool (decide (0 ≤ i))) = _; rw [E0.out], rfl⟩
noncomputable def okSB (ni no : Nat) (rg : Int) (s : Stp) : Bool := @decide (OkS ni no rg s) (Classical.propDecidable _)
theorem okSB_yes {ni no : Nat} {rg : Int} {s : Stp} (h : OkS ni no rg s) : okSB ni no rg s = true := @decide_eq_true _ (Classical.propDecidable _) h
theorem okSB_no {ni no : Nat} {rg : Int} {s : Stp} (h : ¬ OkS ni no rg s) : okSB ni no rg s = false := @decide_eq_false _ (Classical.propDecidable _) h
theorem okSB_dec {ni no : Nat} {rg : Int} {s : Stp} {P : Prop} [Decidable P] (h : P ↔ OkS ni no rg s) : decide P = okSB ni no rg s := by
  by_cases hp : P
  · rw [decide_eq_true hp, okSB_yes (h.1 hp)]
  · rw [decide_eq_false hp, okSB_no (fun q => hp (h.2 q))]
/-- an operation that there is, by letters -/
structure OpF (op : Int) (s : ByteArray) (f so an as9 ou : Bool) (n m : Nat) : Prop where
  cells : opcN op = #[.string s, .bool f, .bool so, .bool an, .bool as9, .bool ou, .func (.func n) #[] #[], .func (.func m) #[] #[]]
  ou : ou = decide (op = 5)
  an : an = decide (op = 1 ∨ op = 2)
  as9 : as9 = decide (op = 4 ∨ op = 5)
  f : f = decide (op = 3 ∨ op = 4)
  so : so = decide (op = 1 ∨ op = 4 ∨ op = 5)
  en : ∀ args w, (callFunc n args).run Tryz.prog w = .ok (.enter n args) w
  em : ∀ args w, (callFunc m args).run Tryz.prog w = .ok (.enter m args) w
  fits : ∀ (ni no : Nat) (rg dst src : Int) (c : F) (w : World), Calls Tryz.prog n #[.agg #[.int .i64 ni, .int .i64 no, .int .i64 rg], .agg #[.int .i64 op, .int .i64 dst, .int .i64 src, .int .u8 (c.toNat : Int)]] w fun e w' => e = .returned (.bool (okSB ni no rg ⟨op, dst, src, c⟩)) ∧ Below w.heap.size w w'
theorem op_some {op : Int} (h : 1 ≤ op ∧ op ≤ 5) : ∃ s f so an as9 ou n m, OpF op s f so an as9 ou n m ∧ m = (if op = 1 then 140 else if op = 2 then 142 else if op = 3 then 144 else if op = 4 then 146 else 148) := by
  have : op = 1 ∨ op = 2 ∨ op = 3 ∨ op = 4 ∨ op = 5 := by omega
  rcases this with rfl | rfl | rfl | rfl | rfl
  · exact ⟨_, _, _, _, _, _, _, _, ⟨rfl, by decide, by decide, by decide, by decide, by decide, enters_of Tryz.func139 (by kernel_rfl) rfl, enters_of Tryz.func140 (by kernel_rfl) rfl, fun ni no rg dst src c w => by
      have h := fit_load ni no rg 1 dst src c.toNat w
      rwa [okSB_dec (s := ⟨1, dst, src, c⟩) (ni := ni) (no := no) (rg := rg) (by simp [OkS])] at h⟩, rfl⟩
  · exact ⟨_, _, _, _, _, _, _, _, ⟨rfl, by decide, by decide, by decide, by decide, by decide, enters_of Tryz.func141 (by kernel_rfl) rfl, enters_of Tryz.func142 (by kernel_rfl) rfl, fun ni no rg dst src c w => by
      have h := fit_zero ni no rg 2 dst src c.toNat w
      rwa [okSB_dec (s := ⟨2, dst, src, c⟩) (ni := ni) (no := no) (rg := rg) (by simp [OkS])] at h⟩, rfl⟩
  · exact ⟨_, _, _, _, _, _, _, _, ⟨rfl, by decide, by decide, by decide, by decide, by decide, enters_of Tryz.func143 (by kernel_rfl) rfl, enters_of Tryz.func144 (by kernel_rfl) rfl, fun ni no rg dst src c w => by
      have h := fit_mul ni no rg 3 dst src c.toNat w
      rwa [okSB_dec (s := ⟨3, dst, src, c⟩) (ni := ni) (no := no) (rg := rg) (by simp [OkS])] at h⟩, rfl⟩
  · exact ⟨_, _, _, _, _, _, _, _, ⟨rfl, by decide, by decide, by decide, by decide, by decide, enters_of Tryz.func145 (by kernel_rfl) rfl, enters_of Tryz.func146 (by kernel_rfl) rfl, fun ni no rg dst src c w => by
      have h := fit_add ni no rg 4 dst src c.toNat w
      rwa [okSB_dec (s := ⟨4, dst, src, c⟩) (ni := ni) (no := no) (rg := rg) (by simp [OkS])] at h⟩, rfl⟩
  · exact ⟨_, _, _, _, _, _, _, _, ⟨rfl, by decide, by decide, by decide, by decide, by decide, enters_of Tryz.func147 (by kernel_rfl) rfl, enters_of Tryz.func148 (by kernel_rfl) rfl, fun ni no rg dst src c w => by
      have h := fit_out ni no rg 5 dst src c.toNat w
      rwa [okSB_dec (s := ⟨5, dst, src, c⟩) (ni := ni) (no := no) (rg := rg) (by simp [OkS])] at h⟩, rfl⟩
end Go.Proofs.YtkoakingmnjdoaaGreatDoor
