/- What the document's own Variables answers, of all legal numbers of halves whose rows tell all data halves; nothing that was there turns. -/
import Derived.Test.YtmlpijlcpeoeaaaDoorCodeE
import Derived.Test.YtmlpijlcpeoeaaaDoorSpanE
import Derived.Test.YtmlpijlcpeoeaaaDoorHalfS
import Derived.Test.YtmlpijlcpeoeaaaDoorHalfC
namespace Go.Proofs.YtmlpijlcpeoeaaaDoor
open Go.RowKit Gf
set_option linter.unusedVariables false
set_option maxRecDepth 20000
/-- the rows of these halves -/
def numM (k : Nat) (car : Nat → Nat) (nl : List Nat) : Mt := fun i => halfF k car (nl.getD i 0)
def unitF (v : Nat) : Nat → F := fun j => if v = j then 1 else 0
theorem rowsF_grid {c n : Nat} {f : Mt} : ∀ i, i < n → ∀ j, j < c → rowsF c (grid c f n) i j = f i j := fun i hi j hj => by
  rw [rowsF, rowAt_grid hi, at8_rowF hj]
theorem var_sol {c n v : Nat} {A : Mt} {x R D : Nat → F} (hv : v < c) (h : ∀ u, u < c → unitF v u = sumF (fun l => gm (A l u) (x l)) n) (hR : ∀ l, l < n → R l = sumF (fun u => gm (A l u) (D u)) c) :
    sumF (fun l => gm (x l) (R l)) n = D v := by
  rw [sumF_congr (fun l hl => by rw [hR l hl, sumF_mul_left]), sumF_swap (fun l u => gm (x l) (gm (A l u) (D u))) c n]
  rw [sumF_congr (g := fun u => gm (unitF v u) (D u)) (fun u hu => by
    rw [h u hu, sumF_mul_right]
    exact sumF_congr fun l _ => by rw [← F.mul_assoc, F.mul_comm (x l)])]
  rw [sumF_pick _ v c hv fun u _ hne => by simp [unitF, Ne.symm hne]]
  simp [unitF]
theorem Dep.unit {A : Mt} {c n v : Nat} (h : Dep (tr A) c n (unitF v)) : Dep (tr (rowsF c (grid c A n))) c n (at8 (rowF c (unitF v))) := by
  obtain ⟨x, hx⟩ := h
  refine ⟨x, fun i hi => ?_⟩
  rw [at8_rowF hi, hx i hi]
  exact sumF_congr fun l hl => by rw [show tr (rowsF c (grid c A n)) i l = tr A i l from rowsF_grid l hl i hi]
theorem sol_unit {A : Mt} {c n v : Nat} {x : Nat → F} (h : SolOf (tr (rowsF c (grid c A n))) c n (at8 (rowF c (unitF v))) x) : ∀ u, u < c → unitF v u = sumF (fun l => gm (A l u) (x l)) n := fun u hu => by
  have := h.sol u hu
  rw [at8_rowF hu] at this
  rw [this]
  exact sumF_congr fun l hl => by rw [show tr (rowsF c (grid c A n)) u l = A l u from rowsF_grid l hl u hu]
/-- a sum made as far as byte b of list i -/
def varP (H : Nat) (f : Nat → Nat → F) (i b : Nat) : List F := rowF H (fun q => sumF (f q) (if q < b then i + 1 else i))
theorem varP_len (H : Nat) (f : Nat → Nat → F) (i b : Nat) : (varP H f i b).length = H := rowF_len _ _
theorem varP_zero (H : Nat) (f : Nat → Nat → F) : zeros H = varP H f 0 0 := rowF_eq (zeros_len H) fun j hj => by rw [at8_zeros, if_neg (by omega)]; rfl
theorem varP_done (H : Nat) (f : Nat → Nat → F) (i : Nat) : varP H f i H = varP H f (i + 1) 0 := rowF_congr fun j hj => by rw [if_pos hj, if_neg (by omega)]
theorem varP_full (H : Nat) (f : Nat → Nat → F) (i : Nat) : varP H f i 0 = rowF H (fun q => sumF (f q) i) := rowF_congr fun j hj => by rw [if_neg (by omega)]
theorem varP_at {H : Nat} {f : Nat → Nat → F} {i b : Nat} (hb : b < H) : at8 (varP H f i b) b = sumF (f b) i := by rw [varP, at8_rowF hb, if_neg (by omega)]
theorem varP_set {H : Nat} {f : Nat → Nat → F} {i b : Nat} (hb : b < H) : (varP H f i b).set b (ga (sumF (f b) i) (f b i)) = varP H f i (b + 1) := by
  refine rowF_eq (by rw [List.length_set, varP_len]) fun j hj => ?_
  by_cases h : j = b
  · subst h
    rw [if_pos (by omega)]
    simp [at8, varP_len, hj, sumF]
  · have e : at8 ((varP H f i b).set b (ga (sumF (f b) i) (f b i))) j = at8 (varP H f i b) j := by simp [at8, Ne.symm h]
    rw [e, varP, at8_rowF hj]
    by_cases h2 : j < b
    · rw [if_pos h2, if_pos (by omega)]
    · rw [if_neg h2, if_neg (by omega)]
theorem slice_cap {w : World} {B n cap : Nat} {a : Option Addr} {e : TypeId} {xs : List Value} (h : w.ownsRow B e 1 (.slice a n cap) n xs) : n ≤ cap := by
  rcases h.2 with ⟨e1, e2⟩ | ⟨g, c2, cur, e1, _, _, h3, _⟩
  · omega
  · cases e1; exact h3
set_option maxHeartbeats 16000000 in
theorem rvars_F (k r H ln cn lr cr : Nat) (an ar : Option Addr) (nl : List Nat) (L : List (List F)) (D : Nat → Nat → F) (w : World) (h1 : 1 ≤ k) (h2 : 2 ≤ r) (h3 : k + r ≤ 16) (hH : H ≤ 64)
    (hln : ln = nl.length) (hlr : ln = L.length) (hlr2 : lr = ln) (hln32 : ln ≤ 32) (hnl : ∀ i, i < ln → nl.getD i 0 < 2 * (k + r)) (hL : ∀ xs ∈ L, xs.length = H) (hN : RowI w an (castL nl)) (hR : Rows8 w ar L)
    (hdep : ∀ v, v < 2 * k → Dep (tr (numM k (carN (groupN k r)) nl)) (2 * k) ln (unitF v))
    (hD : ∀ i, i < ln → ∀ b, b < H → bytesD L i b = sumF (fun u => gm (numM k (carN (groupN k r)) nl i u) (D u b)) (2 * k)) :
    Calls Tryd.prog 38 #[.int .i64 k, .int .i64 r, .slice an ln cn, .slice ar lr cr, .int .i64 H] w fun e w' => ∃ b c cap, e = .returned (.tuple #[.slice b c cap, .bool true]) ∧ c = 2 * k ∧
      Rows8 w' b ((List.range (2 * k)).map fun v => rowF H (D v)) ∧ Below w.heap.size w w' := by
  have HRF : Hid _ := fun h w hh => hrrow_F k r h w h1 h2 h3 hh
  have HNL : Hid _ := hnl
  obtain ⟨A, hA⟩ : ∃ A, A = numM k (carN (groupN k r)) nl := ⟨_, rfl⟩
  have HAI : Hid (∀ i, A i = halfF k (carN (groupN k r)) (nl.getD i 0)) := fun i => by rw [hA]; rfl
  rw [← hA] at hdep hD
  obtain ⟨c, hc⟩ : ∃ c, c = 2 * k := ⟨_, rfl⟩
  rw [← hc] at HRF hdep hD ⊢
  have HCC : Hid _ := hc
  have ec : (2 : Int) * (k : Int) = c := by omega
  have hc32 : c ≤ 32 := by omega
  have hc1 : 1 ≤ c := by omega
  have HDEP : Hid _ := hdep
  have HD : Hid _ := hD
  have HLN : Hid _ := hln
  have HLR : Hid _ := hlr
  have HL : Hid _ := hL
  have HN : Hid (RowI w an (castL nl)) := hN
  have HR : Hid (Rows8 w ar L) := hR
  subst hlr2
  clear hA hc hdep hD hln hlr hL hN hR hnl
  go_enter Tryd.func38, Tryd.ntmps38
  go_wp2
  have hA := holds_new (holds_nil w) #[.int .i64 lr, .int .i64 c, .slice none 0 0] 65
  have B4 : Hid (Below w.heap.size w (w.alloc (.cells #[.int .i64 lr, .int .i64 c, .slice none 0 0] 65))) := (Below.refl _ _).alloc (Nat.le_refl _) _
  have HH : Hid _ := hA
  have z0 : w.heap.size + 1 ≤ (w.alloc (.cells #[.int .i64 lr, .int .i64 c, .slice none 0 0] 65)).heap.size := by simp
  clear hA
  generalize (w.alloc (.cells #[.int .i64 lr, .int .i64 c, .slice none 0 0] 65)) = W at *
  generalize hM : w.heap.size = M at *
  have HMM : Hid _ := hM
  clear hM
  go_loopw [31] (fun i wr => ∃ j : Nat, ∃ v : Value, j ≤ lr ∧ i = .int .i64 j ∧ Below M w wr ∧ M + 1 ≤ wr.heap.size ∧ wr.heap[M]? = some (.cells #[.int .i64 lr, .int .i64 c, v] 65 (0, 0)) ∧ wr.ownsRow (M + 1) 5 1 v (j * c) ((grid c A j).map vf)) (fun i _ => lr - (intOf i).toNat)
  case atStart => exact ⟨0, .slice none 0 0, by omega, rfl, B4.out, z0, holds_at HH.out 0 rfl, by rw [Nat.zero_mul]; exact World.ownsRow_nil _ _ _ _⟩
  case round =>
    obtain ⟨j, v, hj, rfl, hbw, hzr, hm, hown⟩ := hrel
    obtain ⟨av, capv, rfl, hrv, hnv, hnn⟩ := ownB_slice hown
    have HBW : Hid _ := hbw
    have HM : Hid _ := hm
    have HO : Hid _ := hown
    have HRV : Hid _ := hrv
    have HNN : Hid _ := hnn
    clear hbw hown hrv hnv hnn
    by_cases hlt : j < lr
    · obtain ⟨bN, oN, eN, hbN, hcN⟩ := rowI_cell HN.out (show j < (castL nl).length by rw [castL_len, ← HLN.out]; exact hlt)
      subst eN
      obtain ⟨h, hh⟩ : ∃ h, h = nl.getD j 0 := ⟨_, rfl⟩
      have hcj := hcN j (by rw [castL_len, ← HLN.out]; exact hlt)
      have ehj : (castL nl).getD j 0 = (h : Int) := by
        rw [hh]; simp only [castL, List.getD_eq_getElem?_getD, List.getElem?_map]
        cases nl[j]? <;> rfl
      rw [ehj] at hcj
      have c9 := cell_later (by rw [HMM.out]; exact HBW.out : Below w.heap.size w wr) hcj
      have hlh : h < 2 * (k + r) := by rw [hh]; exact HNL.out j hlt
      have hAj : A j = halfF k (carN (groupN k r)) h := by rw [HAI.out j, ← hh]
      have HAJ : Hid _ := hAj
      have HLH : Hid _ := hlh
      clear hcN hcj ehj hh hAj hlh hbN
      have hlk : j * c + c ≤ 4096 := by
        have h1 := Nat.mul_le_mul (show j + 1 ≤ 32 by omega) (show c ≤ 32 by omega)
        rw [Nat.succ_mul] at h1; omega
      obtain ⟨l, hl⟩ : ∃ l, l = j * c := ⟨_, rfl⟩
      rw [← hl] at hm HM HO hlk
      go_upto_region 5 with fail
      have HL5 : Hid _ := hl
      clear hl hm c9
      refine wp_region_noPanic ?_
      refine wp_region_held_drew (S := fun u => Below M w u) (by kernel_rfl) ?_ (fun hHeld => ?_)
      · exact HBW.out.drew
      refine wpAnyH_take (i := 0) (oi := { dst := some 35, op := Op.fieldAddr 65 (Operand.tmp 12) 2, type := 0, pos := "ref.go:55", after := #[], guard := none }) (v := ?_) rfl (by kernel_rfl) (by kernel_rfl) (by kernel_rfl) (fun _ _ _ h => h) (Or.inl ⟨by rfl, ?_⟩) hHeld ?_
      rotate_left
      · intro u hSw
        go_simp
        try with_reducible rfl
      try simp only [Act.put, List.setIfInBounds_toArray, List.set_cons_zero, List.set_cons_succ]
      refine wpAnyH_take (i := 2) (oi := { dst := some 37, op := Op.move (Operand.tmp 0), type := 3, pos := "ref.go:55", after := #[], guard := none }) (v := ?_) rfl (by kernel_rfl) (by kernel_rfl) (by kernel_rfl) (fun _ _ _ h => h) (Or.inl ⟨by rfl, ?_⟩) hHeld ?_
      rotate_left
      · intro u hSw
        go_simp
        try with_reducible rfl
      try simp only [Act.put, List.setIfInBounds_toArray, List.set_cons_zero, List.set_cons_succ]
      refine wpAnyH_take (i := 3) (oi := { dst := some 38, op := Op.move (Operand.tmp 1), type := 3, pos := "ref.go:55", after := #[], guard := none }) (v := ?_) rfl (by kernel_rfl) (by kernel_rfl) (by kernel_rfl) (fun _ _ _ h => h) (Or.inl ⟨by rfl, ?_⟩) hHeld ?_
      rotate_left
      · intro u hSw
        go_simp
        try with_reducible rfl
      try simp only [Act.put, List.setIfInBounds_toArray, List.set_cons_zero, List.set_cons_succ]
      refine wpAnyH_take (i := 4) (oi := { dst := some 39, op := Op.move (Operand.tmp 14), type := 3, pos := "ref.go:55", after := #[], guard := none }) (v := ?_) rfl (by kernel_rfl) (by kernel_rfl) (by kernel_rfl) (fun _ _ _ h => h) (Or.inl ⟨by rfl, ?_⟩) hHeld ?_
      rotate_left
      · intro u hSw
        go_simp
        try with_reducible rfl
      try simp only [Act.put, List.setIfInBounds_toArray, List.set_cons_zero, List.set_cons_succ]
      refine wpAnyH_ready (rs := [1, 5]) (by kernel_rfl) (by simp) ?_
      refine (AllReadyH.cons (o := { dst := some 36, op := Op.load 22 (Operand.tmp 35), type := 22, pos := "ref.go:55", after := #[{ on := 0, ground := Ground.data }], guard := none }) rfl (fun K hK => ?_) (AllReadyH.cons (o := { dst := some 40, op := Op.call { callee := Callee.value (Operand.func 62), args := #[Operand.tmp 37, Operand.tmp 38, Operand.tmp 39], argTypes := #[3, 3, 3] }, type := 22, pos := "ref.go:55", after := #[{ on := 2, ground := Ground.data }, { on := 3, ground := Ground.data }, { on := 4, ground := Ground.data }], guard := none }) rfl (fun K hK => ?_) AllReadyH.nil))
      · have cL := cellAt (show wr.drew.heap[M]? = _ from HM.out) 2 _ rfl
        go_simp
        refine hK.out _ _ ?_ (fun hHeld => ?_)
        · exact HBW.out.drew
        clear hK K
        try simp only [Act.put, List.setIfInBounds_toArray, List.set_cons_zero, List.set_cons_succ]
        refine wpAnyH_ready (rs := [5]) (by kernel_rfl) (by simp) ?_
        refine (AllReadyH.cons (o := { dst := some 40, op := Op.call { callee := Callee.value (Operand.func 62), args := #[Operand.tmp 37, Operand.tmp 38, Operand.tmp 39], argTypes := #[3, 3, 3] }, type := 22, pos := "ref.go:55", after := #[{ on := 2, ground := Ground.data }, { on := 3, ground := Ground.data }, { on := 4, ground := Ground.data }], guard := none }) rfl (fun K hK => ?_) AllReadyH.nil)
        go_simp
        refine Calls.mono (HRF.out h _ HLH.out) ?_
        rintro e w6 ⟨g6, n6, rfl, hn6, hg6, hh6, hb6⟩
        obtain rfl : n6 = c := hn6
        rw [← HAJ.out] at hh6
        have hB6 : Below M w w6 := Below.trans HBW.out.drew (Below.mono hb6 (show M ≤ wr.heap.size by omega))
        have hM6 := heap_later (w := wr.drew) HM.out hb6
        have ho6 : w6.ownsRow (M + 1) 5 1 (.slice av l capv) l ((grid n6 A j).map vf) := own_below (w := wr.drew) HO.out hb6
        have hz6 := hb6.size
        have hzd : M + 1 ≤ wr.drew.heap.size := hzr
        obtain ⟨v', w7, hrun, ho7, hgr⟩ := appendB (m := n6) (c := n6) 22 ho6 (rowF_len n6 (A j)).symm (by omega) (row8_own hh6) (fun h => by cases h) (by omega)
        have hM7 := own_other ho6 hgr hM6 (by decide)
        have hB7 : Below M w w7 := below_own hB6 (own_mono (B' := M) ho6 (by omega)) hgr (by omega)
        have hz7 := hgr.size
        obtain ⟨a7, cap7, rfl, h7, h8, h9⟩ := ownB_slice ho7
        clear h7 h8 h9
        have HRun : Hid _ := hrun
        have HO7 : Hid _ := ho7
        have HM6 : Hid _ := hM6
        have HM7 : Hid _ := hM7
        have HB6 : Hid _ := hB6
        have HB7 : Hid _ := hB7
        have HZ7 : Hid (M + 1 ≤ w7.heap.size) := by show _ ≤ _; omega
        clear hg6 hh6 hb6 hB6 hM6 ho6 hz6 hzd hrun ho7 hgr hM7 hB7 hz7
        go_wp2_with fail
        refine hK.out _ _ ?_ (fun hHeld => ?_)
        · exact HB6.out
        clear hK K
        try simp only [Act.put, List.setIfInBounds_toArray, List.set_cons_zero, List.set_cons_succ]
        refine wpAnyH_ready (rs := [6]) (by kernel_rfl) (by simp) ?_
        refine (AllReadyH.cons (o := { dst := some 41, op := Op.call { callee := Callee.builtin Builtin.append, args := #[Operand.tmp 36, Operand.tmp 40], argTypes := #[22, 22] }, type := 22, pos := "ref.go:55", after := #[{ on := 1, ground := Ground.data }, { on := 5, ground := Ground.data }, { on := 5, ground := Ground.chain }], guard := none }) rfl (fun K hK => ?_) AllReadyH.nil)
        refine wanted_append_run rfl _ _ 22 rfl _ _ _ _ rfl rfl HRun.out ?_
        refine hK.out _ _ ?_ (fun hHeld => ?_)
        · exact HB7.out
        clear hK K
        try simp only [Act.put, List.setIfInBounds_toArray, List.set_cons_zero, List.set_cons_succ]
        refine wpAnyH_take (i := 7) (oi := { dst := some 42, op := Op.fieldAddr 65 (Operand.tmp 12) 2, type := 0, pos := "ref.go:55", after := #[{ on := 0, ground := Ground.phase }, { on := 1, ground := Ground.phase }, { on := 2, ground := Ground.phase }, { on := 3, ground := Ground.phase }, { on := 4, ground := Ground.phase }, { on := 5, ground := Ground.phase }, { on := 6, ground := Ground.phase }], guard := none }) (v := ?_) rfl (by kernel_rfl) (by kernel_rfl) (by kernel_rfl) (fun _ _ _ h => h) (Or.inl ⟨by rfl, ?_⟩) hHeld ?_
        rotate_left
        · intro u hSw
          go_simp
          try with_reducible rfl
        try simp only [Act.put, List.setIfInBounds_toArray, List.set_cons_zero, List.set_cons_succ]
        refine wpAnyH_ready (rs := [8]) (by kernel_rfl) (by simp) ?_
        refine (AllReadyH.cons (o := { dst := none, op := Op.store 22 (Operand.tmp 42) (Operand.tmp 41), type := 0, pos := "ref.go:55", after := #[{ on := 7, ground := Ground.data }, { on := 6, ground := Ground.data }, { on := 6, ground := Ground.chain }, { on := 0, ground := Ground.phase }, { on := 1, ground := Ground.phase }, { on := 2, ground := Ground.phase }, { on := 3, ground := Ground.phase }, { on := 4, ground := Ground.phase }, { on := 5, ground := Ground.phase }, { on := 6, ground := Ground.phase }], guard := none }) rfl (fun K hK => ?_) AllReadyH.nil)
        have cS := cellAt HM7.out 2 _ rfl
        have hM8 : w7.frozen? ⟨M, 2, none⟩ = false := frozen_of_row _ _ _ _ _ HM7.out
        go_simp
        refine hK.out _ _ ?_ (fun hHeld => ?_)
        · exact HB7.out.setCell (Nat.le_refl _) _
        clear hK K
        try simp only [Act.put, List.setIfInBounds_toArray, List.set_cons_zero, List.set_cons_succ]
        refine wpAnyH_done (by kernel_rfl) ?_ _
        refine NoPanic.normal ?_
        clear cS hM8
        have k1 : (w7.setCell ⟨M, 2, none⟩ (.slice a7 (l + n6) cap7)).heap[M]? = some (.cells #[.int .i64 lr, .int .i64 n6, .slice a7 (l + n6) cap7] 65 (0, 0)) := heap_setCell_same _ _ _ _ _ _ HM7.out
        have HB8 : Hid (Below M w (w7.setCell ⟨M, 2, none⟩ (.slice a7 (l + n6) cap7))) := HB7.out.setCell (Nat.le_refl _) _
        have ho8 : (w7.setCell ⟨M, 2, none⟩ (.slice a7 (l + n6) cap7)).ownsRow (M + 1) 5 1 (.slice a7 (l + n6) cap7) ((j + 1) * n6) ((grid n6 A (j + 1)).map vf) := by
          have hl := HL5.out
          rw [Nat.succ_mul, ← hl]
          exact hown_set HO7.out (by omega)
        have HK1 : Hid _ := k1
        have HO8 : Hid _ := ho8
        have HZ8 : Hid (M + 1 ≤ (w7.setCell ⟨M, 2, none⟩ (.slice a7 (l + n6) cap7)).heap.size) := by have := HZ7.out; show _ ≤ _; simpa using this
        clear k1 ho8
        go_wp2
        exact ⟨⟨j + 1, _, by omega, by go_num, HB8.out, HZ8.out, HK1.out, HO8.out⟩, by simp [intOf]; omega⟩
      · go_simp
        refine Calls.mono (HRF.out h _ HLH.out) ?_
        rintro e w6 ⟨g6, n6, rfl, hn6, hg6, hh6, hb6⟩
        obtain rfl : n6 = c := hn6
        rw [← HAJ.out] at hh6
        have hB6 : Below M w w6 := Below.trans HBW.out.drew (Below.mono hb6 (show M ≤ wr.heap.size by omega))
        have hM6 := heap_later (w := wr.drew) HM.out hb6
        have ho6 : w6.ownsRow (M + 1) 5 1 (.slice av l capv) l ((grid n6 A j).map vf) := own_below (w := wr.drew) HO.out hb6
        have hz6 := hb6.size
        have hzd : M + 1 ≤ wr.drew.heap.size := hzr
        obtain ⟨v', w7, hrun, ho7, hgr⟩ := appendB (m := n6) (c := n6) 22 ho6 (rowF_len n6 (A j)).symm (by omega) (row8_own hh6) (fun h => by cases h) (by omega)
        have hM7 := own_other ho6 hgr hM6 (by decide)
        have hB7 : Below M w w7 := below_own hB6 (own_mono (B' := M) ho6 (by omega)) hgr (by omega)
        have hz7 := hgr.size
        obtain ⟨a7, cap7, rfl, h7, h8, h9⟩ := ownB_slice ho7
        clear h7 h8 h9
        have HRun : Hid _ := hrun
        have HO7 : Hid _ := ho7
        have HM6 : Hid _ := hM6
        have HM7 : Hid _ := hM7
        have HB6 : Hid _ := hB6
        have HB7 : Hid _ := hB7
        have HZ7 : Hid (M + 1 ≤ w7.heap.size) := by show _ ≤ _; omega
        clear hg6 hh6 hb6 hB6 hM6 ho6 hz6 hzd hrun ho7 hgr hM7 hB7 hz7
        go_wp2_with fail
        refine hK.out _ _ ?_ (fun hHeld => ?_)
        · exact HB6.out
        clear hK K
        try simp only [Act.put, List.setIfInBounds_toArray, List.set_cons_zero, List.set_cons_succ]
        refine wpAnyH_ready (rs := [1]) (by kernel_rfl) (by simp) ?_
        refine (AllReadyH.cons (o := { dst := some 36, op := Op.load 22 (Operand.tmp 35), type := 22, pos := "ref.go:55", after := #[{ on := 0, ground := Ground.data }], guard := none }) rfl (fun K hK => ?_) AllReadyH.nil)
        have cL := cellAt HM6.out 2 _ rfl
        go_simp
        refine hK.out _ _ ?_ (fun hHeld => ?_)
        · exact HB6.out
        clear hK K
        try simp only [Act.put, List.setIfInBounds_toArray, List.set_cons_zero, List.set_cons_succ]
        refine wpAnyH_ready (rs := [6]) (by kernel_rfl) (by simp) ?_
        refine (AllReadyH.cons (o := { dst := some 41, op := Op.call { callee := Callee.builtin Builtin.append, args := #[Operand.tmp 36, Operand.tmp 40], argTypes := #[22, 22] }, type := 22, pos := "ref.go:55", after := #[{ on := 1, ground := Ground.data }, { on := 5, ground := Ground.data }, { on := 5, ground := Ground.chain }], guard := none }) rfl (fun K hK => ?_) AllReadyH.nil)
        refine wanted_append_run rfl _ _ 22 rfl _ _ _ _ rfl rfl HRun.out ?_
        refine hK.out _ _ ?_ (fun hHeld => ?_)
        · exact HB7.out
        clear hK K
        try simp only [Act.put, List.setIfInBounds_toArray, List.set_cons_zero, List.set_cons_succ]
        refine wpAnyH_take (i := 7) (oi := { dst := some 42, op := Op.fieldAddr 65 (Operand.tmp 12) 2, type := 0, pos := "ref.go:55", after := #[{ on := 0, ground := Ground.phase }, { on := 1, ground := Ground.phase }, { on := 2, ground := Ground.phase }, { on := 3, ground := Ground.phase }, { on := 4, ground := Ground.phase }, { on := 5, ground := Ground.phase }, { on := 6, ground := Ground.phase }], guard := none }) (v := ?_) rfl (by kernel_rfl) (by kernel_rfl) (by kernel_rfl) (fun _ _ _ h => h) (Or.inl ⟨by rfl, ?_⟩) hHeld ?_
        rotate_left
        · intro u hSw
          go_simp
          try with_reducible rfl
        try simp only [Act.put, List.setIfInBounds_toArray, List.set_cons_zero, List.set_cons_succ]
        refine wpAnyH_ready (rs := [8]) (by kernel_rfl) (by simp) ?_
        refine (AllReadyH.cons (o := { dst := none, op := Op.store 22 (Operand.tmp 42) (Operand.tmp 41), type := 0, pos := "ref.go:55", after := #[{ on := 7, ground := Ground.data }, { on := 6, ground := Ground.data }, { on := 6, ground := Ground.chain }, { on := 0, ground := Ground.phase }, { on := 1, ground := Ground.phase }, { on := 2, ground := Ground.phase }, { on := 3, ground := Ground.phase }, { on := 4, ground := Ground.phase }, { on := 5, ground := Ground.phase }, { on := 6, ground := Ground.phase }], guard := none }) rfl (fun K hK => ?_) AllReadyH.nil)
        have cS := cellAt HM7.out 2 _ rfl
        have hM8 : w7.frozen? ⟨M, 2, none⟩ = false := frozen_of_row _ _ _ _ _ HM7.out
        go_simp
        refine hK.out _ _ ?_ (fun hHeld => ?_)
        · exact HB7.out.setCell (Nat.le_refl _) _
        clear hK K
        try simp only [Act.put, List.setIfInBounds_toArray, List.set_cons_zero, List.set_cons_succ]
        refine wpAnyH_done (by kernel_rfl) ?_ _
        refine NoPanic.normal ?_
        clear cS hM8
        have k1 : (w7.setCell ⟨M, 2, none⟩ (.slice a7 (l + n6) cap7)).heap[M]? = some (.cells #[.int .i64 lr, .int .i64 n6, .slice a7 (l + n6) cap7] 65 (0, 0)) := heap_setCell_same _ _ _ _ _ _ HM7.out
        have HB8 : Hid (Below M w (w7.setCell ⟨M, 2, none⟩ (.slice a7 (l + n6) cap7))) := HB7.out.setCell (Nat.le_refl _) _
        have ho8 : (w7.setCell ⟨M, 2, none⟩ (.slice a7 (l + n6) cap7)).ownsRow (M + 1) 5 1 (.slice a7 (l + n6) cap7) ((j + 1) * n6) ((grid n6 A (j + 1)).map vf) := by
          have hl := HL5.out
          rw [Nat.succ_mul, ← hl]
          exact hown_set HO7.out (by omega)
        have HK1 : Hid _ := k1
        have HO8 : Hid _ := ho8
        have HZ8 : Hid (M + 1 ≤ (w7.setCell ⟨M, 2, none⟩ (.slice a7 (l + n6) cap7)).heap.size) := by have := HZ7.out; show _ ≤ _; simpa using this
        clear k1 ho8
        go_wp2
        exact ⟨⟨j + 1, _, by omega, by go_num, HB8.out, HZ8.out, HK1.out, HO8.out⟩, by simp [intOf]; omega⟩
    · obtain rfl : lr = j := by omega
      have q0 := cellAt hm 0 _ rfl
      have q1 := cellAt hm 1 _ rfl
      have q2 := cellAt hm 2 _ rfl
      have hlc : lr * c ≤ capv := slice_cap HO.out
      obtain ⟨l, hl⟩ : ∃ l, l = lr * c := ⟨_, rfl⟩
      rw [← hl] at q2 hlc
      have HL5 : Hid _ := hl
      clear hl hm
      go_wp2_with fail
      refine Calls.mono (rof_F lr c l capv av (grid c A lr) _ (by omega) (by omega) HL5.out (grid_len _ _ _) hlc HRV.out HNN.out) ?_
      rintro e w2 ⟨SB, t, vR, vM, vF, vB, fr, fm, V, Ms, f, rfl, hSB, hsp, hso, hb2⟩
      generalize hB0 : wr.heap.size = B0 at hsp
      have HSP : Hid (SpanW w2 B0 SB c lr t t t t vR vM vF vB fr fm V Ms f (pivL (tr (rowsF c (grid c A lr))) c lr)) := hsp
      have HSO : Hid (SpanOf (rowsF c (grid c A lr)) c lr t V (madeF Ms) (f.getD · 0)) := hso
      have HB2 : Hid (Below w.heap.size w w2) := by
        have h1 : Below w.heap.size w wr := by rw [HMM.out]; exact HBW.out
        exact h1.trans (hb2.mono h1.size)
      have z2 : M + 1 ≤ w2.heap.size := Nat.le_trans hzr hb2.size
      clear hsp hso hb2 hSB q0 q1 q2 HO HRV HM HBW hzr hB0
      go_wp2
      have hown : (w2.alloc (.cells #[] 22)).ownsRow w2.heap.size 22 1 (.slice (some ⟨w2.heap.size, 0, none⟩) 0 0) 0 (slsV H []) := ⟨rfl, .inr ⟨w2.heap.size, 0, #[], rfl, Nat.le_refl _, heap_alloc_last _ _, by simp, by simp [maxLen], rfl, rfl⟩⟩
      clear HH B4 z0
      generalize wr = w0 at *
      go_loopw [16, 17] (fun s t wr => ∃ v : Nat, ∃ gs : List Nat, v ≤ c ∧ t = .int .i64 v ∧ gs.length = v ∧ Below w2.heap.size w2 wr ∧ wr.ownsRow w2.heap.size 22 1 s v (slsV H gs) ∧ ∀ (j g : Nat), gs[j]? = some g → wr.heap[g]? = some (.cells (vfs (rowF H (D j))) 5 (0, 0))) (fun _ t _ => c - (intOf t).toNat)
      case atStart => exact ⟨0, [], by omega, rfl, rfl, (Below.refl _ _).alloc (Nat.le_refl _) _, hown, fun j g h => by simp at h⟩
      case round =>
        obtain ⟨v, gs, hv, rfl, hgs, hb2, ho, hrows⟩ := hrel
        have HGS : Hid (gs.length = v) := hgs
        have HBR : Hid (Below w2.heap.size w2 wr) := hb2
        have HO : Hid (wr.ownsRow w2.heap.size 22 1 u16 v (slsV H gs)) := ho
        have HRO : Hid (∀ (j g : Nat), gs[j]? = some g → wr.heap[g]? = some (.cells (vfs (rowF H (D j))) 5 (0, 0))) := hrows
        have hkc := ec
        clear hgs hb2 hrows hown
        by_cases hlt2 : v < c
        · clear ho
          go_wp2_with fail
          refine Calls.mono (rone_F c _ (by omega)) ?_
          rintro e w3 ⟨g1, n1, rfl, hn1, hg1, hh1, hb3⟩
          have HB3 : Hid (Below w2.heap.size w2 w3) := HBR.out.trans (hb3.mono HBR.out.size)
          have hO3 := own_below HO.out hb3
          have HO3 : Hid (w3.ownsRow w2.heap.size 22 1 u16 v (slsV H gs)) := hO3
          have HRO3 : Hid (∀ (j g : Nat), gs[j]? = some g → w3.heap[g]? = some (.cells (vfs (rowF H (D j))) 5 (0, 0))) := fun j g hj => heap_later (HRO.out j g hj) hb3
          have HH1 : Hid (w3.heap[g1]? = some (.cells (vfs (oneM c)) 5 (0, 0))) := hh1
          have HN1 : Hid (n1 = c * c) := hn1
          clear hb3 hO3 hh1 hg1 hn1 HBR HO HRO
          go_wp2_with fail
          refine Calls.mono (rrow_F c c v n1 n1 (some ⟨g1, 0, none⟩) (oneM c) _ (by omega) (by omega) hlt2 HN1.out (oneM_len c) (Nat.le_refl _) (row8_own HH1.out) (fun h => by cases h)) ?_
          rintro e w4 ⟨g2, cap2, rfl, hg2, hh2, hb4⟩
          rw [oneM, rowAt_grid hlt2] at hh2
          have HB4 : Hid (Below w2.heap.size w2 w4) := HB3.out.trans (hb4.mono HB3.out.size)
          have hO4 := own_below HO3.out hb4
          have HO4 : Hid (w4.ownsRow w2.heap.size 22 1 u16 v (slsV H gs)) := hO4
          have HRO4 : Hid (∀ (j g : Nat), gs[j]? = some g → w4.heap[g]? = some (.cells (vfs (rowF H (D j))) 5 (0, 0))) := fun j g hj => heap_later (HRO3.out j g hj) hb4
          have HH2 : Hid (Has8 w4 g2 (rowF c (unitF v)) cap2) := hh2
          have hs4 := SpanW.below HSP.out HB4.out
          have HS4 : Hid (SpanW w4 B0 SB c lr t t t t vR vM vF vB fr fm V Ms f (pivL (tr (rowsF c (grid c A lr))) c lr)) := hs4
          clear hb4 hO4 hg2 hh2 hs4 HB3 HO3 HRO3 HH1 HN1
          go_wp2_with fail
          refine Calls.mono (rexpress_F (rowsF c (grid c A lr)) _ SB c lr t vR vM vF vB fr fm V Ms f _ (some ⟨g2, 0, none⟩) c cap2 (rowF c (unitF v)) _ HS4.out HSO.out (by omega) (by omega) rfl (rowF_len _ _) (row8_has HH2.out) (fun h => by cases h)) ?_
          rintro e w5 (⟨gx, x, rfl, hgx, hhx, hsol, hb5⟩ | ⟨_, hno, _⟩)
          rotate_left
          · exact absurd (Dep.unit (HDEP.out v hlt2)) hno
          have HB5 : Hid (Below w2.heap.size w2 w5) := HB4.out.trans (hb5.mono HB4.out.size)
          have hO5 := own_below HO4.out hb5
          have HO5 : Hid (w5.ownsRow w2.heap.size 22 1 u16 v (slsV H gs)) := hO5
          have HRO5 : Hid (∀ (j g : Nat), gs[j]? = some g → w5.heap[g]? = some (.cells (vfs (rowF H (D j))) 5 (0, 0))) := fun j g hj => heap_later (HRO4.out j g hj) hb5
          have HX5 : Hid (w5.heap[gx]? = some (.cells (vfs (rowF lr x)) 5 (0, 0))) := hhx
          have HSOL : Hid (∀ u, u < c → unitF v u = sumF (fun l => gm (A l u) (x l)) lr) := sol_unit hsol
          have zx : gx < w5.heap.size := ltHeap hhx
          clear hb5 hO5 hgx hhx hsol HB4 HO4 HRO4 HH2 HS4
          have hmk := run_make8 H (by omega) w5
          have hz : zeros H = varP H (fun q l => gm (x l) (bytesD L l q)) 0 0 := varP_zero H _
          rw [hz] at hmk
          go_wp2
          clear hmk hz
          obtain ⟨fS, hfS⟩ : ∃ fS : Nat → Nat → F, fS = fun q l => gm (x l) (bytesD L l q) := ⟨_, rfl⟩
          have HFS : Hid (∀ q l, fS q l = gm (x l) (bytesD L l q)) := fun q l => by rw [hfS]
          rw [← hfS]
          clear hfS
          obtain ⟨g0, hg0⟩ : ∃ g0, g0 = w5.heap.size := ⟨_, rfl⟩
          have X1 : Hid ((w5.alloc (.cells (vfs (varP H fS 0 0)) 5)).heap[gx]? = some (.cells (vfs (rowF lr x)) 5 (0, 0))) := (Below.heap_alloc _ _ _ zx).trans HX5.out
          have X2 : Hid ((w5.alloc (.cells (vfs (varP H fS 0 0)) 5)).heap[g0]? = some (.cells (vfs (varP H fS 0 0)) 5 (0, 0))) := by rw [hg0]; exact heap_alloc_last _ _
          have X3 : Hid (Below w5.heap.size w5 (w5.alloc (.cells (vfs (varP H fS 0 0)) 5))) := (Below.refl _ _).alloc (Nat.le_refl _) _
          have zg : gx ≠ g0 := by omega
          rw [← hg0]
          have HG0 : Hid (g0 = w5.heap.size) := hg0
          clear hg0 zx HX5
          generalize (w5.alloc (.cells (vfs (varP H fS 0 0)) 5)) = W6 at *
          generalize wr = w1 at *
          go_loopw [69] (fun t wr => ∃ i : Nat, i ≤ lr ∧ t = .int .i64 i ∧ W6.grownBy wr (some g0) ∧ wr.heap[g0]? = some (.cells (vfs (varP H fS i 0)) 5 (0, 0))) (fun t _ => lr - (intOf t).toNat)
          case atStart => exact ⟨0, by omega, rfl, World.grownBy.refl _ _, X2.out⟩
          case round =>
            obtain ⟨i, hi, rfl, hgb, hs⟩ := hrel
            have HG : Hid (W6.grownBy wr (some g0)) := hgb
            have HS : Hid (wr.heap[g0]? = some (.cells (vfs (varP H fS i 0)) 5 (0, 0))) := hs
            clear hgb hs
            by_cases hlt3 : i < lr
            · have cx := cellAt (grown_block HG.out X1.out zg) i _ (vfs_get _ _ (by rw [rowF_len]; exact hlt3))
              rw [at8_rowF hlt3] at cx
              go_wp2
              generalize wr = wo at *
              go_loopw [23] (fun t wr => ∃ b : Nat, b ≤ H ∧ t = .int .i64 b ∧ W6.grownBy wr (some g0) ∧ wr.heap[g0]? = some (.cells (vfs (varP H fS i b)) 5 (0, 0))) (fun t _ => H - (intOf t).toNat)
              case atStart => exact ⟨0, by omega, rfl, HG.out, HS.out⟩
              case round =>
                obtain ⟨b, hb, rfl, hgb, hs⟩ := hrel
                have HG2 : Hid (W6.grownBy wr (some g0)) := hgb
                have HS2 : Hid (wr.heap[g0]? = some (.cells (vfs (varP H fS i b)) 5 (0, 0))) := hs
                clear cx
                by_cases hlt4 : b < H
                · have hBw : ∀ u, W6.grownBy u (some g0) → Below w.heap.size w u := fun u hu => by
                    have h5 : Below w.heap.size w w5 := HB2.out.trans (HB5.out.mono HB2.out.size)
                    have h6 : Below w.heap.size w W6 := h5.trans (X3.out.mono h5.size)
                    exact below_grown h6 hu (by rw [HG0.out]; exact h5.size)
                  have hvl : i < L.length := by rw [← HLR.out]; exact hlt3
                  obtain ⟨bL, off, rfl, hbL, hcl⟩ := rows8_at HR.out hvl
                  obtain ⟨xs, hxs⟩ : ∃ xs, L[i]? = some xs := ⟨_, List.getElem?_eq_getElem hvl⟩
                  obtain ⟨a', cap', e1, e2⟩ := hcl i xs hxs
                  have hxl : xs.length = H := HL.out xs (List.mem_of_getElem? hxs)
                  obtain ⟨b', off', rfl, hb', he2⟩ := row8_cell e2 (show b < xs.length by rw [hxl]; exact hlt4)
                  have hDv : bytesD L i b = at8 xs b := by simp [bytesD, List.getD_eq_getElem?_getD, hxs]
                  have C3 : ∀ u, W6.grownBy u (some g0) → u.cell? ⟨bL, off + i, none⟩ = some (.slice (some ⟨b', off', none⟩) H cap') := fun u hu => by rw [← hxl]; exact cell_later (hBw u hu) e1
                  have C4 : ∀ u, W6.grownBy u (some g0) → u.cell? ⟨b', off' + b, none⟩ = some (.int .u8 ((bytesD L i b).toNat : Int)) := fun u hu => by rw [hDv]; exact cell_later (hBw u hu) (he2 b (by rw [hxl]; exact hlt4))
                  obtain ⟨sj, hsj⟩ : ∃ sj, sj = sumF (fS b) i := ⟨_, rfl⟩
                  have c0 : wr.drew.cell? ⟨g0, b, none⟩ = some (.int .u8 (sj.toNat : Int)) := by
                    rw [cellAt (w := wr.drew) hs b _ (vfs_get _ _ (by rw [varP_len]; exact hlt4)), varP_at hlt4, hsj]
                  have d0 : wr.drew.frozen? ⟨g0, b, none⟩ = false := frozen_of_row _ _ _ _ _ (show wr.drew.heap[g0]? = _ from hs)
                  have HT : Hid ((wr.drew.setCell ⟨g0, b, none⟩ (.int .u8 ((ga sj (gm (x i) (bytesD L i b))).toNat : Int))).heap[g0]? = some (.cells (vfs (varP H fS i (b + 1))) 5 (0, 0))) := by
                    show _ = _
                    rw [heap_setCell_same _ _ _ _ _ _ (show wr.drew.heap[g0]? = _ from hs), vfs_set, hsj, ← HFS.out, varP_set hlt4]
                  have ex := xor_val sj (gm (x i) (bytesD L i b))
                  have hS0 : W6.grownBy wr.drew (some g0) := grownBy_drew hgb
                  clear hgb hs hcl hxs e1 e2 he2 hDv hsj hBw
                  go_upto_region 22 with fail
                  refine wp_region_noPanic ?_
                  refine wp_region_held_drew (S := fun u => W6.grownBy u (some g0)) (by kernel_rfl) ?_ (fun hHeld => ?_)
                  · exact hS0
                  refine wpAnyH_take (i := 0) (oi := { dst := some 79, op := Op.move (Operand.tmp 20), type := 22, pos := "ref.go:67", after := #[], guard := none }) (v := ?_) rfl (by kernel_rfl) (by kernel_rfl) (by kernel_rfl) (fun _ _ _ h => h) (Or.inl ⟨by rfl, ?_⟩) hHeld ?_
                  rotate_left
                  · intro u hSw
                    go_simp
                    try with_reducible rfl
                  try simp only [Act.put, List.setIfInBounds_toArray, List.set_cons_zero, List.set_cons_succ]
                  refine wpAnyH_take (i := 1) (oi := { dst := some 80, op := Op.move (Operand.tmp 23), type := 3, pos := "ref.go:67", after := #[], guard := none }) (v := ?_) rfl (by kernel_rfl) (by kernel_rfl) (by kernel_rfl) (fun _ _ _ h => h) (Or.inl ⟨by rfl, ?_⟩) hHeld ?_
                  rotate_left
                  · intro u hSw
                    go_simp
                    try with_reducible rfl
                  try simp only [Act.put, List.setIfInBounds_toArray, List.set_cons_zero, List.set_cons_succ]
                  refine wpAnyH_take (i := 2) (oi := { dst := some 81, op := Op.indexAddr 22 (Operand.tmp 79) (Operand.tmp 80), type := 0, pos := "ref.go:67", after := #[{ on := 0, ground := Ground.data }, { on := 1, ground := Ground.data }], guard := none }) (v := ?_) rfl (by kernel_rfl) (by kernel_rfl) (by kernel_rfl) (fun _ _ _ h => h) (Or.inl ⟨by rfl, ?_⟩) hHeld ?_
                  rotate_left
                  · intro u hSw
                    go_simp
                    try with_reducible rfl
                  try simp only [Act.put, List.setIfInBounds_toArray, List.set_cons_zero, List.set_cons_succ]
                  refine wpAnyH_take (i := 4) (oi := { dst := some 83, op := Op.move (Operand.tmp 22), type := 5, pos := "ref.go:67", after := #[], guard := none }) (v := ?_) rfl (by kernel_rfl) (by kernel_rfl) (by kernel_rfl) (fun _ _ _ h => h) (Or.inl ⟨by rfl, ?_⟩) hHeld ?_
                  rotate_left
                  · intro u hSw
                    go_simp
                    try with_reducible rfl
                  try simp only [Act.put, List.setIfInBounds_toArray, List.set_cons_zero, List.set_cons_succ]
                  refine wpAnyH_take (i := 5) (oi := { dst := some 84, op := Op.move (Operand.tmp 3), type := 25, pos := "ref.go:67", after := #[], guard := none }) (v := ?_) rfl (by kernel_rfl) (by kernel_rfl) (by kernel_rfl) (fun _ _ _ h => h) (Or.inl ⟨by rfl, ?_⟩) hHeld ?_
                  rotate_left
                  · intro u hSw
                    go_simp
                    try with_reducible rfl
                  try simp only [Act.put, List.setIfInBounds_toArray, List.set_cons_zero, List.set_cons_succ]
                  refine wpAnyH_take (i := 6) (oi := { dst := some 85, op := Op.move (Operand.tmp 21), type := 3, pos := "ref.go:67", after := #[], guard := none }) (v := ?_) rfl (by kernel_rfl) (by kernel_rfl) (by kernel_rfl) (fun _ _ _ h => h) (Or.inl ⟨by rfl, ?_⟩) hHeld ?_
                  rotate_left
                  · intro u hSw
                    go_simp
                    try with_reducible rfl
                  try simp only [Act.put, List.setIfInBounds_toArray, List.set_cons_zero, List.set_cons_succ]
                  refine wpAnyH_take (i := 7) (oi := { dst := some 86, op := Op.indexAddr 25 (Operand.tmp 84) (Operand.tmp 85), type := 0, pos := "ref.go:67", after := #[{ on := 5, ground := Ground.data }, { on := 6, ground := Ground.data }], guard := none }) (v := ?_) rfl (by kernel_rfl) (by kernel_rfl) (by kernel_rfl) (fun _ _ _ h => h) (Or.inl ⟨by rfl, ?_⟩) hHeld ?_
                  rotate_left
                  · intro u hSw
                    go_simp
                    try with_reducible rfl
                  try simp only [Act.put, List.setIfInBounds_toArray, List.set_cons_zero, List.set_cons_succ]
                  refine wpAnyH_take (i := 8) (oi := { dst := some 87, op := Op.load 22 (Operand.tmp 86), type := 22, pos := "ref.go:67", after := #[{ on := 7, ground := Ground.data }], guard := none }) (v := ?_) rfl (by kernel_rfl) (by kernel_rfl) (by kernel_rfl) (fun _ _ _ h => h) (Or.inl ⟨by rfl, ?_⟩) hHeld ?_
                  rotate_left
                  · intro u hSw
                    have q0 := C3 u hSw
                    go_simp
                    try with_reducible rfl
                  try simp only [Act.put, List.setIfInBounds_toArray, List.set_cons_zero, List.set_cons_succ]
                  refine wpAnyH_take (i := 9) (oi := { dst := some 88, op := Op.move (Operand.tmp 23), type := 3, pos := "ref.go:67", after := #[], guard := none }) (v := ?_) rfl (by kernel_rfl) (by kernel_rfl) (by kernel_rfl) (fun _ _ _ h => h) (Or.inl ⟨by rfl, ?_⟩) hHeld ?_
                  rotate_left
                  · intro u hSw
                    go_simp
                    try with_reducible rfl
                  try simp only [Act.put, List.setIfInBounds_toArray, List.set_cons_zero, List.set_cons_succ]
                  refine wpAnyH_take (i := 10) (oi := { dst := some 89, op := Op.indexAddr 22 (Operand.tmp 87) (Operand.tmp 88), type := 0, pos := "ref.go:67", after := #[{ on := 8, ground := Ground.data }, { on := 9, ground := Ground.data }], guard := none }) (v := ?_) rfl (by kernel_rfl) (by kernel_rfl) (by kernel_rfl) (fun _ _ _ h => h) (Or.inl ⟨by rfl, ?_⟩) hHeld ?_
                  rotate_left
                  · intro u hSw
                    go_simp
                    try with_reducible rfl
                  try simp only [Act.put, List.setIfInBounds_toArray, List.set_cons_zero, List.set_cons_succ]
                  refine wpAnyH_take (i := 11) (oi := { dst := some 90, op := Op.load 5 (Operand.tmp 89), type := 5, pos := "ref.go:67", after := #[{ on := 10, ground := Ground.data }], guard := none }) (v := ?_) rfl (by kernel_rfl) (by kernel_rfl) (by kernel_rfl) (fun _ _ _ h => h) (Or.inl ⟨by rfl, ?_⟩) hHeld ?_
                  rotate_left
                  · intro u hSw
                    have q0 := C4 u hSw
                    go_simp
                    try with_reducible rfl
                  try simp only [Act.put, List.setIfInBounds_toArray, List.set_cons_zero, List.set_cons_succ]
                  refine wpAnyH_ready (rs := [3, 12]) (by kernel_rfl) (by simp) ?_
                  refine (AllReadyH.cons (o := { dst := some 82, op := Op.load 5 (Operand.tmp 81), type := 5, pos := "ref.go:67", after := #[{ on := 2, ground := Ground.data }], guard := none }) rfl (fun K hK => ?_) (AllReadyH.cons (o := { dst := some 91, op := Op.call { callee := Callee.value (Operand.func 44), args := #[Operand.tmp 83, Operand.tmp 90], argTypes := #[5, 5] }, type := 5, pos := "ref.go:67", after := #[{ on := 4, ground := Ground.data }, { on := 11, ground := Ground.data }], guard := none }) rfl (fun K hK => ?_) AllReadyH.nil))
                  · go_simp
                    refine hK.out _ _ ?_ (fun hHeld => ?_)
                    · exact hS0
                    clear hK K
                    try simp only [Act.put, List.setIfInBounds_toArray, List.set_cons_zero, List.set_cons_succ]
                    refine wpAnyH_ready (rs := [12]) (by kernel_rfl) (by simp) ?_
                    refine (AllReadyH.cons (o := { dst := some 91, op := Op.call { callee := Callee.value (Operand.func 44), args := #[Operand.tmp 83, Operand.tmp 90], argTypes := #[5, 5] }, type := 5, pos := "ref.go:67", after := #[{ on := 4, ground := Ground.data }, { on := 11, ground := Ground.data }], guard := none }) rfl (fun K hK => ?_) AllReadyH.nil)
                    go_simp
                    refine Calls.mono (rmul_F (x i) (bytesD L i b) _) ?_
                    rintro e wi ⟨rfl, rfl⟩
                    go_wp2_with fail
                    refine hK.out _ _ ?_ (fun hHeld => ?_)
                    · exact hS0
                    clear hK K
                    try simp only [Act.put, List.setIfInBounds_toArray, List.set_cons_zero, List.set_cons_succ]
                    refine wpAnyH_take (i := 13) (oi := { dst := some 92, op := Op.binOp BinOp.xor 5 (Operand.tmp 82) (Operand.tmp 91) 5, type := 5, pos := "ref.go:67", after := #[{ on := 3, ground := Ground.data }, { on := 12, ground := Ground.data }], guard := none }) (v := ?_) rfl (by kernel_rfl) (by kernel_rfl) (by kernel_rfl) (fun _ _ _ h => h) (Or.inl ⟨by rfl, ?_⟩) hHeld ?_
                    rotate_left
                    · intro u hSw
                      go_simp
                      try with_reducible rfl
                    try simp only [Act.put, List.setIfInBounds_toArray, List.set_cons_zero, List.set_cons_succ]
                    refine wpAnyH_take (i := 14) (oi := { dst := some 93, op := Op.indexAddr 22 (Operand.tmp 79) (Operand.tmp 80), type := 0, pos := "ref.go:67", after := #[{ on := 0, ground := Ground.data }, { on := 1, ground := Ground.data }, { on := 0, ground := Ground.phase }, { on := 1, ground := Ground.phase }, { on := 2, ground := Ground.phase }, { on := 3, ground := Ground.phase }, { on := 4, ground := Ground.phase }, { on := 5, ground := Ground.phase }, { on := 6, ground := Ground.phase }, { on := 7, ground := Ground.phase }, { on := 8, ground := Ground.phase }, { on := 9, ground := Ground.phase }, { on := 10, ground := Ground.phase }, { on := 11, ground := Ground.phase }, { on := 12, ground := Ground.phase }, { on := 13, ground := Ground.phase }], guard := none }) (v := ?_) rfl (by kernel_rfl) (by kernel_rfl) (by kernel_rfl) (fun _ _ _ h => h) (Or.inl ⟨by rfl, ?_⟩) hHeld ?_
                    rotate_left
                    · intro u hSw
                      go_simp
                      try with_reducible rfl
                    try simp only [Act.put, List.setIfInBounds_toArray, List.set_cons_zero, List.set_cons_succ]
                    refine wpAnyH_ready (rs := [15]) (by kernel_rfl) (by simp) ?_
                    refine (AllReadyH.cons (o := { dst := none, op := Op.store 5 (Operand.tmp 93) (Operand.tmp 92), type := 0, pos := "ref.go:67", after := #[{ on := 14, ground := Ground.data }, { on := 13, ground := Ground.data }, { on := 12, ground := Ground.chain }, { on := 0, ground := Ground.phase }, { on := 1, ground := Ground.phase }, { on := 2, ground := Ground.phase }, { on := 3, ground := Ground.phase }, { on := 4, ground := Ground.phase }, { on := 5, ground := Ground.phase }, { on := 6, ground := Ground.phase }, { on := 7, ground := Ground.phase }, { on := 8, ground := Ground.phase }, { on := 9, ground := Ground.phase }, { on := 10, ground := Ground.phase }, { on := 11, ground := Ground.phase }, { on := 12, ground := Ground.phase }, { on := 13, ground := Ground.phase }], guard := none }) rfl (fun K hK => ?_) AllReadyH.nil)
                    go_simp
                    refine hK.out _ _ ?_ (fun hHeld => ?_)
                    · exact grownBy_setCell hS0 _
                    clear hK K
                    try simp only [Act.put, List.setIfInBounds_toArray, List.set_cons_zero, List.set_cons_succ]
                    refine wpAnyH_done (by kernel_rfl) ?_ _
                    refine NoPanic.normal ?_
                    go_wp2
                    exact ⟨⟨b + 1, by omega, by go_num, grownBy_setCell hS0 _, HT.out⟩, by simp [intOf]; omega⟩
                  · go_simp
                    refine Calls.mono (rmul_F (x i) (bytesD L i b) _) ?_
                    rintro e wi ⟨rfl, rfl⟩
                    go_wp2_with fail
                    refine hK.out _ _ ?_ (fun hHeld => ?_)
                    · exact hS0
                    clear hK K
                    try simp only [Act.put, List.setIfInBounds_toArray, List.set_cons_zero, List.set_cons_succ]
                    refine wpAnyH_ready (rs := [3]) (by kernel_rfl) (by simp) ?_
                    refine (AllReadyH.cons (o := { dst := some 82, op := Op.load 5 (Operand.tmp 81), type := 5, pos := "ref.go:67", after := #[{ on := 2, ground := Ground.data }], guard := none }) rfl (fun K hK => ?_) AllReadyH.nil)
                    go_simp
                    refine hK.out _ _ ?_ (fun hHeld => ?_)
                    · exact hS0
                    clear hK K
                    try simp only [Act.put, List.setIfInBounds_toArray, List.set_cons_zero, List.set_cons_succ]
                    refine wpAnyH_take (i := 13) (oi := { dst := some 92, op := Op.binOp BinOp.xor 5 (Operand.tmp 82) (Operand.tmp 91) 5, type := 5, pos := "ref.go:67", after := #[{ on := 3, ground := Ground.data }, { on := 12, ground := Ground.data }], guard := none }) (v := ?_) rfl (by kernel_rfl) (by kernel_rfl) (by kernel_rfl) (fun _ _ _ h => h) (Or.inl ⟨by rfl, ?_⟩) hHeld ?_
                    rotate_left
                    · intro u hSw
                      go_simp
                      try with_reducible rfl
                    try simp only [Act.put, List.setIfInBounds_toArray, List.set_cons_zero, List.set_cons_succ]
                    refine wpAnyH_take (i := 14) (oi := { dst := some 93, op := Op.indexAddr 22 (Operand.tmp 79) (Operand.tmp 80), type := 0, pos := "ref.go:67", after := #[{ on := 0, ground := Ground.data }, { on := 1, ground := Ground.data }, { on := 0, ground := Ground.phase }, { on := 1, ground := Ground.phase }, { on := 2, ground := Ground.phase }, { on := 3, ground := Ground.phase }, { on := 4, ground := Ground.phase }, { on := 5, ground := Ground.phase }, { on := 6, ground := Ground.phase }, { on := 7, ground := Ground.phase }, { on := 8, ground := Ground.phase }, { on := 9, ground := Ground.phase }, { on := 10, ground := Ground.phase }, { on := 11, ground := Ground.phase }, { on := 12, ground := Ground.phase }, { on := 13, ground := Ground.phase }], guard := none }) (v := ?_) rfl (by kernel_rfl) (by kernel_rfl) (by kernel_rfl) (fun _ _ _ h => h) (Or.inl ⟨by rfl, ?_⟩) hHeld ?_
                    rotate_left
                    · intro u hSw
                      go_simp
                      try with_reducible rfl
                    try simp only [Act.put, List.setIfInBounds_toArray, List.set_cons_zero, List.set_cons_succ]
                    refine wpAnyH_ready (rs := [15]) (by kernel_rfl) (by simp) ?_
                    refine (AllReadyH.cons (o := { dst := none, op := Op.store 5 (Operand.tmp 93) (Operand.tmp 92), type := 0, pos := "ref.go:67", after := #[{ on := 14, ground := Ground.data }, { on := 13, ground := Ground.data }, { on := 12, ground := Ground.chain }, { on := 0, ground := Ground.phase }, { on := 1, ground := Ground.phase }, { on := 2, ground := Ground.phase }, { on := 3, ground := Ground.phase }, { on := 4, ground := Ground.phase }, { on := 5, ground := Ground.phase }, { on := 6, ground := Ground.phase }, { on := 7, ground := Ground.phase }, { on := 8, ground := Ground.phase }, { on := 9, ground := Ground.phase }, { on := 10, ground := Ground.phase }, { on := 11, ground := Ground.phase }, { on := 12, ground := Ground.phase }, { on := 13, ground := Ground.phase }], guard := none }) rfl (fun K hK => ?_) AllReadyH.nil)
                    go_simp
                    refine hK.out _ _ ?_ (fun hHeld => ?_)
                    · exact grownBy_setCell hS0 _
                    clear hK K
                    try simp only [Act.put, List.setIfInBounds_toArray, List.set_cons_zero, List.set_cons_succ]
                    refine wpAnyH_done (by kernel_rfl) ?_ _
                    refine NoPanic.normal ?_
                    go_wp2
                    exact ⟨⟨b + 1, by omega, by go_num, grownBy_setCell hS0 _, HT.out⟩, by simp [intOf]; omega⟩
                · obtain rfl : H = b := by omega
                  rw [varP_done] at hs
                  have HS3 : Hid (wr.heap[g0]? = some (.cells (vfs (varP H fS (i + 1) 0)) 5 (0, 0))) := hs
                  clear hgb hs HS HS2
                  go_wp2
                  exact ⟨⟨i + 1, by omega, by go_num, HG2.out, HS3.out⟩, by simp [intOf]; omega⟩
            · obtain rfl : lr = i := by omega
              have hfin : varP H fS lr 0 = rowF H (D v) := by
                rw [varP_full]
                refine rowF_congr fun q hq => ?_
                have e1 : sumF (fS q) lr = sumF (fun l => gm (x l) (bytesD L l q)) lr := sumF_congr fun l _ => HFS.out q l
                exact e1.trans (var_sol (v := v) (A := A) (x := x) (R := fun l => bytesD L l q) (D := fun u => D u q) hlt2 HSOL.out fun l hl => HD.out l hl q hq)
              have hs := HS.out
              rw [hfin] at hs
              have HSF : Hid (wr.heap[g0]? = some (.cells (vfs (rowF H (D v))) 5 (0, 0))) := hs
              have h6 : Below w5.heap.size w5 wr := grownBy_below' X3.out HG.out (by rw [HG0.out]; exact Nat.le_refl _)
              have HB6 : Hid (Below w2.heap.size w2 wr) := HB5.out.trans (h6.mono HB5.out.size)
              have hO6 := own_below HO5.out h6
              have HRO6 : Hid (∀ (j g : Nat), gs[j]? = some g → wr.heap[g]? = some (.cells (vfs (rowF H (D j))) 5 (0, 0))) := fun j g hj => heap_later (HRO5.out j g hj) h6
              have ho7 := World.ownsRow.alloc hO6 (.cells #[.slice (some ⟨g0, 0, none⟩) H H] 22)
              obtain ⟨gO, capG, w8, hrun, ho8, hgr, hor, hlt8⟩ := appendS (b := wr.heap.size) (c := 1) (x := .slice (some ⟨g0, 0, none⟩) H H) 25 ho7 (cellAt (heap_alloc_last wr (.cells #[.slice (some ⟨g0, 0, none⟩) H H] 22)) 0 _ rfl) rfl (by omega) (by have := HB6.out.size; simp; omega)
              rw [slsV_snoc] at ho8
              have hb8 := below_own (B := w2.heap.size) (HB6.out.alloc HB6.out.size (.cells #[.slice (some ⟨g0, 0, none⟩) H H] 22)) ho7 hgr (by have := HB6.out.size; simp; omega)
              have hkeep : ∀ (g : Nat) (ys : List F), wr.heap[g]? = some (.cells (vfs ys) 5 (0, 0)) → w8.heap[g]? = some (.cells (vfs ys) 5 (0, 0)) := fun g ys h =>
                own_other ho7 hgr ((Below.heap_alloc _ _ _ (ltHeap h)).trans h) (by decide)
              have HROW : Hid (∀ (j g : Nat), (gs ++ [g0])[j]? = some g → w8.heap[g]? = some (.cells (vfs (rowF H (D j))) 5 (0, 0))) := fun j g hj => by
                by_cases hjv : j < v
                · rw [List.getElem?_append_left (by rw [HGS.out]; exact hjv)] at hj
                  exact hkeep g _ (HRO6.out j g hj)
                · have hj2 : j = v := by
                    have := (List.getElem?_eq_some_iff.1 hj).1
                    rw [List.length_append, HGS.out, List.length_singleton] at this
                    omega
                  subst hj2
                  rw [List.getElem?_append_right (by rw [HGS.out]; exact Nat.le_refl _), HGS.out, Nat.sub_self] at hj
                  obtain rfl := Option.some.inj hj
                  exact hkeep _ _ HSF.out
              have HLEN : Hid ((gs ++ [g0]).length = v + 1) := by show _ = _; rw [List.length_append, HGS.out]; rfl
              have HRun : Hid _ := hrun
              have HO8 : Hid _ := ho8
              have HB8 : Hid _ := hb8
              clear ho7 hrun ho8 hb8 hgr hor hlt8 hkeep h6 hO6 hs hfin
              go_wp2_with (at_builtin; refine wpList_append_run rfl _ _ 25 rfl _ _ _ _ rfl rfl HRun.out ?_)
              exact ⟨⟨v + 1, gs ++ [g0], by omega, by go_num, HLEN.out, HB8.out, HO8.out, HROW.out⟩, by simp [intOf]; omega⟩
        · obtain rfl : c = v := by omega
          have hfin : ∃ b cap, u16 = .slice b c cap ∧ Rows8 wr b ((List.range c).map fun v => rowF H (D v)) := by
            rcases ho.2 with ⟨_, h0⟩ | ⟨g, cap, cur, e, hg⟩
            · omega
            · refine ⟨some ⟨g, 0, none⟩, cap, e, .inr ⟨g, 0, rfl, fun j ys hj => ?_⟩⟩
              have hjv : j < c := by have := (List.getElem?_eq_some_iff.1 hj).1; simpa using this
              rw [List.getElem?_map, List.getElem?_range hjv] at hj
              obtain rfl := Option.some.inj hj
              obtain ⟨g', hg'⟩ : ∃ g', gs[j]? = some g' := ⟨_, List.getElem?_eq_getElem (by rw [HGS.out]; exact hjv)⟩
              have hrow := HRO.out j g' hg'
              have hoe := ho
              rw [e] at hoe
              refine ⟨some ⟨g', 0, none⟩, H, ?_, row8_own hrow⟩
              rw [Nat.zero_add, hoe.cellAt j (by rw [Nat.mul_one]; exact hjv), rowF_len]
              simp [slsV, hg']
          obtain ⟨b9, cap9, rfl, hr9⟩ := hfin
          have HR9 : Hid (Rows8 wr b9 ((List.range c).map fun v => rowF H (D v))) := hr9
          clear hr9 ho
          go_wp2
          go_ret2
          exact ⟨b9, c, cap9, rfl, rfl, HR9.out, HB2.out.trans (HBR.out.mono HB2.out.size)⟩
end Go.Proofs.YtmlpijlcpeoeaaaDoor
