/- What the document's own Parity and Generator answer, of all legal numbers; nothing that was there turns. -/
import Derived.Test.YtmlpijlcpeoeaaaDoorBaseG
import Derived.Test.YtmlpijlcpeoeaaaDoorRef2
import Derived.Test.YtmlpijlcpeoeaaaDoorRefOf
import Derived.Deep.RegionHeld3
namespace Go.Proofs.YtmlpijlcpeoeaaaDoor
open Go.RowKit Gf
set_option linter.unusedVariables false
set_option maxRecDepth 20000
theorem rcy_inv (w : World) {s j : Nat} {x : F} (hx : x = ga (elN s) (elN j)) (hs : s < 256) (hj : j < 256) (hne : s ≠ j) :
    Calls Tryd.prog 68 #[.int .u8 (x.toNat : Int)] w fun e w' => e = .returned (.tuple #[.int .u8 ((cyN s j).toNat : Int), .bool true]) ∧ w = w' := by
  subst hx
  exact rinv_yes (ga_ne fun e => hne (elN_inj hs hj e)) w
theorem xor_el64 {s j : Nat} (hs : s < 256) (hj : j < 256) : bits .xor .i64 (s : Int) (j : Int) = ((ga (elN s) (elN j)).toNat : Int) := by
  rw [i64_xor_nat s j (by omega) (by omega), F.val_add, elN, elN, toNat_of hs, toNat_of hj]
set_option maxHeartbeats 4000000 in
theorem rparity_F (k r : Nat) (w : World) (h1 : 1 ≤ k) (h2 : 2 ≤ r) (h3 : k + r ≤ 16) :
    Calls Tryd.prog 43 #[.int .i64 k, .int .i64 r] w fun e w' => ∃ g m, e = .returned (.agg #[.int .i64 r, .int .i64 k, .slice (some ⟨g, 0, none⟩) m m]) ∧ m = r * k ∧ w.heap.size ≤ g ∧
      w'.heap[g]? = some (.cells (vfs (parM k r)) 5 (0, 0)) ∧ Below w.heap.size w w' := by
  go_enter Tryd.func43, Tryd.ntmps43
  go_wp2_with fail
  refine Calls.mono (rzero_F r k _ (by omega) (by omega)) ?_
  rintro e w2 ⟨g, m, rfl, hm, hg, hh, hb2⟩
  have hA := holds_later (holds_new (holds_nil w) #[.int .i64 0, .int .i64 0, .slice none 0 0] 65) hb2
  have z0 := ltHeap (holds_at hA 0 rfl)
  have zg : g < w2.heap.size := ltHeap hh
  simp only [World.size_alloc] at hg
  have HM : Hid _ := hm
  have HB' : Hid (Below w.heap.size w w2) := ((Below.refl w.heap.size w).alloc (Nat.le_refl _) _).trans (hb2.mono (by simp))
  have hA := holds_new (holds_cons hA hh) #[.int .i64 r, .int .i64 k, .slice (some ⟨g, 0, none⟩) m m] 65
  have HA : Hid _ := hA
  have B4 : Hid (Below w.heap.size w (w2.alloc (.cells #[.int .i64 r, .int .i64 k, .slice (some ⟨g, 0, none⟩) m m] 65))) := HB'.out.alloc (by omega) _
  clear hm hh hb2 hA HB'
  go_wp2
  generalize hM : w2.heap.size = M at *
  generalize (w2.alloc (.cells #[.int .i64 r, .int .i64 k, .slice (some ⟨g, 0, none⟩) m m] 65)) = W3 at *
  clear hM
  go_loopw [6] (fun i wr => ∃ a : Nat, a ≤ r ∧ i = .int .i64 a ∧ W3.grownBy wr (some g) ∧ wr.heap[g]? = some (.cells (vfs (gridP k (fun i j => cyN (k + i) j) r a 0)) 5 (0, 0))) (fun i _ => r - (intOf i).toNat)
  case atStart => exact ⟨0, by omega, rfl, World.grownBy.refl _ _, by rw [← gridP_zero]; exact holds_at HA.out 1 rfl⟩
  case round =>
    obtain ⟨a, ha, rfl, hgb, hs⟩ := hrel
    have HGB : Hid _ := hgb
    have HS : Hid _ := hs
    by_cases hlt : a < r
    · clear hgb hs
      go_wp2
      go_loopw [7] (fun i wq => ∃ j : Nat, j ≤ k ∧ i = .int .i64 j ∧ W3.grownBy wq (some g) ∧ wq.heap[g]? = some (.cells (vfs (gridP k (fun i j => cyN (k + i) j) r a j)) 5 (0, 0))) (fun i _ => k - (intOf i).toNat)
      case atStart => exact ⟨0, by omega, rfl, HGB.out, HS.out⟩
      case round =>
        obtain ⟨j, hj, rfl, hgb, hs⟩ := hrel
        by_cases hltj : j < k
        · have c1 : ∀ u, W3.grownBy u (some g) → u.cell? ⟨M, 2, none⟩ = some (.slice (some ⟨g, 0, none⟩) m m) := fun u h => cellAt (grown_block h (holds_at HA.out 0 rfl) (by omega)) 2 _ rfl
          obtain ⟨p, hp⟩ : ∃ p, p = a * k := ⟨_, rfl⟩
          have h1' := place_lt (c := k) hlt hltj
          have m1 : (a : Int) * (k : Int) = (p : Int) := by rw [hp]; simp
          have e1 : p + j < m := by rw [hp, HM.out]; exact h1'
          have n1 : m ≤ 4096 := by have := mul_small (r := r) (c := k) (by omega) (by omega); have := HM.out; have e : (r : Int) * (k : Int) = ((r * k : Nat) : Int) := by simp
                                   omega
          obtain ⟨x, hx⟩ : ∃ x, x = ga (elN (k + a)) (elN j) := ⟨_, rfl⟩
          have ex : bits .xor .i64 ((k : Int) + a) (j : Int) = (x.toNat : Int) := by
            have := xor_el64 (s := k + a) (j := j) (by omega) (by omega)
            rw [hx, ← this]; simp
          have hxb : (x.toNat : Int) < 256 := by have := bl x; omega
          have HX : Hid _ := hx
          have hs' : (wr.drew).heap[g]? = some (.cells (vfs (gridP k (fun i j => cyN (k + i) j) r a j)) 5 (0, 0)) := hs
          have c6 := cellAt hs' _ _ (vfs_get _ _ (show p + j < (gridP k (fun i j => cyN (k + i) j) r a j).length by rw [gridP_len, ← HM.out]; exact e1))
          have c7 : (wr.drew).frozen? ⟨g, p + j, none⟩ = false := frozen_of_row _ _ _ _ _ hs'
          have HS2 : Hid _ := hs'
          have HT : Hid _ := gridP_step (f := fun i j => cyN (k + i) j) hlt hltj
          have HP : Hid _ := hp
          have HGB2 : Hid _ := hgb
          have w1 : IntKind.i64.wrap (p : Int) = p := IntWalk.i64_in _ (by omega)
          have w2 : IntKind.i64.wrap ((p : Int) + j) = (p : Int) + j := IntWalk.i64_in _ (by omega)
          have w3 : IntKind.i64.wrap ((k : Int) + a) = (k : Int) + a := IntWalk.i64_in _ (by omega)
          have w4 : IntKind.u8.wrap (x.toNat : Int) = x.toNat := by have := bl x; exact IntWalk.u8_in _ (by omega)
          have w5 : 0 ≤ (p : Int) + j ∧ (p : Int) + j < m := by omega
          have w6 : ((p : Int) + j).toNat = p + j := by omega
          clear hs hs' hx hp h1' hgb
          go_wp2
          -- REGION
          refine wp_region_noPanic ?_
          refine wp_region_held_drew (S := fun u => W3.grownBy u (some g)) (by kernel_rfl) ?_ (fun hHeld => ?_)
          · exact grownBy_drew HGB2.out
          refine wpAnyH_take (i := 0) (oi := { dst := some 22, op := Op.fieldAddr 65 (Operand.tmp 5) 2, type := 0, pos := "ref.go:27", after := #[], guard := none }) (v := ?_) rfl (by kernel_rfl) (by kernel_rfl) (by kernel_rfl) (fun _ _ _ h => h) (Or.inl ⟨by rfl, ?_⟩) hHeld ?_
          rotate_left
          · intro u hSw
            go_simp
            try with_reducible rfl
          try simp only [Act.put, List.setIfInBounds_toArray, List.set_cons_zero, List.set_cons_succ]
          refine wpAnyH_take (i := 1) (oi := { dst := some 23, op := Op.load 22 (Operand.tmp 22), type := 22, pos := "ref.go:27", after := #[{ on := 0, ground := Ground.data }], guard := none }) (v := ?_) rfl (by kernel_rfl) (by kernel_rfl) (by kernel_rfl) (fun _ _ _ h => h) (Or.inl ⟨by rfl, ?_⟩) hHeld ?_
          rotate_left
          · intro u hSw
            have c9 := c1 u hSw
            go_simp
            try with_reducible rfl
          try simp only [Act.put, List.setIfInBounds_toArray, List.set_cons_zero, List.set_cons_succ]
          refine wpAnyH_take (i := 2) (oi := { dst := some 24, op := Op.move (Operand.tmp 6), type := 3, pos := "ref.go:27", after := #[], guard := none }) (v := ?_) rfl (by kernel_rfl) (by kernel_rfl) (by kernel_rfl) (fun _ _ _ h => h) (Or.inl ⟨by rfl, ?_⟩) hHeld ?_
          rotate_left
          · intro u hSw
            go_simp
            try with_reducible rfl
          try simp only [Act.put, List.setIfInBounds_toArray, List.set_cons_zero, List.set_cons_succ]
          refine wpAnyH_take (i := 3) (oi := { dst := some 25, op := Op.move (Operand.tmp 0), type := 3, pos := "ref.go:27", after := #[], guard := none }) (v := ?_) rfl (by kernel_rfl) (by kernel_rfl) (by kernel_rfl) (fun _ _ _ h => h) (Or.inl ⟨by rfl, ?_⟩) hHeld ?_
          rotate_left
          · intro u hSw
            go_simp
            try with_reducible rfl
          try simp only [Act.put, List.setIfInBounds_toArray, List.set_cons_zero, List.set_cons_succ]
          refine wpAnyH_take (i := 4) (oi := { dst := some 26, op := Op.binOp BinOp.mul 3 (Operand.tmp 24) (Operand.tmp 25) 3, type := 3, pos := "ref.go:27", after := #[{ on := 2, ground := Ground.data }, { on := 3, ground := Ground.data }], guard := none }) (v := ?_) rfl (by kernel_rfl) (by kernel_rfl) (by kernel_rfl) (fun _ _ _ h => h) (Or.inl ⟨by rfl, ?_⟩) hHeld ?_
          rotate_left
          · intro u hSw
            go_simp
            try with_reducible rfl
          try simp only [Act.put, List.setIfInBounds_toArray, List.set_cons_zero, List.set_cons_succ]
          refine wpAnyH_take (i := 5) (oi := { dst := some 27, op := Op.move (Operand.tmp 7), type := 3, pos := "ref.go:27", after := #[], guard := none }) (v := ?_) rfl (by kernel_rfl) (by kernel_rfl) (by kernel_rfl) (fun _ _ _ h => h) (Or.inl ⟨by rfl, ?_⟩) hHeld ?_
          rotate_left
          · intro u hSw
            go_simp
            try with_reducible rfl
          try simp only [Act.put, List.setIfInBounds_toArray, List.set_cons_zero, List.set_cons_succ]
          refine wpAnyH_take (i := 6) (oi := { dst := some 28, op := Op.binOp BinOp.add 3 (Operand.tmp 26) (Operand.tmp 27) 3, type := 3, pos := "ref.go:27", after := #[{ on := 4, ground := Ground.data }, { on := 5, ground := Ground.data }], guard := none }) (v := ?_) rfl (by kernel_rfl) (by kernel_rfl) (by kernel_rfl) (fun _ _ _ h => h) (Or.inl ⟨by rfl, ?_⟩) hHeld ?_
          rotate_left
          · intro u hSw
            go_simp
            try with_reducible rfl
          try simp only [Act.put, List.setIfInBounds_toArray, List.set_cons_zero, List.set_cons_succ]
          refine wpAnyH_take (i := 7) (oi := { dst := some 29, op := Op.move (Operand.tmp 0), type := 3, pos := "ref.go:27", after := #[], guard := none }) (v := ?_) rfl (by kernel_rfl) (by kernel_rfl) (by kernel_rfl) (fun _ _ _ h => h) (Or.inl ⟨by rfl, ?_⟩) hHeld ?_
          rotate_left
          · intro u hSw
            go_simp
            try with_reducible rfl
          try simp only [Act.put, List.setIfInBounds_toArray, List.set_cons_zero, List.set_cons_succ]
          refine wpAnyH_take (i := 8) (oi := { dst := some 30, op := Op.move (Operand.tmp 6), type := 3, pos := "ref.go:27", after := #[], guard := none }) (v := ?_) rfl (by kernel_rfl) (by kernel_rfl) (by kernel_rfl) (fun _ _ _ h => h) (Or.inl ⟨by rfl, ?_⟩) hHeld ?_
          rotate_left
          · intro u hSw
            go_simp
            try with_reducible rfl
          try simp only [Act.put, List.setIfInBounds_toArray, List.set_cons_zero, List.set_cons_succ]
          refine wpAnyH_take (i := 9) (oi := { dst := some 31, op := Op.binOp BinOp.add 3 (Operand.tmp 29) (Operand.tmp 30) 3, type := 3, pos := "ref.go:27", after := #[{ on := 7, ground := Ground.data }, { on := 8, ground := Ground.data }], guard := none }) (v := ?_) rfl (by kernel_rfl) (by kernel_rfl) (by kernel_rfl) (fun _ _ _ h => h) (Or.inl ⟨by rfl, ?_⟩) hHeld ?_
          rotate_left
          · intro u hSw
            go_simp
            try with_reducible rfl
          try simp only [Act.put, List.setIfInBounds_toArray, List.set_cons_zero, List.set_cons_succ]
          refine wpAnyH_take (i := 10) (oi := { dst := some 32, op := Op.move (Operand.tmp 7), type := 3, pos := "ref.go:27", after := #[], guard := none }) (v := ?_) rfl (by kernel_rfl) (by kernel_rfl) (by kernel_rfl) (fun _ _ _ h => h) (Or.inl ⟨by rfl, ?_⟩) hHeld ?_
          rotate_left
          · intro u hSw
            go_simp
            try with_reducible rfl
          try simp only [Act.put, List.setIfInBounds_toArray, List.set_cons_zero, List.set_cons_succ]
          refine wpAnyH_take (i := 11) (oi := { dst := some 33, op := Op.binOp BinOp.xor 3 (Operand.tmp 31) (Operand.tmp 32) 3, type := 3, pos := "ref.go:27", after := #[{ on := 9, ground := Ground.data }, { on := 10, ground := Ground.data }], guard := none }) (v := ?_) rfl (by kernel_rfl) (by kernel_rfl) (by kernel_rfl) (fun _ _ _ h => h) (Or.inl ⟨by rfl, ?_⟩) hHeld ?_
          rotate_left
          · intro u hSw
            go_simp
            try with_reducible rfl
          try simp only [Act.put, List.setIfInBounds_toArray, List.set_cons_zero, List.set_cons_succ]
          refine wpAnyH_take (i := 12) (oi := { dst := some 34, op := Op.convert 3 5 (Operand.tmp 33), type := 5, pos := "ref.go:27", after := #[{ on := 11, ground := Ground.data }], guard := none }) (v := ?_) rfl (by kernel_rfl) (by kernel_rfl) (by kernel_rfl) (fun _ _ _ h => h) (Or.inl ⟨by rfl, ?_⟩) hHeld ?_
          rotate_left
          · intro u hSw
            go_simp
            try with_reducible rfl
          try simp only [Act.put, List.setIfInBounds_toArray, List.set_cons_zero, List.set_cons_succ]
          refine wpAnyH_ready (rs := [13]) (by kernel_rfl) (by simp) ?_
          refine AllReadyH.cons (o := { dst := some 35, op := Op.call { callee := Callee.value (Operand.func 68), args := #[Operand.tmp 34], argTypes := #[5] }, type := 108, pos := "ref.go:27", after := #[{ on := 12, ground := Ground.data }], guard := none }) rfl (fun K hK => ?_) AllReadyH.nil
          go_simp
          refine Calls.mono (rcy_inv _ HX.out (by omega) (by omega) (by omega)) ?_
          rintro e w' ⟨rfl, rfl⟩
          go_wp2_with fail
          refine hK.out _ _ ?_ (fun hHeld => ?_)
          · exact grownBy_drew HGB2.out
          clear hK K
          try simp only [Act.put, List.setIfInBounds_toArray, List.set_cons_zero, List.set_cons_succ]
          refine wpAnyH_take (i := 14) (oi := { dst := some 21, op := Op.move (Operand.tmp 35), type := 108, pos := "ref.go:27", after := #[{ on := 13, ground := Ground.data }], guard := none }) (v := ?_) rfl (by kernel_rfl) (by kernel_rfl) (by kernel_rfl) (fun _ _ _ h => h) (Or.inl ⟨by rfl, ?_⟩) hHeld ?_
          rotate_left
          · intro u hSw
            go_simp
            try with_reducible rfl
          try simp only [Act.put, List.setIfInBounds_toArray, List.set_cons_zero, List.set_cons_succ]
          refine wpAnyH_take (i := 15) (oi := { dst := some 36, op := Op.extract (Operand.tmp 21) 0, type := 5, pos := "ref.go:27", after := #[{ on := 14, ground := Ground.data }], guard := none }) (v := ?_) rfl (by kernel_rfl) (by kernel_rfl) (by kernel_rfl) (fun _ _ _ h => h) (Or.inl ⟨by rfl, ?_⟩) hHeld ?_
          rotate_left
          · intro u hSw
            go_simp
            try with_reducible rfl
          try simp only [Act.put, List.setIfInBounds_toArray, List.set_cons_zero, List.set_cons_succ]
          refine wpAnyH_take (i := 16) (oi := { dst := some 37, op := Op.extract (Operand.tmp 21) 1, type := 4, pos := "ref.go:27", after := #[{ on := 14, ground := Ground.data }, { on := 18, ground := Ground.gcOnly Departure.lateStores }], guard := none }) (v := ?_) rfl (by kernel_rfl) (by kernel_rfl) (by kernel_rfl) (fun _ _ _ h => h) (Or.inl ⟨by rfl, ?_⟩) hHeld ?_
          rotate_left
          · intro u hSw
            go_simp
            try with_reducible rfl
          try simp only [Act.put, List.setIfInBounds_toArray, List.set_cons_zero, List.set_cons_succ]
          refine wpAnyH_take (i := 17) (oi := { dst := some 38, op := Op.indexAddr 22 (Operand.tmp 23) (Operand.tmp 28), type := 0, pos := "ref.go:27", after := #[{ on := 1, ground := Ground.data }, { on := 6, ground := Ground.data }, { on := 0, ground := Ground.phase }, { on := 1, ground := Ground.phase }, { on := 2, ground := Ground.phase }, { on := 3, ground := Ground.phase }, { on := 4, ground := Ground.phase }, { on := 5, ground := Ground.phase }, { on := 6, ground := Ground.phase }, { on := 7, ground := Ground.phase }, { on := 8, ground := Ground.phase }, { on := 9, ground := Ground.phase }, { on := 10, ground := Ground.phase }, { on := 11, ground := Ground.phase }, { on := 12, ground := Ground.phase }, { on := 13, ground := Ground.phase }, { on := 14, ground := Ground.phase }, { on := 15, ground := Ground.phase }, { on := 16, ground := Ground.textOnly Departure.lateStores }], guard := none }) (v := ?_) rfl (by kernel_rfl) (by kernel_rfl) (by kernel_rfl) (fun _ _ _ h => h) (Or.inl ⟨by rfl, ?_⟩) hHeld ?_
          rotate_left
          · intro u hSw
            go_simp
            try with_reducible rfl
          try simp only [Act.put, List.setIfInBounds_toArray, List.set_cons_zero, List.set_cons_succ]
          refine wpAnyH_ready (rs := [18]) (by kernel_rfl) (by simp) ?_
          refine AllReadyH.cons (o := { dst := none, op := Op.store 5 (Operand.tmp 38) (Operand.tmp 36), type := 0, pos := "ref.go:27", after := #[{ on := 17, ground := Ground.data }, { on := 15, ground := Ground.data }, { on := 13, ground := Ground.chain }, { on := 0, ground := Ground.phase }, { on := 1, ground := Ground.phase }, { on := 2, ground := Ground.phase }, { on := 3, ground := Ground.phase }, { on := 4, ground := Ground.phase }, { on := 5, ground := Ground.phase }, { on := 6, ground := Ground.phase }, { on := 7, ground := Ground.phase }, { on := 8, ground := Ground.phase }, { on := 9, ground := Ground.phase }, { on := 10, ground := Ground.phase }, { on := 11, ground := Ground.phase }, { on := 12, ground := Ground.phase }, { on := 13, ground := Ground.phase }, { on := 14, ground := Ground.phase }, { on := 15, ground := Ground.phase }, { on := 16, ground := Ground.textOnly Departure.lateStores }], guard := none }) rfl (fun K hK => ?_) AllReadyH.nil
          go_simp
          refine hK.out _ _ ?_ (fun hHeld => ?_)
          · exact grownBy_setCell (grownBy_drew HGB2.out) _
          clear hK K
          try simp only [Act.put, List.setIfInBounds_toArray, List.set_cons_zero, List.set_cons_succ]
          refine wpAnyH_done (by kernel_rfl) ?_ _
          refine NoPanic.normal ?_
          -- END REGION
          go_wp2
          refine ⟨⟨j + 1, by omega, by go_num, grownBy_setCell (grownBy_drew HGB2.out) _, ?_⟩, by simp [intOf]; omega⟩
          show (wr.setCell ⟨g, p + j, none⟩ (.int .u8 ((cyN (k + a) j).toNat : Int))).heap[g]? = _
          rw [heap_setCell_same wr _ _ _ _ _ HS2.out, vfs_set, ← HT.out, HP.out]
        · obtain rfl : j = k := by omega
          rw [gridP_row] at hs
          have HGB2 : Hid _ := hgb
          have HS4 : Hid _ := hs
          clear hgb hs
          go_wp2
          exact ⟨⟨a + 1, by omega, by go_num, HGB2.out, HS4.out⟩, by simp [intOf]; omega⟩
    · obtain rfl : a = r := by omega
      rw [gridP_done] at hs
      have HGB2 : Hid _ := hgb
      have HS2 : Hid _ := hs
      have k0 := grown_block hgb (holds_at HA.out 0 rfl) (by omega)
      have k1 := grown_block hgb (holds_at HA.out 2 rfl) (by omega)
      have c2 := cellAt k0 0 _ rfl
      have c3 := cellAt k0 1 _ rfl
      have c7 := cellAt k0 2 _ rfl
      have c4 := cellAt k1 0 _ rfl
      have c5 := cellAt k1 1 _ rfl
      have c6 := cellAt k1 2 _ rfl
      have d4 : wr.frozen? ⟨w.heap.size, 0, none⟩ = false := frozen_of_row _ _ _ _ _ k1
      have d5 : wr.frozen? ⟨w.heap.size, 1, none⟩ = false := frozen_of_row _ _ _ _ _ k1
      have d6 : wr.frozen? ⟨w.heap.size, 2, none⟩ = false := frozen_of_row _ _ _ _ _ k1
      clear k0 k1 hgb hs
      go_wp2
      refine bodyPost_ret (v := .agg #[.int .i64 a, .int .i64 k, .slice (some ⟨g, 0, none⟩) m m]) (by simp [results, Tryd.results43, go_sem, c4, c5, c6]) rfl ⟨g, m, rfl, HM.out, by omega, ?_, ?_⟩
      · rw [heap_setCell_other _ _ _ _ (by show g ≠ w.heap.size; omega), heap_setCell_other _ _ _ _ (by show g ≠ w.heap.size; omega), heap_setCell_other _ _ _ _ (by show g ≠ w.heap.size; omega)]
        exact HS2.out
      · exact (((below_grown B4.out HGB2.out (by omega)).setCell (Nat.le_refl _) _).setCell (Nat.le_refl _) _).setCell (Nat.le_refl _) _
end Go.Proofs.YtmlpijlcpeoeaaaDoor
