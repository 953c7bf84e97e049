/- What the document's own Image answers, of all legal numbers, halves and lists of halves in form; nothing that was there turns. -/
import Derived.Test.YtmlpijlcpeoeaaaDoorCodeL
import Derived.Test.YtmlpijlcpeoeaaaDoorBaseR
import Derived.Test.YtmlpijlcpeoeaaaDoorHalfW
import Derived.Test.YtmlpijlcpeoeaaaDoorShardsJ
import Derived.Test.YtmlpijlcpeoeaaaDoorRegHeld
import Derived.Deep.DeepCutAuto
namespace Go.Proofs.YtmlpijlcpeoeaaaDoor
open Go.RowKit Gf
set_option linter.unusedVariables false
set_option maxRecDepth 20000
/-- the bytes of lists of bytes -/
def bytesD (L : List (List F)) : Nat → Nat → F := fun v b => at8 (L.getD v []) b
/-- a half made as far as byte b, whose sum stands at s -/
def imP (H : Nat) (f : Nat → F) (b : Nat) (s : F) : List F := rowF H (fun i => if i < b then f i else if i = b then s else 0)
theorem imP_len (H : Nat) (f : Nat → F) (b : Nat) (s : F) : (imP H f b s).length = H := rowF_len _ _
theorem imP_zero (H : Nat) (f : Nat → F) : zeros H = imP H f 0 0 := rowF_eq (zeros_len H) fun j hj => by rw [at8_zeros, if_neg (by omega)]; split <;> rfl
theorem imP_done (H : Nat) (f : Nat → F) (s : F) : imP H f H s = rowF H f := rowF_congr fun j hj => by rw [if_pos hj]
theorem imP_at {H b : Nat} {f : Nat → F} {s : F} (hb : b < H) : at8 (imP H f b s) b = s := by rw [imP, at8_rowF hb, if_neg (by omega), if_pos rfl]
theorem imP_set {H b : Nat} {f : Nat → F} {s t : F} (hb : b < H) : (imP H f b s).set b t = imP H f b t := by
  refine rowF_eq (by rw [List.length_set, imP_len]) fun j hj => ?_
  by_cases h : j = b
  · subst h
    rw [if_neg (by omega), if_pos rfl]
    simp [at8, imP_len, hj]
  · have e : at8 ((imP H f b s).set b t) j = at8 (imP H f b s) j := by simp [at8, Ne.symm h]
    rw [e, imP, at8_rowF hj, if_neg h, if_neg h]
theorem imP_next {H b : Nat} {f : Nat → F} : imP H f b (f b) = imP H f (b + 1) 0 := rowF_congr fun j hj => by
  by_cases h1 : j < b
  · rw [if_pos h1, if_pos (by omega)]
  · rw [if_neg h1]
    by_cases h2 : j = b
    · subst h2; rw [if_pos rfl, if_pos (by omega)]
    · rw [if_neg h2, if_neg (by omega)]; split <;> rfl
set_option maxHeartbeats 2000000 in
theorem rimage_data (k r h H l cap : Nat) (a : Option Addr) (L : List (List F)) (w : World) (hk : k ≤ 14) (hh : h < 2 * k) (hH : H ≤ 64) (hl : 2 * k ≤ L.length) (hll : l = L.length) (hL : ∀ xs ∈ L, xs.length = H) (hR : Rows8 w a L) :
    Calls Tryd.prog 23 #[.int .i64 k, .int .i64 r, .int .i64 h, .slice a l cap, .int .i64 H] w fun e w' => ∃ g, e = .returned (.slice (some ⟨g, 0, none⟩) H H) ∧ w.heap.size ≤ g ∧
      w'.heap[g]? = some (.cells (vfs (rowF H (bytesD L h))) 5 (0, 0)) ∧ Below w.heap.size w w' := by
  obtain ⟨b, off, rfl, hb, hcl⟩ := rows8_at hR (show h < L.length by omega)
  obtain ⟨xs, hxs⟩ : ∃ xs, L[h]? = some xs := ⟨_, List.getElem?_eq_getElem (by omega)⟩
  obtain ⟨a', cap', c1, c2⟩ := hcl h xs hxs
  have hxl : xs.length = H := hL xs (List.mem_of_getElem? hxs)
  have hlt : h < l := by omega
  have hmk := run_make8 H (by omega) w
  have hs : (h : Int) / 2 = ((h / 2 : Nat) : Int) := by omega
  have hs2 : ((h / 2 : Nat) : Int) < k := by omega
  have hcp := run_copy8 w.heap.size H H a' H cap' (zeros H) xs (w.alloc (.cells (vfs (zeros H)) 5)) 3 (zeros_len H).symm hxl.symm (by rw [zeros_len, hxl]; exact Nat.le_refl _) (heap_alloc_last w _) (row8_alloc c2 _)
  rw [World.setRow_alloc_new, zeros_drop, hxl, Nat.sub_self] at hcp
  have hfin : xs ++ zeros 0 = rowF H (bytesD L h) := by
    rw [show zeros 0 = [] from rfl, List.append_nil]
    refine rowF_eq hxl fun j hj => ?_
    simp [bytesD, List.getD_eq_getElem?_getD, hxs]
  rw [hfin] at hcp
  rw [hxl] at c1
  have c1' := cell?_alloc_old (.cells (vfs (zeros H)) 5) c1
  generalize h / 2 = s at hs hs2
  clear hl hll hL hR hcl hxs hxl hh c1 c2 hfin
  go_enter Tryd.func23, Tryd.ntmps23
  go_wp2
  go_ret
  exact ⟨w.heap.size, rfl, Nat.le_refl _, heap_alloc_last _ _, (Below.refl _ _).alloc (Nat.le_refl _) _⟩
set_option maxHeartbeats 8000000 in
theorem rimage_par (k r i p H l cap : Nat) (a : Option Addr) (L : List (List F)) (w : World) (h1 : 1 ≤ k) (h2 : 2 ≤ r) (h3 : k + r ≤ 16) (hi : i < r) (hp : p < 2) (hH : H ≤ 64) (hl : 2 * k ≤ L.length) (hll : l = L.length) (hl9 : l ≤ 140737488355328) (hL : ∀ xs ∈ L, xs.length = H) (hR : Rows8 w a L) :
    Calls Tryd.prog 23 #[.int .i64 k, .int .i64 r, .int .i64 (2 * (k + i) + p : Nat), .slice a l cap, .int .i64 H] w fun e w' => ∃ g, e = .returned (.slice (some ⟨g, 0, none⟩) H H) ∧ w.heap.size ≤ g ∧
      w'.heap[g]? = some (.cells (vfs (imgL k (carN (groupN k r)) H (bytesD L) (2 * (k + i) + p))) 5 (0, 0)) ∧ Below w.heap.size w w' := by
  obtain ⟨car, hcar⟩ : ∃ car, car = carN (groupN k r) := ⟨_, rfl⟩
  have HP7 : Hid _ := fun w => rparity_F k r w h1 h2 h3
  have HC7 : Hid _ := fun w j (hj : j ≤ 1000) => rcarrier_F k r j w h1 h2 h3 hj
  rw [← hcar] at HC7 ⊢
  have himg : imgL k car H (bytesD L) (2 * (k + i) + p) = rowF H (fun b => sumF (parS k i p car (bytesD L) b) k) := rowF_congr fun b _ => img_par hp
  rw [himg]
  obtain ⟨f, hf⟩ : ∃ f : Nat → F, f = fun b => sumF (parS k i p car (bytesD L) b) k := ⟨_, rfl⟩
  have HF : Hid _ := hf
  rw [← hf]
  clear hf
  obtain ⟨h, hh⟩ : ∃ h, h = 2 * (k + i) + p := ⟨_, rfl⟩
  rw [← hh]
  have hd : (h : Int) / 2 = ((k + i : Nat) : Int) := by omega
  have hm2 : (h : Int).tmod 2 = (p : Int) := by rw [show (2 : Int) = ((2 : Nat) : Int) from rfl, ← Int.ofNat_tmod]; omega
  have hme : (h : Int) % 2 = (p : Int) := by omega
  obtain ⟨s, hs⟩ : ∃ s, s = k + i := ⟨_, rfl⟩
  rw [← hs] at hd
  have hsk : ¬ (s : Int) < k := by omega
  have hs32 : s ≤ 32 := by omega
  have hp0 : (0 : Int) ≤ p := by omega
  have hmk := run_make8 H (by omega) w
  have HR : Hid _ := hR
  have HL : Hid _ := hL
  have HLL : Hid _ := hll
  have HSS : Hid _ := hs
  have hl32 : 2 * k ≤ l := by omega
  clear hcar himg hh hs hR hL hll hl
  go_enter Tryd.func23, Tryd.ntmps23
  go_wp2_with fail
  refine Calls.mono (HP7.out _) ?_
  rintro e w2 ⟨gP, m, rfl, hm, hg, hhm, hb2⟩
  have hA := holds_later (holds_new (holds_nil w) (vfs (zeros H)) 5) hb2
  have z0 := ltHeap (holds_at hA 0 rfl)
  have zg : gP < w2.heap.size := ltHeap hhm
  simp only [World.size_alloc] at hg
  have HM : Hid _ := hm
  have HB' : Hid (Below w.heap.size w w2) := ((Below.refl w.heap.size w).alloc (Nat.le_refl _) _).trans (hb2.mono (by simp))
  have hA := holds_new (holds_cons hA hhm) #[.int .i64 r, .int .i64 k, .slice (some ⟨gP, 0, none⟩) m m] 65
  have HA : Hid _ := hA
  have B4 : Hid (Below w.heap.size w (w2.alloc (.cells #[.int .i64 r, .int .i64 k, .slice (some ⟨gP, 0, none⟩) m m] 65))) := HB'.out.alloc (by omega) _
  have hgm : gP ≠ w.heap.size := by omega
  clear hm hhm hb2 hA HB' hmk
  go_wp2
  generalize hM : w2.heap.size = M at *
  generalize (w2.alloc (.cells #[.int .i64 r, .int .i64 k, .slice (some ⟨gP, 0, none⟩) m m] 65)) = W3 at *
  have hMw : M ≠ w.heap.size := by omega
  clear hM hd hm2 hme
  have B1 : Hid (W3.heap[w.heap.size]? = some (.cells (vfs (zeros H)) 5 (0, 0))) := holds_at HA.out 2 rfl
  have B2 : Hid (W3.heap[gP]? = some (.cells (vfs (parM k r)) 5 (0, 0))) := holds_at HA.out 1 rfl
  have B3 : Hid (W3.heap[M]? = some (.cells #[.int .i64 r, .int .i64 k, .slice (some ⟨gP, 0, none⟩) m m] 65 (0, 0))) := holds_at HA.out 0 rfl
  clear HA
  generalize hg0 : w.heap.size = g0 at *
  have HG0 : Hid _ := hg0
  clear hg0
  go_loopw [15] (fun t wr => ∃ b : Nat, b ≤ H ∧ t = .int .i64 b ∧ W3.grownBy wr (some g0) ∧ wr.heap[g0]? = some (.cells (vfs (imP H f b 0)) 5 (0, 0))) (fun t _ => H - (intOf t).toNat)
  case atStart => exact ⟨0, by omega, rfl, World.grownBy.refl _ _, by rw [← imP_zero]; exact B1.out⟩
  case round =>
    obtain ⟨b, hb, rfl, hgb, hs⟩ := hrel
    have HG : Hid _ := hgb
    have HS : Hid _ := hs
    clear hgb hs
    by_cases hltb : b < H
    · go_wp2
      generalize wr = wo at *
      go_loopw [16] (fun t wr => ∃ j : Nat, j ≤ k ∧ t = .int .i64 j ∧ W3.grownBy wr (some g0) ∧ wr.heap[g0]? = some (.cells (vfs (imP H f b (sumF (parS k i p car (bytesD L) b) j))) 5 (0, 0))) (fun t _ => k - (intOf t).toNat)
      case atStart => exact ⟨0, by omega, rfl, HG.out, HS.out⟩
      case round =>
        obtain ⟨j, hj, rfl, hgb, hs⟩ := hrel
        have HG2 : Hid _ := hgb
        have HS2 : Hid _ := hs
        by_cases hltj : j < k
        · have hBw : ∀ u, W3.grownBy u (some g0) → Below w.heap.size w u := fun u hu => below_grown (by rw [HG0.out]; exact B4.out) hu (by rw [HG0.out]; exact Nat.le_refl _)
          obtain ⟨v, hv⟩ : ∃ v, v = 2 * j + p := ⟨_, rfl⟩
          have hvl : v < L.length := by rw [← HLL.out]; omega
          obtain ⟨bL, off, rfl, hbL, hcl⟩ := rows8_at HR.out hvl
          obtain ⟨xs, hxs⟩ : ∃ xs, L[v]? = some xs := ⟨_, List.getElem?_eq_getElem hvl⟩
          obtain ⟨a', cap', e1, e2⟩ := hcl v xs hxs
          have hxl : xs.length = H := HL.out xs (List.mem_of_getElem? hxs)
          obtain ⟨b', off', rfl, hb', he2⟩ := row8_cell e2 (show b < xs.length by rw [hxl]; exact hltb)
          have hDv : bytesD L v b = at8 xs b := by simp [bytesD, List.getD_eq_getElem?_getD, hxs]
          obtain ⟨q, hq⟩ : ∃ q, q = i * k := ⟨_, rfl⟩
          obtain ⟨z, hz⟩ : ∃ z, z = q + j := ⟨_, rfl⟩
          have hzm : z < m := by rw [hz, hq, HM.out]; exact place_lt hi hltj
          have hm9 : m ≤ 1024 := by
            rw [HM.out]; exact Nat.le_trans (Nat.mul_le_mul (show r ≤ 16 by omega) (show k ≤ 16 by omega)) (by decide)
          have C1 : ∀ u, W3.grownBy u (some g0) → u.cell? ⟨M, 2, none⟩ = some (.slice (some ⟨gP, 0, none⟩) m m) := fun u hu => cellAt (grown_block hu B3.out (by omega)) 2 _ rfl
          have C2 : ∀ u, W3.grownBy u (some g0) → u.cell? ⟨gP, z, none⟩ = some (.int .u8 ((cyN (k + i) j).toNat : Int)) := fun u hu => by
            have := cellAt (grown_block hu B2.out (by omega)) z _ (vfs_get _ _ (by rw [parM_len, ← HM.out]; exact hzm))
            rw [this, hz, hq]
            congr 3
            exact congrArg UInt8.toNat (at8_grid (f := fun i j => cyN (k + i) j) hi hltj)
          have C3 : ∀ u, W3.grownBy u (some g0) → u.cell? ⟨bL, off + v, none⟩ = some (.slice (some ⟨b', off', none⟩) H cap') := fun u hu => by rw [← hxl]; exact cell_later (hBw u hu) e1
          have C4 : ∀ u, W3.grownBy u (some g0) → u.cell? ⟨b', off' + b, none⟩ = some (.int .u8 ((bytesD L v b).toNat : Int)) := fun u hu => by rw [hDv]; exact cell_later (hBw u hu) (he2 b (by rw [hxl]; exact hltb))
          have t1 : (s : Int) - (k : Int) = (i : Int) := by have := HSS.out; omega
          have t2 : (i : Int) * (k : Int) = (q : Int) := by rw [hq]; simp
          have t3 : (q : Int) + (j : Int) = (z : Int) := by omega
          have t4 : (2 : Int) * (j : Int) + (p : Int) = (v : Int) := by omega
          have w1 : IntKind.i64.wrap (i : Int) = (i : Int) := by rw [IntKind.wrap_i64]; omega
          have w2' : IntKind.i64.wrap (q : Int) = (q : Int) := by rw [IntKind.wrap_i64]; omega
          have w3 : IntKind.i64.wrap (z : Int) = (z : Int) := by rw [IntKind.wrap_i64]; omega
          have w4 : IntKind.i64.wrap (2 * (j : Int)) = 2 * (j : Int) := by rw [IntKind.wrap_i64]; omega
          have w5 : IntKind.i64.wrap (v : Int) = (v : Int) := by rw [IntKind.wrap_i64]; omega
          have hvl' : v < l := by rw [HLL.out]; exact hvl
          obtain ⟨sj, hsj⟩ : ∃ sj, sj = sumF (parS k i p car (bytesD L) b) j := ⟨_, rfl⟩
          rw [← hsj] at hs
          have HSJ : Hid _ := hsj
          have c0 : wr.drew.cell? ⟨g0, b, none⟩ = some (.int .u8 (sj.toNat : Int)) := by
            rw [cellAt (w := wr.drew) hs b _ (vfs_get _ _ (by rw [imP_len]; exact hltb)), imP_at hltb]
          have d0 : wr.drew.frozen? ⟨g0, b, none⟩ = false := frozen_of_row _ _ _ _ _ (show wr.drew.heap[g0]? = _ from hs)
          have HT : Hid ((wr.drew.setCell ⟨g0, b, none⟩ (.int .u8 ((ga sj (gm (cyN (k + i) j) (bytesD L v b))).toNat : Int))).heap[g0]? = some (.cells (vfs (imP H f b (ga sj (gm (cyN (k + i) j) (bytesD L v b))))) 5 (0, 0))) := by
            show _ = _
            rw [heap_setCell_same _ _ _ _ _ _ (show wr.drew.heap[g0]? = _ from hs), vfs_set, imP_set hltb]
          have ex := xor_val sj (gm (cyN (k + i) j) (bytesD L v b))
          have HV : Hid _ := hv
          have hS0 : W3.grownBy wr.drew (some g0) := grownBy_drew hgb
          clear hgb hs hcl hxs e1 e2 he2 hDv hq hz hv hsj hBw
          go_upto_region 13 with fail
          go_cut [] (fun wx => W3.grownBy wx (some g0) ∧ wx.heap[g0]? = some (.cells (vfs (imP H f b (ga sj (gm (cyN (k + i) j) (bytesD L v b))))) 5 (0, 0)))
          case first =>
            refine wp_region_noPanic ?_
            refine wp_region_held_drew (S := fun u => W3.grownBy u (some g0)) (by kernel_rfl) ?_ (fun hHeld => ?_)
            · exact hS0
            refine wpAnyH_take (i := 0) (oi := { dst := some 46, op := Op.move (Operand.tmp 11), type := 22, pos := "ref.go:26", after := #[], guard := none }) (v := ?_) rfl (by kernel_rfl) (by kernel_rfl) (by kernel_rfl) (fun _ _ _ h => h) (Or.inl ⟨by rfl, ?_⟩) hHeld ?_
            rotate_left
            · intro u hSw
              go_simp
              try with_reducible rfl
            try simp only [Act.put, List.setIfInBounds_toArray, List.set_cons_zero, List.set_cons_succ]
            refine wpAnyH_take (i := 1) (oi := { dst := some 47, op := Op.move (Operand.tmp 15), type := 3, pos := "ref.go:26", after := #[], guard := none }) (v := ?_) rfl (by kernel_rfl) (by kernel_rfl) (by kernel_rfl) (fun _ _ _ h => h) (Or.inl ⟨by rfl, ?_⟩) hHeld ?_
            rotate_left
            · intro u hSw
              go_simp
              try with_reducible rfl
            try simp only [Act.put, List.setIfInBounds_toArray, List.set_cons_zero, List.set_cons_succ]
            refine wpAnyH_take (i := 2) (oi := { dst := some 48, op := Op.indexAddr 22 (Operand.tmp 46) (Operand.tmp 47), type := 0, pos := "ref.go:26", after := #[{ on := 0, ground := Ground.data }, { on := 1, ground := Ground.data }], guard := none }) (v := ?_) rfl (by kernel_rfl) (by kernel_rfl) (by kernel_rfl) (fun _ _ _ h => h) (Or.inl ⟨by rfl, ?_⟩) hHeld ?_
            rotate_left
            · intro u hSw
              go_simp
              try with_reducible rfl
            try simp only [Act.put, List.setIfInBounds_toArray, List.set_cons_zero, List.set_cons_succ]
            refine wpAnyH_take (i := 4) (oi := { dst := some 50, op := Op.fieldAddr 65 (Operand.tmp 14) 2, type := 0, pos := "ref.go:26", after := #[], guard := none }) (v := ?_) rfl (by kernel_rfl) (by kernel_rfl) (by kernel_rfl) (fun _ _ _ h => h) (Or.inl ⟨by rfl, ?_⟩) hHeld ?_
            rotate_left
            · intro u hSw
              go_simp
              try with_reducible rfl
            try simp only [Act.put, List.setIfInBounds_toArray, List.set_cons_zero, List.set_cons_succ]
            refine wpAnyH_take (i := 5) (oi := { dst := some 51, op := Op.load 22 (Operand.tmp 50), type := 22, pos := "ref.go:26", after := #[{ on := 4, ground := Ground.data }], guard := none }) (v := ?_) rfl (by kernel_rfl) (by kernel_rfl) (by kernel_rfl) (fun _ _ _ h => h) (Or.inl ⟨by rfl, ?_⟩) hHeld ?_
            rotate_left
            · intro u hSw
              have q0 := C1 u hSw
              go_simp
              try with_reducible rfl
            try simp only [Act.put, List.setIfInBounds_toArray, List.set_cons_zero, List.set_cons_succ]
            refine wpAnyH_take (i := 6) (oi := { dst := some 52, op := Op.move (Operand.tmp 12), type := 3, pos := "ref.go:26", after := #[], guard := none }) (v := ?_) rfl (by kernel_rfl) (by kernel_rfl) (by kernel_rfl) (fun _ _ _ h => h) (Or.inl ⟨by rfl, ?_⟩) hHeld ?_
            rotate_left
            · intro u hSw
              go_simp
              try with_reducible rfl
            try simp only [Act.put, List.setIfInBounds_toArray, List.set_cons_zero, List.set_cons_succ]
            refine wpAnyH_take (i := 7) (oi := { dst := some 53, op := Op.move (Operand.tmp 0), type := 3, pos := "ref.go:26", after := #[], guard := none }) (v := ?_) rfl (by kernel_rfl) (by kernel_rfl) (by kernel_rfl) (fun _ _ _ h => h) (Or.inl ⟨by rfl, ?_⟩) hHeld ?_
            rotate_left
            · intro u hSw
              go_simp
              try with_reducible rfl
            try simp only [Act.put, List.setIfInBounds_toArray, List.set_cons_zero, List.set_cons_succ]
            refine wpAnyH_take (i := 8) (oi := { dst := some 54, op := Op.binOp BinOp.sub 3 (Operand.tmp 52) (Operand.tmp 53) 3, type := 3, pos := "ref.go:26", after := #[{ on := 6, ground := Ground.data }, { on := 7, ground := Ground.data }], guard := none }) (v := ?_) rfl (by kernel_rfl) (by kernel_rfl) (by kernel_rfl) (fun _ _ _ h => h) (Or.inl ⟨by rfl, ?_⟩) hHeld ?_
            rotate_left
            · intro u hSw
              go_simp
              try with_reducible rfl
            try simp only [Act.put, List.setIfInBounds_toArray, List.set_cons_zero, List.set_cons_succ]
            refine wpAnyH_take (i := 9) (oi := { dst := some 55, op := Op.move (Operand.tmp 0), type := 3, pos := "ref.go:26", after := #[], guard := none }) (v := ?_) rfl (by kernel_rfl) (by kernel_rfl) (by kernel_rfl) (fun _ _ _ h => h) (Or.inl ⟨by rfl, ?_⟩) hHeld ?_
            rotate_left
            · intro u hSw
              go_simp
              try with_reducible rfl
            try simp only [Act.put, List.setIfInBounds_toArray, List.set_cons_zero, List.set_cons_succ]
            refine wpAnyH_take (i := 10) (oi := { dst := some 56, op := Op.binOp BinOp.mul 3 (Operand.tmp 54) (Operand.tmp 55) 3, type := 3, pos := "ref.go:26", after := #[{ on := 8, ground := Ground.data }, { on := 9, ground := Ground.data }], guard := none }) (v := ?_) rfl (by kernel_rfl) (by kernel_rfl) (by kernel_rfl) (fun _ _ _ h => h) (Or.inl ⟨by rfl, ?_⟩) hHeld ?_
            rotate_left
            · intro u hSw
              go_simp
              try with_reducible rfl
            try simp only [Act.put, List.setIfInBounds_toArray, List.set_cons_zero, List.set_cons_succ]
            refine wpAnyH_take (i := 11) (oi := { dst := some 57, op := Op.move (Operand.tmp 16), type := 3, pos := "ref.go:26", after := #[], guard := none }) (v := ?_) rfl (by kernel_rfl) (by kernel_rfl) (by kernel_rfl) (fun _ _ _ h => h) (Or.inl ⟨by rfl, ?_⟩) hHeld ?_
            rotate_left
            · intro u hSw
              go_simp
              try with_reducible rfl
            try simp only [Act.put, List.setIfInBounds_toArray, List.set_cons_zero, List.set_cons_succ]
            refine wpAnyH_take (i := 12) (oi := { dst := some 58, op := Op.binOp BinOp.add 3 (Operand.tmp 56) (Operand.tmp 57) 3, type := 3, pos := "ref.go:26", after := #[{ on := 10, ground := Ground.data }, { on := 11, ground := Ground.data }], guard := none }) (v := ?_) rfl (by kernel_rfl) (by kernel_rfl) (by kernel_rfl) (fun _ _ _ h => h) (Or.inl ⟨by rfl, ?_⟩) hHeld ?_
            rotate_left
            · intro u hSw
              go_simp
              try with_reducible rfl
            try simp only [Act.put, List.setIfInBounds_toArray, List.set_cons_zero, List.set_cons_succ]
            refine wpAnyH_take (i := 13) (oi := { dst := some 59, op := Op.indexAddr 22 (Operand.tmp 51) (Operand.tmp 58), type := 0, pos := "ref.go:26", after := #[{ on := 5, ground := Ground.data }, { on := 12, ground := Ground.data }], guard := none }) (v := ?_) rfl (by kernel_rfl) (by kernel_rfl) (by kernel_rfl) (fun _ _ _ h => h) (Or.inl ⟨by rfl, ?_⟩) hHeld ?_
            rotate_left
            · intro u hSw
              go_simp
              try with_reducible rfl
            try simp only [Act.put, List.setIfInBounds_toArray, List.set_cons_zero, List.set_cons_succ]
            refine wpAnyH_take (i := 14) (oi := { dst := some 60, op := Op.load 5 (Operand.tmp 59), type := 5, pos := "ref.go:26", after := #[{ on := 13, ground := Ground.data }], guard := none }) (v := ?_) rfl (by kernel_rfl) (by kernel_rfl) (by kernel_rfl) (fun _ _ _ h => h) (Or.inl ⟨by rfl, ?_⟩) hHeld ?_
            rotate_left
            · intro u hSw
              have q0 := C2 u hSw
              go_simp
              try with_reducible rfl
            try simp only [Act.put, List.setIfInBounds_toArray, List.set_cons_zero, List.set_cons_succ]
            refine wpAnyH_take (i := 15) (oi := { dst := some 61, op := Op.move (Operand.tmp 3), type := 25, pos := "ref.go:26", after := #[], guard := none }) (v := ?_) rfl (by kernel_rfl) (by kernel_rfl) (by kernel_rfl) (fun _ _ _ h => h) (Or.inl ⟨by rfl, ?_⟩) hHeld ?_
            rotate_left
            · intro u hSw
              go_simp
              try with_reducible rfl
            try simp only [Act.put, List.setIfInBounds_toArray, List.set_cons_zero, List.set_cons_succ]
            refine wpAnyH_take (i := 16) (oi := { dst := some 62, op := Op.move (Operand.tmp 16), type := 3, pos := "ref.go:26", after := #[], guard := none }) (v := ?_) rfl (by kernel_rfl) (by kernel_rfl) (by kernel_rfl) (fun _ _ _ h => h) (Or.inl ⟨by rfl, ?_⟩) hHeld ?_
            rotate_left
            · intro u hSw
              go_simp
              try with_reducible rfl
            try simp only [Act.put, List.setIfInBounds_toArray, List.set_cons_zero, List.set_cons_succ]
            refine wpAnyH_take (i := 17) (oi := { dst := some 63, op := Op.binOp BinOp.mul 3 (Operand.const (Value.int IntKind.i64 2)) (Operand.tmp 62) 3, type := 3, pos := "ref.go:26", after := #[{ on := 16, ground := Ground.data }], guard := none }) (v := ?_) rfl (by kernel_rfl) (by kernel_rfl) (by kernel_rfl) (fun _ _ _ h => h) (Or.inl ⟨by rfl, ?_⟩) hHeld ?_
            rotate_left
            · intro u hSw
              go_simp
              try with_reducible rfl
            try simp only [Act.put, List.setIfInBounds_toArray, List.set_cons_zero, List.set_cons_succ]
            refine wpAnyH_take (i := 18) (oi := { dst := some 64, op := Op.move (Operand.tmp 13), type := 3, pos := "ref.go:26", after := #[], guard := none }) (v := ?_) rfl (by kernel_rfl) (by kernel_rfl) (by kernel_rfl) (fun _ _ _ h => h) (Or.inl ⟨by rfl, ?_⟩) hHeld ?_
            rotate_left
            · intro u hSw
              go_simp
              try with_reducible rfl
            try simp only [Act.put, List.setIfInBounds_toArray, List.set_cons_zero, List.set_cons_succ]
            refine wpAnyH_take (i := 19) (oi := { dst := some 65, op := Op.binOp BinOp.add 3 (Operand.tmp 63) (Operand.tmp 64) 3, type := 3, pos := "ref.go:26", after := #[{ on := 17, ground := Ground.data }, { on := 18, ground := Ground.data }], guard := none }) (v := ?_) rfl (by kernel_rfl) (by kernel_rfl) (by kernel_rfl) (fun _ _ _ h => h) (Or.inl ⟨by rfl, ?_⟩) hHeld ?_
            rotate_left
            · intro u hSw
              go_simp
              try with_reducible rfl
            try simp only [Act.put, List.setIfInBounds_toArray, List.set_cons_zero, List.set_cons_succ]
            refine wpAnyH_take (i := 20) (oi := { dst := some 66, op := Op.indexAddr 25 (Operand.tmp 61) (Operand.tmp 65), type := 0, pos := "ref.go:26", after := #[{ on := 15, ground := Ground.data }, { on := 19, ground := Ground.data }], guard := none }) (v := ?_) rfl (by kernel_rfl) (by kernel_rfl) (by kernel_rfl) (fun _ _ _ h => h) (Or.inl ⟨by rfl, ?_⟩) hHeld ?_
            rotate_left
            · intro u hSw
              go_simp
              try with_reducible rfl
            try simp only [Act.put, List.setIfInBounds_toArray, List.set_cons_zero, List.set_cons_succ]
            refine wpAnyH_take (i := 21) (oi := { dst := some 67, op := Op.load 22 (Operand.tmp 66), type := 22, pos := "ref.go:26", after := #[{ on := 20, ground := Ground.data }], guard := none }) (v := ?_) rfl (by kernel_rfl) (by kernel_rfl) (by kernel_rfl) (fun _ _ _ h => h) (Or.inl ⟨by rfl, ?_⟩) hHeld ?_
            rotate_left
            · intro u hSw
              have q0 := C3 u hSw
              go_simp
              try with_reducible rfl
            try simp only [Act.put, List.setIfInBounds_toArray, List.set_cons_zero, List.set_cons_succ]
            refine wpAnyH_take (i := 22) (oi := { dst := some 68, op := Op.move (Operand.tmp 15), type := 3, pos := "ref.go:26", after := #[], guard := none }) (v := ?_) rfl (by kernel_rfl) (by kernel_rfl) (by kernel_rfl) (fun _ _ _ h => h) (Or.inl ⟨by rfl, ?_⟩) hHeld ?_
            rotate_left
            · intro u hSw
              go_simp
              try with_reducible rfl
            try simp only [Act.put, List.setIfInBounds_toArray, List.set_cons_zero, List.set_cons_succ]
            refine wpAnyH_take (i := 23) (oi := { dst := some 69, op := Op.indexAddr 22 (Operand.tmp 67) (Operand.tmp 68), type := 0, pos := "ref.go:26", after := #[{ on := 21, ground := Ground.data }, { on := 22, ground := Ground.data }], guard := none }) (v := ?_) rfl (by kernel_rfl) (by kernel_rfl) (by kernel_rfl) (fun _ _ _ h => h) (Or.inl ⟨by rfl, ?_⟩) hHeld ?_
            rotate_left
            · intro u hSw
              go_simp
              try with_reducible rfl
            try simp only [Act.put, List.setIfInBounds_toArray, List.set_cons_zero, List.set_cons_succ]
            refine wpAnyH_take (i := 24) (oi := { dst := some 70, op := Op.load 5 (Operand.tmp 69), type := 5, pos := "ref.go:26", after := #[{ on := 23, ground := Ground.data }], guard := none }) (v := ?_) rfl (by kernel_rfl) (by kernel_rfl) (by kernel_rfl) (fun _ _ _ h => h) (Or.inl ⟨by rfl, ?_⟩) hHeld ?_
            rotate_left
            · intro u hSw
              have q0 := C4 u hSw
              go_simp
              try with_reducible rfl
            try simp only [Act.put, List.setIfInBounds_toArray, List.set_cons_zero, List.set_cons_succ]
            refine wpAnyH_ready (rs := [3, 25]) (by kernel_rfl) (by simp) ?_
            refine (AllReadyH.cons (o := { dst := some 49, op := Op.load 5 (Operand.tmp 48), type := 5, pos := "ref.go:26", after := #[{ on := 2, ground := Ground.data }], guard := none }) rfl (fun K hK => ?_) (AllReadyH.cons (o := { dst := some 71, op := Op.call { callee := Callee.value (Operand.func 44), args := #[Operand.tmp 60, Operand.tmp 70], argTypes := #[5, 5] }, type := 5, pos := "ref.go:26", after := #[{ on := 14, ground := Ground.data }, { on := 24, ground := Ground.data }], guard := none }) rfl (fun K hK => ?_) AllReadyH.nil))
            · go_simp
              refine hK.out _ _ ?_ (fun hHeld => ?_)
              · exact hS0
              clear hK K
              try simp only [Act.put, List.setIfInBounds_toArray, List.set_cons_zero, List.set_cons_succ]
              refine wpAnyH_ready (rs := [25]) (by kernel_rfl) (by simp) ?_
              refine (AllReadyH.cons (o := { dst := some 71, op := Op.call { callee := Callee.value (Operand.func 44), args := #[Operand.tmp 60, Operand.tmp 70], argTypes := #[5, 5] }, type := 5, pos := "ref.go:26", after := #[{ on := 14, ground := Ground.data }, { on := 24, ground := Ground.data }], guard := none }) rfl (fun K hK => ?_) AllReadyH.nil)
              go_simp
              refine Calls.mono (rmul_F (cyN (k + i) j) (bytesD L v b) _) ?_
              rintro e wi ⟨rfl, rfl⟩
              go_wp2_with fail
              refine hK.out _ _ ?_ (fun hHeld => ?_)
              · exact hS0
              clear hK K
              try simp only [Act.put, List.setIfInBounds_toArray, List.set_cons_zero, List.set_cons_succ]
              refine wpAnyH_take (i := 26) (oi := { dst := some 72, op := Op.binOp BinOp.xor 5 (Operand.tmp 49) (Operand.tmp 71) 5, type := 5, pos := "ref.go:26", after := #[{ on := 3, ground := Ground.data }, { on := 25, ground := Ground.data }], guard := none }) (v := ?_) rfl (by kernel_rfl) (by kernel_rfl) (by kernel_rfl) (fun _ _ _ h => h) (Or.inl ⟨by rfl, ?_⟩) hHeld ?_
              rotate_left
              · intro u hSw
                go_simp
                try with_reducible rfl
              try simp only [Act.put, List.setIfInBounds_toArray, List.set_cons_zero, List.set_cons_succ]
              refine wpAnyH_take (i := 27) (oi := { dst := some 73, op := Op.indexAddr 22 (Operand.tmp 46) (Operand.tmp 47), type := 0, pos := "ref.go:26", after := #[{ on := 0, ground := Ground.data }, { on := 1, ground := Ground.data }, { on := 0, ground := Ground.phase }, { on := 1, ground := Ground.phase }, { on := 2, ground := Ground.phase }, { on := 3, ground := Ground.phase }, { on := 4, ground := Ground.phase }, { on := 5, ground := Ground.phase }, { on := 6, ground := Ground.phase }, { on := 7, ground := Ground.phase }, { on := 8, ground := Ground.phase }, { on := 9, ground := Ground.phase }, { on := 10, ground := Ground.phase }, { on := 11, ground := Ground.phase }, { on := 12, ground := Ground.phase }, { on := 13, ground := Ground.phase }, { on := 14, ground := Ground.phase }, { on := 15, ground := Ground.phase }, { on := 16, ground := Ground.phase }, { on := 17, ground := Ground.phase }, { on := 18, ground := Ground.phase }, { on := 19, ground := Ground.phase }, { on := 20, ground := Ground.phase }, { on := 21, ground := Ground.phase }, { on := 22, ground := Ground.phase }, { on := 23, ground := Ground.phase }, { on := 24, ground := Ground.phase }, { on := 25, ground := Ground.phase }, { on := 26, ground := Ground.phase }], guard := none }) (v := ?_) rfl (by kernel_rfl) (by kernel_rfl) (by kernel_rfl) (fun _ _ _ h => h) (Or.inl ⟨by rfl, ?_⟩) hHeld ?_
              rotate_left
              · intro u hSw
                go_simp
                try with_reducible rfl
              try simp only [Act.put, List.setIfInBounds_toArray, List.set_cons_zero, List.set_cons_succ]
              refine wpAnyH_ready (rs := [28]) (by kernel_rfl) (by simp) ?_
              refine (AllReadyH.cons (o := { dst := none, op := Op.store 5 (Operand.tmp 73) (Operand.tmp 72), type := 0, pos := "ref.go:26", after := #[{ on := 27, ground := Ground.data }, { on := 26, ground := Ground.data }, { on := 25, ground := Ground.chain }, { on := 0, ground := Ground.phase }, { on := 1, ground := Ground.phase }, { on := 2, ground := Ground.phase }, { on := 3, ground := Ground.phase }, { on := 4, ground := Ground.phase }, { on := 5, ground := Ground.phase }, { on := 6, ground := Ground.phase }, { on := 7, ground := Ground.phase }, { on := 8, ground := Ground.phase }, { on := 9, ground := Ground.phase }, { on := 10, ground := Ground.phase }, { on := 11, ground := Ground.phase }, { on := 12, ground := Ground.phase }, { on := 13, ground := Ground.phase }, { on := 14, ground := Ground.phase }, { on := 15, ground := Ground.phase }, { on := 16, ground := Ground.phase }, { on := 17, ground := Ground.phase }, { on := 18, ground := Ground.phase }, { on := 19, ground := Ground.phase }, { on := 20, ground := Ground.phase }, { on := 21, ground := Ground.phase }, { on := 22, ground := Ground.phase }, { on := 23, ground := Ground.phase }, { on := 24, ground := Ground.phase }, { on := 25, ground := Ground.phase }, { on := 26, ground := Ground.phase }], guard := none }) rfl (fun K hK => ?_) AllReadyH.nil)
              go_simp
              refine hK.out _ _ ?_ (fun hHeld => ?_)
              · exact grownBy_setCell hS0 _
              clear hK K
              try simp only [Act.put, List.setIfInBounds_toArray, List.set_cons_zero, List.set_cons_succ]
              refine wpAnyH_done (by kernel_rfl) ?_ _
              refine NoPanic.normal ?_
              go_wp2
              go_meet
              exact ⟨grownBy_setCell hS0 _, HT.out⟩
            · go_simp
              refine Calls.mono (rmul_F (cyN (k + i) j) (bytesD L v b) _) ?_
              rintro e wi ⟨rfl, rfl⟩
              go_wp2_with fail
              refine hK.out _ _ ?_ (fun hHeld => ?_)
              · exact hS0
              clear hK K
              try simp only [Act.put, List.setIfInBounds_toArray, List.set_cons_zero, List.set_cons_succ]
              refine wpAnyH_ready (rs := [3]) (by kernel_rfl) (by simp) ?_
              refine (AllReadyH.cons (o := { dst := some 49, op := Op.load 5 (Operand.tmp 48), type := 5, pos := "ref.go:26", after := #[{ on := 2, ground := Ground.data }], guard := none }) rfl (fun K hK => ?_) AllReadyH.nil)
              go_simp
              refine hK.out _ _ ?_ (fun hHeld => ?_)
              · exact hS0
              clear hK K
              try simp only [Act.put, List.setIfInBounds_toArray, List.set_cons_zero, List.set_cons_succ]
              refine wpAnyH_take (i := 26) (oi := { dst := some 72, op := Op.binOp BinOp.xor 5 (Operand.tmp 49) (Operand.tmp 71) 5, type := 5, pos := "ref.go:26", after := #[{ on := 3, ground := Ground.data }, { on := 25, ground := Ground.data }], guard := none }) (v := ?_) rfl (by kernel_rfl) (by kernel_rfl) (by kernel_rfl) (fun _ _ _ h => h) (Or.inl ⟨by rfl, ?_⟩) hHeld ?_
              rotate_left
              · intro u hSw
                go_simp
                try with_reducible rfl
              try simp only [Act.put, List.setIfInBounds_toArray, List.set_cons_zero, List.set_cons_succ]
              refine wpAnyH_take (i := 27) (oi := { dst := some 73, op := Op.indexAddr 22 (Operand.tmp 46) (Operand.tmp 47), type := 0, pos := "ref.go:26", after := #[{ on := 0, ground := Ground.data }, { on := 1, ground := Ground.data }, { on := 0, ground := Ground.phase }, { on := 1, ground := Ground.phase }, { on := 2, ground := Ground.phase }, { on := 3, ground := Ground.phase }, { on := 4, ground := Ground.phase }, { on := 5, ground := Ground.phase }, { on := 6, ground := Ground.phase }, { on := 7, ground := Ground.phase }, { on := 8, ground := Ground.phase }, { on := 9, ground := Ground.phase }, { on := 10, ground := Ground.phase }, { on := 11, ground := Ground.phase }, { on := 12, ground := Ground.phase }, { on := 13, ground := Ground.phase }, { on := 14, ground := Ground.phase }, { on := 15, ground := Ground.phase }, { on := 16, ground := Ground.phase }, { on := 17, ground := Ground.phase }, { on := 18, ground := Ground.phase }, { on := 19, ground := Ground.phase }, { on := 20, ground := Ground.phase }, { on := 21, ground := Ground.phase }, { on := 22, ground := Ground.phase }, { on := 23, ground := Ground.phase }, { on := 24, ground := Ground.phase }, { on := 25, ground := Ground.phase }, { on := 26, ground := Ground.phase }], guard := none }) (v := ?_) rfl (by kernel_rfl) (by kernel_rfl) (by kernel_rfl) (fun _ _ _ h => h) (Or.inl ⟨by rfl, ?_⟩) hHeld ?_
              rotate_left
              · intro u hSw
                go_simp
                try with_reducible rfl
              try simp only [Act.put, List.setIfInBounds_toArray, List.set_cons_zero, List.set_cons_succ]
              refine wpAnyH_ready (rs := [28]) (by kernel_rfl) (by simp) ?_
              refine (AllReadyH.cons (o := { dst := none, op := Op.store 5 (Operand.tmp 73) (Operand.tmp 72), type := 0, pos := "ref.go:26", after := #[{ on := 27, ground := Ground.data }, { on := 26, ground := Ground.data }, { on := 25, ground := Ground.chain }, { on := 0, ground := Ground.phase }, { on := 1, ground := Ground.phase }, { on := 2, ground := Ground.phase }, { on := 3, ground := Ground.phase }, { on := 4, ground := Ground.phase }, { on := 5, ground := Ground.phase }, { on := 6, ground := Ground.phase }, { on := 7, ground := Ground.phase }, { on := 8, ground := Ground.phase }, { on := 9, ground := Ground.phase }, { on := 10, ground := Ground.phase }, { on := 11, ground := Ground.phase }, { on := 12, ground := Ground.phase }, { on := 13, ground := Ground.phase }, { on := 14, ground := Ground.phase }, { on := 15, ground := Ground.phase }, { on := 16, ground := Ground.phase }, { on := 17, ground := Ground.phase }, { on := 18, ground := Ground.phase }, { on := 19, ground := Ground.phase }, { on := 20, ground := Ground.phase }, { on := 21, ground := Ground.phase }, { on := 22, ground := Ground.phase }, { on := 23, ground := Ground.phase }, { on := 24, ground := Ground.phase }, { on := 25, ground := Ground.phase }, { on := 26, ground := Ground.phase }], guard := none }) rfl (fun K hK => ?_) AllReadyH.nil)
              go_simp
              refine hK.out _ _ ?_ (fun hHeld => ?_)
              · exact grownBy_setCell hS0 _
              clear hK K
              try simp only [Act.put, List.setIfInBounds_toArray, List.set_cons_zero, List.set_cons_succ]
              refine wpAnyH_done (by kernel_rfl) ?_ _
              refine NoPanic.normal ?_
              go_wp2
              go_meet
              exact ⟨grownBy_setCell hS0 _, HT.out⟩
          case rest =>
          obtain ⟨hc1, hc2⟩ := hcut
          generalize wc = wa at *
          have HGA : Hid _ := hc1
          have HSA : Hid _ := hc2
          have hBA : Below w.heap.size w wa := below_grown (by rw [HG0.out]; exact B4.out) hc1 (by rw [HG0.out]; exact Nat.le_refl _)
          have HBA : Hid _ := hBA
          obtain ⟨m1, hm1⟩ : ∃ m1, m1 = gm (cyN (k + i) j) (bytesD L v b) := ⟨_, rfl⟩
          rw [← hm1] at HSA
          have HM1 : Hid _ := hm1
          clear hc1 hc2 hBA hm1 c0 d0 ex hS0 HT C1 C2 C3 C4 t2 t3 t4 w2' w3 w4 w5
          go_upto_region 14 with fail
          go_cut [85] (fun s wx => (s = .bool true ∧ (p = 1 ∧ car j = i) ∨ s = .bool false ∧ ¬ (p = 1 ∧ car j = i)) ∧ wa = wx)
          case first =>
            as_aux_lemma =>
            by_cases hp1 : p = 1
            · have hp1' : ((p : Int) == 1) = true := by rw [hp1]; rfl
              go_wp2_with fail
              refine Calls.mono (HC7.out _ j (by omega)) ?_
              rintro e wi ⟨rfl, rfl⟩
              by_cases hci : car j = i
              · have hci' : ((car j : Int) == (i : Int)) = true := by simp [hci]
                have HCI : Hid (p = 1 ∧ car j = i) := ⟨hp1, hci⟩
                clear hci hp1
                go_wp2
                go_meet
                exact ⟨.inl ⟨rfl, HCI.out⟩, rfl⟩
              · have hci' : ((car j : Int) == (i : Int)) = false := by
                  simp only [beq_eq_false_iff_ne, ne_eq]; omega
                have HCI : Hid (¬ (p = 1 ∧ car j = i)) := fun h => hci h.2
                clear hci hp1
                go_wp2
                go_meet
                exact ⟨.inr ⟨rfl, HCI.out⟩, rfl⟩
            · have hp1' : ((p : Int) == 1) = false := by
                simp only [beq_eq_false_iff_ne, ne_eq]; omega
              have HCI : Hid (¬ (p = 1 ∧ car j = i)) := fun h => hp1 h.1
              clear hp1
              go_wp2
              go_meet
              exact ⟨.inr ⟨rfl, HCI.out⟩, rfl⟩
          case rest =>
          obtain ⟨hcc, rfl⟩ := hcut
          have HCC : Hid _ := hcc
          clear hcc
          rcases HCC.out with ⟨rfl, hpc⟩ | ⟨rfl, hpc⟩
          rotate_left
          · have hst := parS_step (k := k) (i := i) (p := p) (b := b) (j := j) (car := car) (D := bytesD L) (s := sj)
            rw [if_neg hpc, F.add_zero, ← HV.out, ← HM1.out, HSJ.out] at hst
            rw [HSJ.out, hst] at HSA
            clear hpc t1 w1 hst
            go_wp2
            exact ⟨⟨j + 1, by omega, by go_num, HGA.out, HSA.out⟩, by simp [intOf]; omega⟩
          have hst := parS_step (k := k) (i := i) (p := p) (b := b) (j := j) (car := car) (D := bytesD L) (s := sj)
          rw [if_pos hpc, ← HV.out, ← HM1.out] at hst
          clear hpc
          have hBw : ∀ u, wa.grownBy u (some g0) → Below w.heap.size w u := fun u hu => below_grown HBA.out hu (by rw [HG0.out]; exact Nat.le_refl _)
          obtain ⟨v2, hv2⟩ : ∃ v2, v2 = 2 * j := ⟨_, rfl⟩
          have hvl2 : v2 < L.length := by rw [← HLL.out]; omega
          obtain ⟨bL2, off2, ebl, hbL2, hcl2⟩ := rows8_at HR.out hvl2
          cases ebl
          obtain ⟨ys, hys⟩ : ∃ ys, L[v2]? = some ys := ⟨_, List.getElem?_eq_getElem hvl2⟩
          obtain ⟨a2, cap2, f1, f2⟩ := hcl2 v2 ys hys
          have hyl : ys.length = H := HL.out ys (List.mem_of_getElem? hys)
          obtain ⟨b2, o2, rfl, hb2, hf2⟩ := row8_cell f2 (show b < ys.length by rw [hyl]; exact hltb)
          have hDv2 : bytesD L v2 b = at8 ys b := by simp [bytesD, List.getD_eq_getElem?_getD, hys]
          have C5 : ∀ u, wa.grownBy u (some g0) → u.cell? ⟨bL, off + v2, none⟩ = some (.slice (some ⟨b2, o2, none⟩) H cap2) := fun u hu => by rw [← hyl]; exact cell_later (hBw u hu) f1
          have C6 : ∀ u, wa.grownBy u (some g0) → u.cell? ⟨b2, o2 + b, none⟩ = some (.int .u8 ((bytesD L v2 b).toNat : Int)) := fun u hu => by rw [hDv2]; exact cell_later (hBw u hu) (hf2 b (by rw [hyl]; exact hltb))
          have t4 : (2 : Int) * (j : Int) = (v2 : Int) := by omega
          have w5 : IntKind.i64.wrap (v2 : Int) = (v2 : Int) := by rw [IntKind.wrap_i64]; omega
          have hvl3 : v2 < l := by rw [HLL.out]; exact hvl2
          rw [← hv2] at hst
          have c0 : wa.drew.cell? ⟨g0, b, none⟩ = some (.int .u8 ((ga sj m1).toNat : Int)) := by
            rw [cellAt (w := wa.drew) HSA.out b _ (vfs_get _ _ (by rw [imP_len]; exact hltb)), imP_at hltb]
          have d0 : wa.drew.frozen? ⟨g0, b, none⟩ = false := frozen_of_row _ _ _ _ _ (show wa.drew.heap[g0]? = _ from HSA.out)
          have HT : Hid ((wa.drew.setCell ⟨g0, b, none⟩ (.int .u8 ((ga (ga sj m1) (bytesD L v2 b)).toNat : Int))).heap[g0]? = some (.cells (vfs (imP H f b (ga (ga sj m1) (bytesD L v2 b)))) 5 (0, 0))) := by
            show _ = _
            rw [heap_setCell_same _ _ _ _ _ _ (show wa.drew.heap[g0]? = _ from HSA.out), vfs_set, imP_set hltb]
          have ex := xor_val (ga sj m1) (bytesD L v2 b)
          have HG3 : Hid (W3.grownBy (wa.drew.setCell ⟨g0, b, none⟩ (.int .u8 ((ga (ga sj m1) (bytesD L v2 b)).toNat : Int))) (some g0)) := grownBy_trans HGA.out (grownBy_setCell (grownBy_drew (World.grownBy.refl _ _)) _) (fun _ _ h => h)
          have HT9 : Hid ((wa.drew.setCell ⟨g0, b, none⟩ (.int .u8 ((ga (ga sj m1) (bytesD L v2 b)).toNat : Int))).heap[g0]? = some (.cells (vfs (imP H f b (sumF (parS k i p car (bytesD L) b) (j + 1)))) 5 (0, 0))) := by
            show _ = _
            rw [HT.out, hst, HSJ.out]; rfl
          clear hst
          have hS0 : wa.grownBy wa.drew (some g0) := grownBy_drew (World.grownBy.refl _ _)
          clear hcl2 hys f1 f2 hf2 hDv2 hv2 hBw
          go_upto_region 15 with fail
          refine wp_region_noPanic ?_
          refine wp_region_held_drew (S := fun u => wa.grownBy u (some g0)) (by kernel_rfl) ?_ (fun hHeld => ?_)
          · exact hS0
          refine wpAnyH_take (i := 0) (oi := { dst := some 86, op := Op.move (Operand.tmp 11), type := 22, pos := "ref.go:28", after := #[], guard := none }) (v := ?_) rfl (by kernel_rfl) (by kernel_rfl) (by kernel_rfl) (fun _ _ _ h => h) (Or.inl ⟨by rfl, ?_⟩) hHeld ?_
          rotate_left
          · intro u hSw
            go_simp
            try with_reducible rfl
          try simp only [Act.put, List.setIfInBounds_toArray, List.set_cons_zero, List.set_cons_succ]
          refine wpAnyH_take (i := 1) (oi := { dst := some 87, op := Op.move (Operand.tmp 15), type := 3, pos := "ref.go:28", after := #[], guard := none }) (v := ?_) rfl (by kernel_rfl) (by kernel_rfl) (by kernel_rfl) (fun _ _ _ h => h) (Or.inl ⟨by rfl, ?_⟩) hHeld ?_
          rotate_left
          · intro u hSw
            go_simp
            try with_reducible rfl
          try simp only [Act.put, List.setIfInBounds_toArray, List.set_cons_zero, List.set_cons_succ]
          refine wpAnyH_take (i := 2) (oi := { dst := some 88, op := Op.indexAddr 22 (Operand.tmp 86) (Operand.tmp 87), type := 0, pos := "ref.go:28", after := #[{ on := 0, ground := Ground.data }, { on := 1, ground := Ground.data }], guard := none }) (v := ?_) rfl (by kernel_rfl) (by kernel_rfl) (by kernel_rfl) (fun _ _ _ h => h) (Or.inl ⟨by rfl, ?_⟩) hHeld ?_
          rotate_left
          · intro u hSw
            go_simp
            try with_reducible rfl
          try simp only [Act.put, List.setIfInBounds_toArray, List.set_cons_zero, List.set_cons_succ]
          refine wpAnyH_take (i := 4) (oi := { dst := some 90, op := Op.move (Operand.tmp 3), type := 25, pos := "ref.go:28", after := #[], guard := none }) (v := ?_) rfl (by kernel_rfl) (by kernel_rfl) (by kernel_rfl) (fun _ _ _ h => h) (Or.inl ⟨by rfl, ?_⟩) hHeld ?_
          rotate_left
          · intro u hSw
            go_simp
            try with_reducible rfl
          try simp only [Act.put, List.setIfInBounds_toArray, List.set_cons_zero, List.set_cons_succ]
          refine wpAnyH_take (i := 5) (oi := { dst := some 91, op := Op.move (Operand.tmp 16), type := 3, pos := "ref.go:28", after := #[], guard := none }) (v := ?_) rfl (by kernel_rfl) (by kernel_rfl) (by kernel_rfl) (fun _ _ _ h => h) (Or.inl ⟨by rfl, ?_⟩) hHeld ?_
          rotate_left
          · intro u hSw
            go_simp
            try with_reducible rfl
          try simp only [Act.put, List.setIfInBounds_toArray, List.set_cons_zero, List.set_cons_succ]
          refine wpAnyH_take (i := 6) (oi := { dst := some 92, op := Op.binOp BinOp.mul 3 (Operand.const (Value.int IntKind.i64 2)) (Operand.tmp 91) 3, type := 3, pos := "ref.go:28", after := #[{ on := 5, ground := Ground.data }], guard := none }) (v := ?_) rfl (by kernel_rfl) (by kernel_rfl) (by kernel_rfl) (fun _ _ _ h => h) (Or.inl ⟨by rfl, ?_⟩) hHeld ?_
          rotate_left
          · intro u hSw
            go_simp
            try with_reducible rfl
          try simp only [Act.put, List.setIfInBounds_toArray, List.set_cons_zero, List.set_cons_succ]
          refine wpAnyH_take (i := 7) (oi := { dst := some 93, op := Op.indexAddr 25 (Operand.tmp 90) (Operand.tmp 92), type := 0, pos := "ref.go:28", after := #[{ on := 4, ground := Ground.data }, { on := 6, ground := Ground.data }], guard := none }) (v := ?_) rfl (by kernel_rfl) (by kernel_rfl) (by kernel_rfl) (fun _ _ _ h => h) (Or.inl ⟨by rfl, ?_⟩) hHeld ?_
          rotate_left
          · intro u hSw
            go_simp
            try with_reducible rfl
          try simp only [Act.put, List.setIfInBounds_toArray, List.set_cons_zero, List.set_cons_succ]
          refine wpAnyH_take (i := 8) (oi := { dst := some 94, op := Op.load 22 (Operand.tmp 93), type := 22, pos := "ref.go:28", after := #[{ on := 7, ground := Ground.data }], guard := none }) (v := ?_) rfl (by kernel_rfl) (by kernel_rfl) (by kernel_rfl) (fun _ _ _ h => h) (Or.inl ⟨by rfl, ?_⟩) hHeld ?_
          rotate_left
          · intro u hSw
            have q0 := C5 u hSw
            go_simp
            try with_reducible rfl
          try simp only [Act.put, List.setIfInBounds_toArray, List.set_cons_zero, List.set_cons_succ]
          refine wpAnyH_take (i := 9) (oi := { dst := some 95, op := Op.move (Operand.tmp 15), type := 3, pos := "ref.go:28", after := #[], guard := none }) (v := ?_) rfl (by kernel_rfl) (by kernel_rfl) (by kernel_rfl) (fun _ _ _ h => h) (Or.inl ⟨by rfl, ?_⟩) hHeld ?_
          rotate_left
          · intro u hSw
            go_simp
            try with_reducible rfl
          try simp only [Act.put, List.setIfInBounds_toArray, List.set_cons_zero, List.set_cons_succ]
          refine wpAnyH_take (i := 10) (oi := { dst := some 96, op := Op.indexAddr 22 (Operand.tmp 94) (Operand.tmp 95), type := 0, pos := "ref.go:28", after := #[{ on := 8, ground := Ground.data }, { on := 9, ground := Ground.data }], guard := none }) (v := ?_) rfl (by kernel_rfl) (by kernel_rfl) (by kernel_rfl) (fun _ _ _ h => h) (Or.inl ⟨by rfl, ?_⟩) hHeld ?_
          rotate_left
          · intro u hSw
            go_simp
            try with_reducible rfl
          try simp only [Act.put, List.setIfInBounds_toArray, List.set_cons_zero, List.set_cons_succ]
          refine wpAnyH_take (i := 11) (oi := { dst := some 97, op := Op.load 5 (Operand.tmp 96), type := 5, pos := "ref.go:28", after := #[{ on := 10, ground := Ground.data }], guard := none }) (v := ?_) rfl (by kernel_rfl) (by kernel_rfl) (by kernel_rfl) (fun _ _ _ h => h) (Or.inl ⟨by rfl, ?_⟩) hHeld ?_
          rotate_left
          · intro u hSw
            have q0 := C6 u hSw
            go_simp
            try with_reducible rfl
          try simp only [Act.put, List.setIfInBounds_toArray, List.set_cons_zero, List.set_cons_succ]
          refine wpAnyH_ready (rs := [3]) (by kernel_rfl) (by simp) ?_
          refine (AllReadyH.cons (o := { dst := some 89, op := Op.load 5 (Operand.tmp 88), type := 5, pos := "ref.go:28", after := #[{ on := 2, ground := Ground.data }], guard := none }) rfl (fun K hK => ?_) AllReadyH.nil)
          go_simp
          refine hK.out _ _ ?_ (fun hHeld => ?_)
          · exact hS0
          clear hK K
          try simp only [Act.put, List.setIfInBounds_toArray, List.set_cons_zero, List.set_cons_succ]
          refine wpAnyH_take (i := 12) (oi := { dst := some 98, op := Op.binOp BinOp.xor 5 (Operand.tmp 89) (Operand.tmp 97) 5, type := 5, pos := "ref.go:28", after := #[{ on := 3, ground := Ground.data }, { on := 11, ground := Ground.data }], guard := none }) (v := ?_) rfl (by kernel_rfl) (by kernel_rfl) (by kernel_rfl) (fun _ _ _ h => h) (Or.inl ⟨by rfl, ?_⟩) hHeld ?_
          rotate_left
          · intro u hSw
            go_simp
            try with_reducible rfl
          try simp only [Act.put, List.setIfInBounds_toArray, List.set_cons_zero, List.set_cons_succ]
          refine wpAnyH_take (i := 13) (oi := { dst := some 99, op := Op.indexAddr 22 (Operand.tmp 86) (Operand.tmp 87), type := 0, pos := "ref.go:28", after := #[{ on := 0, ground := Ground.data }, { on := 1, ground := Ground.data }, { on := 0, ground := Ground.phase }, { on := 1, ground := Ground.phase }, { on := 2, ground := Ground.phase }, { on := 3, ground := Ground.phase }, { on := 4, ground := Ground.phase }, { on := 5, ground := Ground.phase }, { on := 6, ground := Ground.phase }, { on := 7, ground := Ground.phase }, { on := 8, ground := Ground.phase }, { on := 9, ground := Ground.phase }, { on := 10, ground := Ground.phase }, { on := 11, ground := Ground.phase }, { on := 12, ground := Ground.phase }], guard := none }) (v := ?_) rfl (by kernel_rfl) (by kernel_rfl) (by kernel_rfl) (fun _ _ _ h => h) (Or.inl ⟨by rfl, ?_⟩) hHeld ?_
          rotate_left
          · intro u hSw
            go_simp
            try with_reducible rfl
          try simp only [Act.put, List.setIfInBounds_toArray, List.set_cons_zero, List.set_cons_succ]
          refine wpAnyH_ready (rs := [14]) (by kernel_rfl) (by simp) ?_
          refine (AllReadyH.cons (o := { dst := none, op := Op.store 5 (Operand.tmp 99) (Operand.tmp 98), type := 0, pos := "ref.go:28", after := #[{ on := 13, ground := Ground.data }, { on := 12, ground := Ground.data }, { on := 0, ground := Ground.phase }, { on := 1, ground := Ground.phase }, { on := 2, ground := Ground.phase }, { on := 3, ground := Ground.phase }, { on := 4, ground := Ground.phase }, { on := 5, ground := Ground.phase }, { on := 6, ground := Ground.phase }, { on := 7, ground := Ground.phase }, { on := 8, ground := Ground.phase }, { on := 9, ground := Ground.phase }, { on := 10, ground := Ground.phase }, { on := 11, ground := Ground.phase }, { on := 12, ground := Ground.phase }], guard := none }) rfl (fun K hK => ?_) AllReadyH.nil)
          go_simp
          refine hK.out _ _ ?_ (fun hHeld => ?_)
          · exact grownBy_setCell hS0 _
          clear hK K
          try simp only [Act.put, List.setIfInBounds_toArray, List.set_cons_zero, List.set_cons_succ]
          refine wpAnyH_done (by kernel_rfl) ?_ _
          refine NoPanic.normal ?_
          go_wp2
          exact ⟨⟨j + 1, by omega, by go_num, HG3.out, HT9.out⟩, by simp [intOf]; omega⟩
        · obtain rfl : j = k := by omega
          have hfb : sumF (parS j i p car (bytesD L) b) j = f b := by rw [HF.out]
          rw [hfb, imP_next] at hs
          have HS3 : Hid _ := hs
          clear hgb hs hfb
          go_wp2
          exact ⟨⟨b + 1, by omega, by go_num, HG2.out, HS3.out⟩, by simp [intOf]; omega⟩
    · obtain rfl : b = H := by omega
      rw [imP_done] at HS
      go_wp2
      go_ret
      exact ⟨g0, rfl, by rw [HG0.out]; exact Nat.le_refl _, HS.out, below_grown (by rw [HG0.out]; exact B4.out) HG.out (by rw [HG0.out]; exact Nat.le_refl _)⟩
end Go.Proofs.YtmlpijlcpeoeaaaDoor
