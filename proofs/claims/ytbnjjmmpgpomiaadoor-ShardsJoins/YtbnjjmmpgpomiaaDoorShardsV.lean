/- What the document's own Join answers, of all lists of halves; nothing that was there turns. -/
import Derived.Test.YtbnjjmmpgpomiaaDoorShardsJ
import Derived.Test.YtbnjjmmpgpomiaaDoorRegHeld
import Derived.Test.YtbnjjmmpgpomiaaDoorHolds
import Derived.Deep.DeepCutAuto
namespace Go.Proofs.YtbnjjmmpgpomiaaDoor
open Go.RowKit Gf
set_option linter.unusedVariables false
set_option maxRecDepth 20000
theorem wantedA_run {P : Program} {w : World} {o : Oper} {a : Act} {K : Act → World → Prop} {Q : Exit → Act → World → Prop} {ys : Nat → Option Bool} {L : Prop} (hgd : o.guard = none) (s x : Operand) (t : TypeId)
    (ho : o.op = .call { callee := .builtin .append, args := #[s, x], argTypes := #[t, t] }) (v u r : Value) (w' : World) (hs : a.eval s = v) (hx : a.eval x = u)
    (hr : (Builtin.append_ #[t, t] o.type #[v, u]).run P w = .ok r w') (h : K (a.put o.dst r) w') : if Region.wanted o ys = true then Oper.wp P o a w K Q else L := by
  rw [if_pos (by simp [Region.wanted, hgd])]
  unfold Oper.wp execOp
  simp only [ho, resolve, invoke, builtin, Sem.run_bind, Sem.run_pure, Result.andThen_ok, List.map_toArray, List.map_cons, List.map_nil, hs, hx, hr]
  exact h
theorem take_snoc8 {xs : List F} {i : Nat} (h : i < xs.length) : xs.take i ++ [at8 xs i] = xs.take (i + 1) := by
  rw [List.take_succ_eq_append_getElem h]
  simp [at8, h]
theorem rjoin_bad (k size : Int) (a : Option Addr) (l ca : Nat) (w : World) (h : halfE k size ≠ 0) :
    Calls Tryd.prog 22 #[.int .i64 k, .int .i64 size, .slice a l ca] w fun e w' => e = .returned (.tuple #[.slice none 0 0, .int .i64 (halfE k size)]) ∧ w = w' := by
  have HF : Hid _ := fun w => rhalf_F k size w
  rw [halfV_no h] at HF
  have h' : ¬ ((halfE k size : Nat) : Int) = 0 := by omega
  generalize halfE k size = x at *
  clear h
  go_enter Tryd.func22, Tryd.ntmps22
  go_wp2_with fail
  refine Calls.mono (HF.out _) ?_
  rintro e w1 ⟨rfl, rfl⟩
  go_wp2_with fail
  go_ret2
  exact ⟨rfl, rfl⟩
set_option maxHeartbeats 8000000 in
theorem rjoin_F (k n l cap : Nat) (a : Option Addr) (L : List (List F)) (w : World) (h1 : 1 ≤ k) (h2 : k ≤ 14) (h3 : 1 ≤ n) (h4 : n ≤ 128 * k)
    (hl : l = L.length) (hl9 : l ≤ 140737488355328) (hL : Rows8 w a L) :
    Calls Tryd.prog 22 #[.int .i64 k, .int .i64 n, .slice a l cap] w fun e w' =>
      (¬ FitP (2 * k) (cntN (2 * k) n) L ∧ e = .returned (.tuple #[.slice none 0 0, .int .i64 5]) ∧ Below w.heap.size w w') ∨
      (FitP (2 * k) (cntN (2 * k) n) L ∧ ∃ g cap, e = .returned (.tuple #[.slice (some ⟨g, 0, none⟩) n cap, .int .i64 0]) ∧ n ≤ L.flatten.length ∧ Has8 w' g (L.flatten.take n) cap ∧ w.heap.size ≤ g ∧ Below w.heap.size w w') := by
  have HF : Hid _ := fun w => rhalf_F k n w
  rw [halfV_ok h1 h2 h3 h4, halfE_ok h1 h2 h3 h4] at HF
  obtain ⟨k1, k2, k3, k4⟩ := cnt_half h1 h2 h3 h4
  obtain ⟨c, hc⟩ : ∃ c, c = 2 * k := ⟨_, rfl⟩
  rw [← hc] at HF k1 k2 k3 k4 ⊢
  generalize cntN c n = H at *
  have HKC : Hid ((2 : Int) * k = c) := by show _ = _; omega
  have hc28 : c ≤ 28 := by omega
  have HK3 : Hid _ := k3
  have HL : Hid _ := hl
  have HR : Hid _ := hL
  have hn9 : n ≤ 1792 := by omega
  clear k3 k4 h4 hc hl hL
  go_enter Tryd.func22, Tryd.ntmps22
  go_wp2_with fail
  refine Calls.mono (HF.out _) ?_
  rintro e w1 ⟨rfl, rfl⟩
  have hkc := HKC.out
  go_upto_region 5 with fail
  have hbl : ((l : Int) != (c : Int)) = false ↔ l = c := by simp only [bne_eq_false_iff_eq]; omega
  generalize ((l : Int) != (c : Int)) = b0 at *
  have HB0 : Hid _ := hbl
  clear hbl hkc
  go_wp2
  go_loopw [10, 31] (fun s t wr => ∃ j : Nat, ∃ bb : Bool, j ≤ l ∧ t = .int .i64 j ∧ s = .bool bb ∧ wr = w ∧ Hid (bb = false ↔ l = c ∧ ∀ i xs, i < j → L[i]? = some xs → xs.length = H)) (fun _ t _ => l - (intOf t).toNat)
  case atStart => exact ⟨0, b0, by omega, rfl, rfl, rfl, (⟨fun h => ⟨HB0.out.1 h, fun i xs h => absurd h (by omega)⟩, fun h => HB0.out.2 h.1⟩ : b0 = false ↔ _)⟩
  case round =>
    obtain ⟨j, bb, hj, rfl, rfl, rfl, HI⟩ := hrel
    by_cases hlt : j < l
    · obtain ⟨b, off, rfl, hb, hcl⟩ := rows8_at HR.out (show j < L.length by rw [← HL.out]; exact hlt)
      obtain ⟨xs, hxs⟩ : ∃ xs, L[j]? = some xs := ⟨_, List.getElem?_eq_getElem (by rw [← HL.out]; exact hlt)⟩
      obtain ⟨a', cap', c1, _⟩ := hcl j xs hxs
      have HX : Hid _ := hxs
      clear hcl hxs
      cases bb with
      | true =>
        have HN : Hid ((true : Bool) = false ↔ l = c ∧ ∀ i xs, i < j + 1 → L[i]? = some xs → xs.length = H) := by
          refine ⟨fun h => (by cases h), fun h => HI.out.2 ⟨h.1, fun i ys hi hy => h.2 i ys (by omega) hy⟩⟩
        go_wp2
        exact ⟨⟨j + 1, true, by omega, by go_num, rfl, trivial, HN.out⟩, by simp [intOf]; omega⟩
      | false =>
        obtain ⟨bx, hbx⟩ : ∃ bx : Bool, ((xs.length : Int) != (H : Int)) = bx := ⟨_, rfl⟩
        have hbx2 : bx = false ↔ xs.length = H := by rw [← hbx]; simp only [bne_eq_false_iff_eq]; omega
        have HN : Hid (bx = false ↔ l = c ∧ ∀ i xs, i < j + 1 → L[i]? = some xs → xs.length = H) := by
          have h0 := HI.out.1 rfl
          refine ⟨fun h => ⟨h0.1, fun i ys hi hy => ?_⟩, fun h => hbx2.2 (h.2 j xs (by omega) HX.out)⟩
          by_cases e : i = j
          · subst e
            obtain rfl := Option.some.inj (HX.out.symm.trans hy)
            exact hbx2.1 h
          · exact h0.2 i ys (by omega) hy
        clear hbx2
        go_wp2
        exact ⟨⟨j + 1, bx, by omega, by go_num, rfl, trivial, HN.out⟩, by simp [intOf]; omega⟩
    · obtain rfl : j = l := by omega
      cases bb with
      | true =>
        have HNO : Hid (¬ FitP c H L) := fun hf => by
          have := HI.out.2 ⟨by rw [HL.out]; exact hf.1, fun i ys _ hy => hf.2 ys (List.mem_of_getElem? hy)⟩
          cases this
        go_wp2
        go_ret2
        exact .inl ⟨HNO.out, rfl, Below.refl _ _⟩
      | false =>
        have HOK : Hid (FitP c H L) := ⟨by rw [← HL.out]; exact (HI.out.1 rfl).1, fun ys hy => by
          obtain ⟨i, hi, e⟩ := List.getElem_of_mem hy
          exact (HI.out.1 rfl).2 i ys (by rw [HL.out]; exact hi) (by rw [List.getElem?_eq_getElem hi, e])⟩
        have HFL : Hid (L.flatten.length = c * H) := by show _ = _; rw [flat_len HOK.out.2, HOK.out.1]
        have HLC : Hid (j = c) := by show _ = _; rw [HL.out]; exact HOK.out.1
        go_wp2
        have hh0 : Has8 (wr.alloc (.cells #[] 5)) wr.heap.size (L.flatten.take 0) 0 := ⟨#[], heap_alloc_last wr _, rfl, by simp, by simp [maxLen], rfl⟩
        generalize hw9 : wr = w9 at *
        go_loopw [13, 14] (fun s t wr => ∃ i g cp : Nat, i ≤ n ∧ t = .int .i64 i ∧ s = .slice (some ⟨g, 0, none⟩) i cp ∧ w9.heap.size ≤ g ∧ Below w9.heap.size w9 wr ∧ Has8 wr g (L.flatten.take i) cp) (fun _ t _ => n - (intOf t).toNat)
        case atStart => exact ⟨0, w9.heap.size, 0, by omega, rfl, rfl, Nat.le_refl _, (Below.refl _ _).alloc (Nat.le_refl _) _, hh0⟩
        case round =>
          obtain ⟨i, g, cp, hi, rfl, rfl, hg, hbw, hh⟩ := hrel
          have HBW : Hid _ := hbw
          have HH : Hid _ := hh
          clear hh0
          by_cases hlti : i < n
          · obtain ⟨q, hq⟩ : ∃ q, q = i / H := ⟨_, rfl⟩
            obtain ⟨r, hr⟩ : ∃ r, r = i % H := ⟨_, rfl⟩
            have hir : i = q * H + r := by rw [hq, hr, Nat.mul_comm]; exact (Nat.div_add_mod i H).symm
            have hrH : r < H := by rw [hr]; exact Nat.mod_lt _ (by omega)
            have hiF : i < L.flatten.length := by rw [HFL.out]; have := HK3.out; omega
            have hqc : q < c := by
              apply Decidable.byContradiction
              intro h
              have := Nat.mul_le_mul_right H (show c ≤ q by omega)
              have h6 := HFL.out
              omega
            obtain ⟨b, off, rfl, hb, hcl⟩ := rows8_at HR.out (show q < L.length by rw [HOK.out.1]; exact hqc)
            obtain ⟨xs, hxs⟩ : ∃ xs, L[q]? = some xs := ⟨_, List.getElem?_eq_getElem (by rw [HOK.out.1]; exact hqc)⟩
            obtain ⟨a', cap', c1, c2⟩ := hcl q xs hxs
            have hxl : xs.length = H := HOK.out.2 xs (List.mem_of_getElem? hxs)
            obtain ⟨b', off', rfl, hb', hc2⟩ := row8_cell c2 (show r < xs.length by rw [hxl]; exact hrH)
            have e1 : at8 L.flatten i = at8 xs r := by
              rw [hir, flat_at HOK.out.2 (by rw [HOK.out.1]; exact hqc) hrH, List.getD_eq_getElem?_getD, hxs]; rfl
            have C1 : ∀ u, Below w9.heap.size w9 u → u.cell? ⟨b, off + q, none⟩ = some (.slice (some ⟨b', off', none⟩) H cap') := fun u hu => by rw [← hxl]; exact cell_later hu c1
            have C2 : ∀ u, Below w9.heap.size w9 u → u.cell? ⟨b', off' + r, none⟩ = some (.int .u8 ((at8 L.flatten i).toNat : Int)) := fun u hu => by rw [e1]; exact cell_later hu (hc2 r (by rw [hxl]; exact hrH))
            have dq : (i : Int) / (H : Int) = (q : Int) := by rw [hq]; simp
            have dr : (i : Int) % (H : Int) = (r : Int) := by rw [hr]; simp
            have hql : (q : Int) < j := by have := HLC.out; omega
            have hrl : (r : Int) < H := by omega
            have hq0 : (0 : Int) ≤ q := by omega
            have hr0 : (0 : Int) ≤ r := by omega
            have hH0 : ¬ H = 0 := by omega
            have tq : IntKind.i64.wrap (q : Int) = (q : Int) := by rw [IntKind.wrap_i64]; omega
            have dr2 : (i : Int).tmod (H : Int) = (r : Int) := by rw [hr]; exact (Int.ofNat_tmod i H).symm
            have hB0 : Below w9.heap.size w9 wr.drew := hbw.drew
            have hh2 : Has8 (wr.drew.alloc (.cells #[.int .u8 ((at8 L.flatten i).toNat : Int)] 5)) g (L.flatten.take i) cp := has8_below hh (((Below.refl wr.heap.size wr).drew).alloc (Nat.le_refl _) _)
            obtain ⟨g2, cp2, w2, hrun, hh3, hgr, hor⟩ := append8 (ad := ⟨wr.drew.heap.size, 0, none⟩) (m := 1) (c := 1) (ys := [at8 L.flatten i]) 37 hh2 (by rw [List.length_take, Nat.min_eq_left (by omega)]) rfl (by omega) (fun z hz => by
              obtain rfl : z = 0 := by simpa using hz
              exact cellAt (heap_alloc_last wr.drew (.cells #[.int .u8 ((at8 L.flatten i).toNat : Int)] 5)) 0 _ rfl)
            rw [take_snoc8 hiF] at hh3
            have hB1 : Below w9.heap.size w9 (wr.drew.alloc (.cells #[.int .u8 ((at8 L.flatten i).toNat : Int)] 5)) := hB0.alloc hB0.size _
            have hB2 : Below w9.heap.size w9 w2 := grownBy_below hB1 hgr hg hB1.size
            have hg2 : w9.heap.size ≤ g2 := by
              have := hB1.size
              rcases hor with e | e <;> rw [e] <;> omega
            have HRun : Hid _ := hrun
            have HH3 : Hid _ := hh3
            have HB2 : Hid _ := hB2
            clear hq hr hir hcl hxs c1 c2 hxl hc2 e1 hbw hh hh2 hrun hh3 hgr hor hB2
            go_upto_region 16 with fail
            refine wp_region_noPanic ?_
            refine wp_region_held_drew (S := fun u => Below w9.heap.size w9 u) (by kernel_rfl) ?_ (fun hHeld => ?_)
            · exact hB0
            refine wpAnyH_take (i := 0) (oi := { dst := some 50, op := Op.move (Operand.tmp 13), type := 37, pos := "ref.go:74", after := #[], guard := none }) (v := ?_) rfl (by kernel_rfl) (by kernel_rfl) (by kernel_rfl) (fun _ _ _ h => h) (Or.inl ⟨by rfl, ?_⟩) hHeld ?_
            rotate_left
            · intro u hSw
              go_simp
              try with_reducible rfl
            try simp only [Act.put, List.setIfInBounds_toArray, List.set_cons_zero, List.set_cons_succ]
            refine wpAnyH_take (i := 1) (oi := { dst := some 51, op := Op.move (Operand.tmp 2), type := 39, pos := "ref.go:74", after := #[], guard := none }) (v := ?_) rfl (by kernel_rfl) (by kernel_rfl) (by kernel_rfl) (fun _ _ _ h => h) (Or.inl ⟨by rfl, ?_⟩) hHeld ?_
            rotate_left
            · intro u hSw
              go_simp
              try with_reducible rfl
            try simp only [Act.put, List.setIfInBounds_toArray, List.set_cons_zero, List.set_cons_succ]
            refine wpAnyH_take (i := 2) (oi := { dst := some 52, op := Op.move (Operand.tmp 14), type := 3, pos := "ref.go:74", after := #[], guard := none }) (v := ?_) rfl (by kernel_rfl) (by kernel_rfl) (by kernel_rfl) (fun _ _ _ h => h) (Or.inl ⟨by rfl, ?_⟩) hHeld ?_
            rotate_left
            · intro u hSw
              go_simp
              try with_reducible rfl
            try simp only [Act.put, List.setIfInBounds_toArray, List.set_cons_zero, List.set_cons_succ]
            refine wpAnyH_take (i := 3) (oi := { dst := some 53, op := Op.move (Operand.tmp 8), type := 3, pos := "ref.go:74", after := #[], guard := none }) (v := ?_) rfl (by kernel_rfl) (by kernel_rfl) (by kernel_rfl) (fun _ _ _ h => h) (Or.inl ⟨by rfl, ?_⟩) hHeld ?_
            rotate_left
            · intro u hSw
              go_simp
              try with_reducible rfl
            try simp only [Act.put, List.setIfInBounds_toArray, List.set_cons_zero, List.set_cons_succ]
            refine wpAnyH_take (i := 4) (oi := { dst := some 54, op := Op.binOp BinOp.quo 3 (Operand.tmp 52) (Operand.tmp 53) 3, type := 3, pos := "ref.go:74", after := #[{ on := 2, ground := Ground.data }, { on := 3, ground := Ground.data }], guard := none }) (v := ?_) rfl (by kernel_rfl) (by kernel_rfl) (by kernel_rfl) (fun _ _ _ h => h) (Or.inl ⟨by rfl, ?_⟩) hHeld ?_
            rotate_left
            · intro u hSw
              go_simp
              try with_reducible rfl
            try simp only [Act.put, List.setIfInBounds_toArray, List.set_cons_zero, List.set_cons_succ]
            refine wpAnyH_take (i := 5) (oi := { dst := some 55, op := Op.indexAddr 39 (Operand.tmp 51) (Operand.tmp 54), type := 0, pos := "ref.go:74", after := #[{ on := 1, ground := Ground.data }, { on := 4, ground := Ground.data }], guard := none }) (v := ?_) rfl (by kernel_rfl) (by kernel_rfl) (by kernel_rfl) (fun _ _ _ h => h) (Or.inl ⟨by rfl, ?_⟩) hHeld ?_
            rotate_left
            · intro u hSw
              go_simp
              try with_reducible rfl
            try simp only [Act.put, List.setIfInBounds_toArray, List.set_cons_zero, List.set_cons_succ]
            refine wpAnyH_take (i := 6) (oi := { dst := some 56, op := Op.load 37 (Operand.tmp 55), type := 37, pos := "ref.go:74", after := #[{ on := 5, ground := Ground.data }], guard := none }) (v := ?_) rfl (by kernel_rfl) (by kernel_rfl) (by kernel_rfl) (fun _ _ _ h => h) (Or.inl ⟨by rfl, ?_⟩) hHeld ?_
            rotate_left
            · intro u hSw
              have q0 := C1 u hSw
              go_simp
              try with_reducible rfl
            try simp only [Act.put, List.setIfInBounds_toArray, List.set_cons_zero, List.set_cons_succ]
            refine wpAnyH_take (i := 7) (oi := { dst := some 57, op := Op.move (Operand.tmp 14), type := 3, pos := "ref.go:74", after := #[], guard := none }) (v := ?_) rfl (by kernel_rfl) (by kernel_rfl) (by kernel_rfl) (fun _ _ _ h => h) (Or.inl ⟨by rfl, ?_⟩) hHeld ?_
            rotate_left
            · intro u hSw
              go_simp
              try with_reducible rfl
            try simp only [Act.put, List.setIfInBounds_toArray, List.set_cons_zero, List.set_cons_succ]
            refine wpAnyH_take (i := 8) (oi := { dst := some 58, op := Op.move (Operand.tmp 8), type := 3, pos := "ref.go:74", after := #[], guard := none }) (v := ?_) rfl (by kernel_rfl) (by kernel_rfl) (by kernel_rfl) (fun _ _ _ h => h) (Or.inl ⟨by rfl, ?_⟩) hHeld ?_
            rotate_left
            · intro u hSw
              go_simp
              try with_reducible rfl
            try simp only [Act.put, List.setIfInBounds_toArray, List.set_cons_zero, List.set_cons_succ]
            refine wpAnyH_take (i := 9) (oi := { dst := some 59, op := Op.binOp BinOp.rem 3 (Operand.tmp 57) (Operand.tmp 58) 3, type := 3, pos := "ref.go:74", after := #[{ on := 7, ground := Ground.data }, { on := 8, ground := Ground.data }], guard := none }) (v := ?_) rfl (by kernel_rfl) (by kernel_rfl) (by kernel_rfl) (fun _ _ _ h => h) (Or.inl ⟨by rfl, ?_⟩) hHeld ?_
            rotate_left
            · intro u hSw
              go_simp
              try with_reducible rfl
            try simp only [Act.put, List.setIfInBounds_toArray, List.set_cons_zero, List.set_cons_succ]
            refine wpAnyH_take (i := 10) (oi := { dst := some 60, op := Op.indexAddr 37 (Operand.tmp 56) (Operand.tmp 59), type := 0, pos := "ref.go:74", after := #[{ on := 6, ground := Ground.data }, { on := 9, ground := Ground.data }], guard := none }) (v := ?_) rfl (by kernel_rfl) (by kernel_rfl) (by kernel_rfl) (fun _ _ _ h => h) (Or.inl ⟨by rfl, ?_⟩) hHeld ?_
            rotate_left
            · intro u hSw
              go_simp
              try with_reducible rfl
            try simp only [Act.put, List.setIfInBounds_toArray, List.set_cons_zero, List.set_cons_succ]
            refine wpAnyH_take (i := 11) (oi := { dst := some 61, op := Op.load 5 (Operand.tmp 60), type := 5, pos := "ref.go:74", after := #[{ on := 10, ground := Ground.data }], guard := none }) (v := ?_) rfl (by kernel_rfl) (by kernel_rfl) (by kernel_rfl) (fun _ _ _ h => h) (Or.inl ⟨by rfl, ?_⟩) hHeld ?_
            rotate_left
            · intro u hSw
              have q0 := C2 u hSw
              go_simp
              try with_reducible rfl
            try simp only [Act.put, List.setIfInBounds_toArray, List.set_cons_zero, List.set_cons_succ]
            refine wpAnyH_ready (rs := [12]) (by kernel_rfl) (by simp) ?_
            refine AllReadyH.cons (o := { dst := some 62, op := Op.buildSlice 37 1 #[(0, Operand.tmp 61)], type := 37, pos := "ref.go:74", after := #[{ on := 11, ground := Ground.data }], guard := none }) rfl (fun K hK => ?_) AllReadyH.nil
            go_simp
            go_wp2_with fail
            refine hK.out _ _ ?_ (fun hHeld => ?_)
            · exact hB1
            clear hK K
            try simp only [Act.put, List.setIfInBounds_toArray, List.set_cons_zero, List.set_cons_succ]
            refine wpAnyH_ready (rs := [13]) (by kernel_rfl) (by simp) ?_
            refine AllReadyH.cons (o := { dst := some 63, op := Op.call { callee := Callee.builtin Builtin.append, args := #[Operand.tmp 50, Operand.tmp 62], argTypes := #[37, 37] }, type := 37, pos := "ref.go:74", after := #[{ on := 0, ground := Ground.data }, { on := 12, ground := Ground.data }], guard := none }) rfl (fun K hK => ?_) AllReadyH.nil
            refine wantedA_run rfl _ _ 37 rfl _ _ _ _ rfl rfl HRun.out ?_
            refine hK.out _ _ ?_ (fun hHeld => ?_)
            · exact HB2.out
            clear hK K
            try simp only [Act.put, List.setIfInBounds_toArray, List.set_cons_zero, List.set_cons_succ]
            refine wpAnyH_take (i := 14) (oi := { dst := some 13, op := Op.assign (Operand.tmp 63), type := 37, pos := "ref.go:74", after := #[{ on := 13, ground := Ground.data }, { on := 13, ground := Ground.chain }, { on := 0, ground := Ground.phase }, { on := 1, ground := Ground.phase }, { on := 2, ground := Ground.phase }, { on := 3, ground := Ground.phase }, { on := 4, ground := Ground.phase }, { on := 5, ground := Ground.phase }, { on := 6, ground := Ground.phase }, { on := 7, ground := Ground.phase }, { on := 8, ground := Ground.phase }, { on := 9, ground := Ground.phase }, { on := 10, ground := Ground.phase }, { on := 11, ground := Ground.phase }, { on := 12, ground := Ground.phase }, { on := 13, ground := Ground.phase }], guard := none }) (v := ?_) rfl (by kernel_rfl) (by kernel_rfl) (by kernel_rfl) (fun _ _ _ h => h) (Or.inl ⟨by rfl, ?_⟩) hHeld ?_
            rotate_left
            · intro u hSw
              go_simp
              try with_reducible rfl
            try simp only [Act.put, List.setIfInBounds_toArray, List.set_cons_zero, List.set_cons_succ]
            refine wpAnyH_done (by kernel_rfl) ?_ _
            refine NoPanic.normal ?_
            clear C1 C2 dq dr dr2 tq hql hrl hq0 hr0 hH0 hB0 hB1
            go_wp2
            exact ⟨⟨i + 1, g2, cp2, by omega, by go_num, rfl, hg2, HB2.out, HH3.out⟩, by simp [intOf]; omega⟩
          · obtain rfl : i = n := by omega
            clear hbw hh
            go_wp2
            go_ret2
            exact .inr ⟨HOK.out, g, cp, rfl, by rw [HFL.out]; exact HK3.out, HH.out, by rw [hw9]; exact hg, by rw [hw9]; exact HBW.out⟩
end Go.Proofs.YtbnjjmmpgpomiaaDoor
