/- The walk of the statement GfScales: it returns true of all lists and elements. -/
import Derived.Test.YtmepggihgbjfiabGfStr
import Derived.Test.YtmepggihgbjfiabGfAlive
import Derived.Test.YtmepggihgbjfiabGfScalesL
import Derived.Deep.RegionHeld3
namespace Go.Proofs.Ytmepggihgbjfiab
open Go.RowKit Gf
theorem same_ok (a b : Option Addr) (la ca lb cb : Nat) (xs : List F) (W : World) (hla : la = xs.length) (hlb : lb = xs.length) (hx : Row8 W a xs) (hy : Row8 W b xs) :
    Calls Try.prog 8 #[.slice a la ca, .slice b lb cb] W fun e w' => e = .returned (.bool true) ∧ Below W.heap.size W w' := by
  have k1 := fun nq => conv8 (w := W.drewN nq) (ca := ca) hla (row8_below hx (below_drewN (Below.refl _ _) nq))
  have k2 := fun nq => conv8 (w := W.drewN nq) (ca := cb) hlb (row8_below hy (below_drewN (Below.refl _ _) nq))
  have k3 := conv8 (w := W) (ca := ca) hla hx
  have k4 := conv8 (w := W) (ca := cb) hlb hy
  clear hla hlb hx hy
  go_enter Try.func8, Try.ntmps8
  go_wp2
  go_ret
  exact ⟨rfl, Below.refl _ _⟩
theorem len_max1 {c : F} {xs ys : List F} (h : xs.length < ys.length) : (((scaled c [] (scaled 1 xs ys)).length : Int) == (ys.length : Int)) = true := by
  simp only [scaled_len, List.length_nil, beq_iff_eq]; omega
theorem len_max2 {c : F} {xs ys : List F} (h : ¬ xs.length < ys.length) : (((scaled c [] (scaled 1 xs ys)).length : Int) == (xs.length : Int)) = true := by
  simp only [scaled_len, List.length_nil, beq_iff_eq]; omega
set_option maxHeartbeats 4000000 in
theorem scales_walk (a b d : Option Addr) (ca cb cd : Nat) (xs ys zs : List F) (c e : F) (w : World)
    (ha : xs.length ≤ 140737488351232) (hb : ys.length ≤ 140737488351232) (hd : zs.length ≤ 140737488351232)
    (hx : Row8 w a xs) (hy : Row8 w b ys) (hz : Row8 w d zs) :
    Calls Try.prog 3 #[.agg #[.slice a xs.length ca, .slice b ys.length cb, .slice d zs.length cd, .int .u8 c.toNat], .int .u8 e.toNat] w fun e w' => e = .returned (.bool true) ∧ Below w.heap.size w w' := by
  have HX : Hid _ := hx
  have HY : Hid _ := hy
  have HZ : Hid _ := hz
  clear hx hy hz
  go_enter Try.func3, Try.ntmps3
  go_wp2_with fail
  refine Calls.mono (alive_ok _) ?_
  rintro r w1 ⟨rfl, hb1⟩
  have hbox := cells4 hb1
  have c0 := box_cell hbox 0 _ rfl
  have c1 := box_cell hbox 1 _ rfl
  have c2 := box_cell hbox 2 _ rfl
  have c3 := box_cell hbox 3 _ rfl
  have hB1 : Below w.heap.size w w1 := ((Below.refl _ _).alloc (Nat.le_refl _) _).trans (hb1.mono (by simp))
  have rA := row_keep (row8_below HX.out hB1)
  have rB := row_keep (row8_below HY.out hB1)
  have rD := row_keep (row8_below HZ.out hB1)
  have HB1 : Hid _ := hB1
  clear hb1 hbox hB1 HX HY HZ
  have hR : Below w1.heap.size w1 w1 := Below.refl _ _
  go_wp2
  go_region_held3 (fun w' => Below w1.heap.size w1 w') (first | assumption | (refine Below.drew ?_; assumption))
    (first | (go_at_call 6; refine' (sum_B _ _ _ _ _ _ _ _ _ w1.heap.size w1 _ ‹_› (below_size ‹_›) ?hz ?hla ?hlb ?ha ?hb ?hx ?hy).mono ?_; (case hx => (first | exact .inl rfl | exact rA _ ‹_› | exact rB _ ‹_› | exact rD _ ‹_› | exact row8_own ‹_› | exact row8_below (row8_own ‹_›) ‹_›)); (case hy => (first | exact .inl rfl | exact rA _ ‹_› | exact rB _ ‹_› | exact rD _ ‹_› | exact row8_own ‹_› | exact row8_below (row8_own ‹_›) ‹_›)); (case hla => rfl); (case hlb => rfl); (case hz => rfl); (case ha => ((try simp only [scaled_len]); (try simp only [List.length_nil]); omega)); (case hb => ((try simp only [scaled_len]); (try simp only [List.length_nil]); omega)); rintro r w2 ⟨g, rfl, h1, h2, h3, h4⟩) | (go_at_call 5; refine' (scale_B _ _ _ _ _ _ w1.heap.size w1 _ ‹_› (below_size ‹_›) ?hz ?hlb ?hb ?hy).mono ?_; (case hy => (first | exact .inl rfl | exact rA _ ‹_› | exact rB _ ‹_› | exact rD _ ‹_› | exact row8_own ‹_› | exact row8_below (row8_own ‹_›) ‹_›)); (case hlb => rfl); (case hz => rfl); (case hb => ((try simp only [scaled_len]); (try simp only [List.length_nil]); omega)); rintro r w2 ⟨g, rfl, h1, h2, h3, h4⟩) | (go_at_call 7; refine (mul_F _ _ _).mono ?_; rintro r w' ⟨rfl, rfl⟩))
  have r1 := row_keep (row8_own h4)
  replace rA := row_next rA h2
  replace rB := row_next rB h2
  replace rD := row_next rD h2
  replace c0 := cell_next c0 h2
  replace c1 := cell_next c1 h2
  replace c2 := cell_next c2 h2
  replace c3 := cell_next c3 h2
  have HB2 : Hid _ := len_next HB1.out h2
  clear h1 h2 h3 h4 HB1
  replace hR : Below w2.heap.size w2 w2 := Below.refl _ _
  go_wp2_with fail
  go_region_held3 (fun w' => Below w2.heap.size w2 w') (first | assumption | (refine Below.drew ?_; assumption))
    (first | (go_at_call 6; refine' (sum_B _ _ _ _ _ _ _ _ _ w2.heap.size w2 _ ‹_› (below_size ‹_›) ?hz ?hla ?hlb ?ha ?hb ?hx ?hy).mono ?_; (case hx => (first | exact .inl rfl | exact rA _ ‹_› | exact rB _ ‹_› | exact rD _ ‹_› | exact r1 _ ‹_› | exact row8_own ‹_› | exact row8_below (row8_own ‹_›) ‹_›)); (case hy => (first | exact .inl rfl | exact rA _ ‹_› | exact rB _ ‹_› | exact rD _ ‹_› | exact r1 _ ‹_› | exact row8_own ‹_› | exact row8_below (row8_own ‹_›) ‹_›)); (case hla => rfl); (case hlb => rfl); (case hz => rfl); (case ha => ((try simp only [scaled_len]); (try simp only [List.length_nil]); omega)); (case hb => ((try simp only [scaled_len]); (try simp only [List.length_nil]); omega)); rintro r w3 ⟨g, rfl, h1, h2, h3, h4⟩) | (go_at_call 5; refine' (scale_B _ _ _ _ _ _ w2.heap.size w2 _ ‹_› (below_size ‹_›) ?hz ?hlb ?hb ?hy).mono ?_; (case hy => (first | exact .inl rfl | exact rA _ ‹_› | exact rB _ ‹_› | exact rD _ ‹_› | exact r1 _ ‹_› | exact row8_own ‹_› | exact row8_below (row8_own ‹_›) ‹_›)); (case hlb => rfl); (case hz => rfl); (case hb => ((try simp only [scaled_len]); (try simp only [List.length_nil]); omega)); rintro r w3 ⟨g, rfl, h1, h2, h3, h4⟩) | (go_at_call 7; refine (mul_F _ _ _).mono ?_; rintro r w' ⟨rfl, rfl⟩))
  have r2 := row_keep (row8_own h4)
  replace rA := row_next rA h2
  replace rB := row_next rB h2
  replace rD := row_next rD h2
  replace r1 := row_next r1 h2
  replace c0 := cell_next c0 h2
  replace c1 := cell_next c1 h2
  replace c2 := cell_next c2 h2
  replace c3 := cell_next c3 h2
  have HB3 : Hid _ := len_next HB2.out h2
  clear h1 h2 h3 h4 HB2
  replace hR : Below w3.heap.size w3 w3 := Below.refl _ _
  go_wp2_with fail
  go_wp2_with (first | (go_at_call 6; refine' (sum_B _ _ _ _ _ _ _ _ _ w3.heap.size w3 _ ‹_› (below_size ‹_›) ?hz ?hla ?hlb ?ha ?hb ?hx ?hy).mono ?_; (case hx => (first | exact .inl rfl | exact rA _ ‹_› | exact rB _ ‹_› | exact rD _ ‹_› | exact r1 _ ‹_› | exact r2 _ ‹_› | exact row8_own ‹_› | exact row8_below (row8_own ‹_›) ‹_›)); (case hy => (first | exact .inl rfl | exact rA _ ‹_› | exact rB _ ‹_› | exact rD _ ‹_› | exact r1 _ ‹_› | exact r2 _ ‹_› | exact row8_own ‹_› | exact row8_below (row8_own ‹_›) ‹_›)); (case hla => rfl); (case hlb => rfl); (case hz => rfl); (case ha => ((try simp only [scaled_len]); (try simp only [List.length_nil]); omega)); (case hb => ((try simp only [scaled_len]); (try simp only [List.length_nil]); omega)); rintro r w4 ⟨g, rfl, h1, h2, h3, h4⟩) | (go_at_call 5; refine' (scale_B _ _ _ _ _ _ w3.heap.size w3 _ ‹_› (below_size ‹_›) ?hz ?hlb ?hb ?hy).mono ?_; (case hy => (first | exact .inl rfl | exact rA _ ‹_› | exact rB _ ‹_› | exact rD _ ‹_› | exact r1 _ ‹_› | exact r2 _ ‹_› | exact row8_own ‹_› | exact row8_below (row8_own ‹_›) ‹_›)); (case hlb => rfl); (case hz => rfl); (case hb => ((try simp only [scaled_len]); (try simp only [List.length_nil]); omega)); rintro r w4 ⟨g, rfl, h1, h2, h3, h4⟩) | (go_at_call 7; refine (mul_F _ _ _).mono ?_; rintro r w' ⟨rfl, rfl⟩))
  have r3 := row_keep (row8_own h4)
  replace rA := row_next rA h2
  replace rB := row_next rB h2
  replace rD := row_next rD h2
  replace r1 := row_next r1 h2
  replace r2 := row_next r2 h2
  replace c0 := cell_next c0 h2
  replace c1 := cell_next c1 h2
  replace c2 := cell_next c2 h2
  replace c3 := cell_next c3 h2
  have HB4 : Hid _ := len_next HB3.out h2
  clear h1 h2 h3 h4 HB3
  replace hR : Below w4.heap.size w4 w4 := Below.refl _ _
  go_wp2_with fail
  go_region_held3 (fun w' => Below w4.heap.size w4 w') (first | assumption | (refine Below.drew ?_; assumption))
    (first | (go_at_call 6; refine' (sum_B _ _ _ _ _ _ _ _ _ w4.heap.size w4 _ ‹_› (below_size ‹_›) ?hz ?hla ?hlb ?ha ?hb ?hx ?hy).mono ?_; (case hx => (first | exact .inl rfl | exact rA _ ‹_› | exact rB _ ‹_› | exact rD _ ‹_› | exact r1 _ ‹_› | exact r2 _ ‹_› | exact r3 _ ‹_› | exact row8_own ‹_› | exact row8_below (row8_own ‹_›) ‹_›)); (case hy => (first | exact .inl rfl | exact rA _ ‹_› | exact rB _ ‹_› | exact rD _ ‹_› | exact r1 _ ‹_› | exact r2 _ ‹_› | exact r3 _ ‹_› | exact row8_own ‹_› | exact row8_below (row8_own ‹_›) ‹_›)); (case hla => rfl); (case hlb => rfl); (case hz => rfl); (case ha => ((try simp only [scaled_len]); (try simp only [List.length_nil]); omega)); (case hb => ((try simp only [scaled_len]); (try simp only [List.length_nil]); omega)); rintro r w5 ⟨g, rfl, h1, h2, h3, h4⟩) | (go_at_call 5; refine' (scale_B _ _ _ _ _ _ w4.heap.size w4 _ ‹_› (below_size ‹_›) ?hz ?hlb ?hb ?hy).mono ?_; (case hy => (first | exact .inl rfl | exact rA _ ‹_› | exact rB _ ‹_› | exact rD _ ‹_› | exact r1 _ ‹_› | exact r2 _ ‹_› | exact r3 _ ‹_› | exact row8_own ‹_› | exact row8_below (row8_own ‹_›) ‹_›)); (case hlb => rfl); (case hz => rfl); (case hb => ((try simp only [scaled_len]); (try simp only [List.length_nil]); omega)); rintro r w5 ⟨g, rfl, h1, h2, h3, h4⟩) | (go_at_call 7; refine (mul_F _ _ _).mono ?_; rintro r w' ⟨rfl, rfl⟩))
  have r4 := row_keep (row8_own h4)
  replace rA := row_next rA h2
  replace rB := row_next rB h2
  replace rD := row_next rD h2
  replace r1 := row_next r1 h2
  replace r2 := row_next r2 h2
  replace r3 := row_next r3 h2
  replace c0 := cell_next c0 h2
  replace c1 := cell_next c1 h2
  replace c2 := cell_next c2 h2
  replace c3 := cell_next c3 h2
  have HB5 : Hid _ := len_next HB4.out h2
  clear h1 h2 h3 h4 HB4
  replace hR : Below w5.heap.size w5 w5 := Below.refl _ _
  go_wp2_with fail
  go_region_held3 (fun w' => Below w5.heap.size w5 w') (first | assumption | (refine Below.drew ?_; assumption))
    (first | (go_at_call 6; refine' (sum_B _ _ _ _ _ _ _ _ _ w5.heap.size w5 _ ‹_› (below_size ‹_›) ?hz ?hla ?hlb ?ha ?hb ?hx ?hy).mono ?_; (case hx => (first | exact .inl rfl | exact rA _ ‹_› | exact rB _ ‹_› | exact rD _ ‹_› | exact r1 _ ‹_› | exact r2 _ ‹_› | exact r3 _ ‹_› | exact r4 _ ‹_› | exact row8_own ‹_› | exact row8_below (row8_own ‹_›) ‹_›)); (case hy => (first | exact .inl rfl | exact rA _ ‹_› | exact rB _ ‹_› | exact rD _ ‹_› | exact r1 _ ‹_› | exact r2 _ ‹_› | exact r3 _ ‹_› | exact r4 _ ‹_› | exact row8_own ‹_› | exact row8_below (row8_own ‹_›) ‹_›)); (case hla => rfl); (case hlb => rfl); (case hz => rfl); (case ha => ((try simp only [scaled_len]); (try simp only [List.length_nil]); omega)); (case hb => ((try simp only [scaled_len]); (try simp only [List.length_nil]); omega)); rintro r w6 ⟨g, rfl, h1, h2, h3, h4⟩) | (go_at_call 5; refine' (scale_B _ _ _ _ _ _ w5.heap.size w5 _ ‹_› (below_size ‹_›) ?hz ?hlb ?hb ?hy).mono ?_; (case hy => (first | exact .inl rfl | exact rA _ ‹_› | exact rB _ ‹_› | exact rD _ ‹_› | exact r1 _ ‹_› | exact r2 _ ‹_› | exact r3 _ ‹_› | exact r4 _ ‹_› | exact row8_own ‹_› | exact row8_below (row8_own ‹_›) ‹_›)); (case hlb => rfl); (case hz => rfl); (case hb => ((try simp only [scaled_len]); (try simp only [List.length_nil]); omega)); rintro r w6 ⟨g, rfl, h1, h2, h3, h4⟩) | (go_at_call 7; refine (mul_F _ _ _).mono ?_; rintro r w' ⟨rfl, rfl⟩))
  have r5 := row_keep (row8_own h4)
  replace rA := row_next rA h2
  replace rB := row_next rB h2
  replace rD := row_next rD h2
  replace r1 := row_next r1 h2
  replace r2 := row_next r2 h2
  replace r3 := row_next r3 h2
  replace r4 := row_next r4 h2
  replace c0 := cell_next c0 h2
  replace c1 := cell_next c1 h2
  replace c2 := cell_next c2 h2
  replace c3 := cell_next c3 h2
  have HB6 : Hid _ := len_next HB5.out h2
  clear h1 h2 h3 h4 HB5
  replace hR : Below w6.heap.size w6 w6 := Below.refl _ _
  go_wp2_with fail
  go_region_held3 (fun w' => Below w6.heap.size w6 w') (first | assumption | (refine Below.drew ?_; assumption))
    (first | (go_at_call 6; refine' (sum_B _ _ _ _ _ _ _ _ _ w6.heap.size w6 _ ‹_› (below_size ‹_›) ?hz ?hla ?hlb ?ha ?hb ?hx ?hy).mono ?_; (case hx => (first | exact .inl rfl | exact rA _ ‹_› | exact rB _ ‹_› | exact rD _ ‹_› | exact r1 _ ‹_› | exact r2 _ ‹_› | exact r3 _ ‹_› | exact r4 _ ‹_› | exact r5 _ ‹_› | exact row8_own ‹_› | exact row8_below (row8_own ‹_›) ‹_›)); (case hy => (first | exact .inl rfl | exact rA _ ‹_› | exact rB _ ‹_› | exact rD _ ‹_› | exact r1 _ ‹_› | exact r2 _ ‹_› | exact r3 _ ‹_› | exact r4 _ ‹_› | exact r5 _ ‹_› | exact row8_own ‹_› | exact row8_below (row8_own ‹_›) ‹_›)); (case hla => rfl); (case hlb => rfl); (case hz => rfl); (case ha => ((try simp only [scaled_len]); (try simp only [List.length_nil]); omega)); (case hb => ((try simp only [scaled_len]); (try simp only [List.length_nil]); omega)); rintro r w7 ⟨g, rfl, h1, h2, h3, h4⟩) | (go_at_call 5; refine' (scale_B _ _ _ _ _ _ w6.heap.size w6 _ ‹_› (below_size ‹_›) ?hz ?hlb ?hb ?hy).mono ?_; (case hy => (first | exact .inl rfl | exact rA _ ‹_› | exact rB _ ‹_› | exact rD _ ‹_› | exact r1 _ ‹_› | exact r2 _ ‹_› | exact r3 _ ‹_› | exact r4 _ ‹_› | exact r5 _ ‹_› | exact row8_own ‹_› | exact row8_below (row8_own ‹_›) ‹_›)); (case hlb => rfl); (case hz => rfl); (case hb => ((try simp only [scaled_len]); (try simp only [List.length_nil]); omega)); rintro r w7 ⟨g, rfl, h1, h2, h3, h4⟩) | (go_at_call 7; refine (mul_F _ _ _).mono ?_; rintro r w' ⟨rfl, rfl⟩))
  have r6 := row_keep (row8_own h4)
  replace rA := row_next rA h2
  replace rB := row_next rB h2
  replace rD := row_next rD h2
  replace r1 := row_next r1 h2
  replace r2 := row_next r2 h2
  replace r3 := row_next r3 h2
  replace r4 := row_next r4 h2
  replace r5 := row_next r5 h2
  replace c0 := cell_next c0 h2
  replace c1 := cell_next c1 h2
  replace c2 := cell_next c2 h2
  replace c3 := cell_next c3 h2
  have HB7 : Hid _ := len_next HB6.out h2
  clear h1 h2 h3 h4 HB6
  replace hR : Below w7.heap.size w7 w7 := Below.refl _ _
  go_wp2_with fail
  rw [scale_sum] at r2
  rw [scale_scale] at r4
  rw [sum_assoc] at r6
  refine Calls.mono (same_ok _ _ _ _ _ _ (scaled c [] (scaled 1 xs ys)) _ rfl (by rw [scale_sum]) (r1 _ hR) (r2 _ hR)) ?_
  rintro r w8 ⟨rfl, h2⟩
  replace rA := row_next rA h2
  replace rB := row_next rB h2
  replace rD := row_next rD h2
  replace r1 := row_next r1 h2
  replace r2 := row_next r2 h2
  replace r3 := row_next r3 h2
  replace r4 := row_next r4 h2
  replace r5 := row_next r5 h2
  replace r6 := row_next r6 h2
  replace c0 := cell_next c0 h2
  replace c1 := cell_next c1 h2
  replace c2 := cell_next c2 h2
  replace c3 := cell_next c3 h2
  have HB8 : Hid _ := len_next HB7.out h2
  clear h2 HB7
  replace hR : Below w8.heap.size w8 w8 := Below.refl _ _
  go_wp2_with fail
  refine Calls.mono (same_ok _ _ _ _ _ _ (scaled e [] (scaled c [] xs)) _ rfl (by rw [scale_scale]) (r3 _ hR) (r4 _ hR)) ?_
  rintro r w9 ⟨rfl, h2⟩
  replace rA := row_next rA h2
  replace rB := row_next rB h2
  replace rD := row_next rD h2
  replace r1 := row_next r1 h2
  replace r2 := row_next r2 h2
  replace r3 := row_next r3 h2
  replace r4 := row_next r4 h2
  replace r5 := row_next r5 h2
  replace r6 := row_next r6 h2
  replace c0 := cell_next c0 h2
  replace c1 := cell_next c1 h2
  replace c2 := cell_next c2 h2
  replace c3 := cell_next c3 h2
  have HB9 : Hid _ := len_next HB8.out h2
  clear h2 HB8
  replace hR : Below w9.heap.size w9 w9 := Below.refl _ _
  go_wp2_with fail
  refine Calls.mono (same_ok _ _ _ _ _ _ (scaled 1 (scaled 1 xs ys) zs) _ rfl (by rw [sum_assoc]) (r5 _ hR) (r6 _ hR)) ?_
  rintro r w10 ⟨rfl, h2⟩
  replace rA := row_next rA h2
  replace rB := row_next rB h2
  replace rD := row_next rD h2
  replace r1 := row_next r1 h2
  replace r2 := row_next r2 h2
  replace r3 := row_next r3 h2
  replace r4 := row_next r4 h2
  replace r5 := row_next r5 h2
  replace r6 := row_next r6 h2
  replace c0 := cell_next c0 h2
  replace c1 := cell_next c1 h2
  replace c2 := cell_next c2 h2
  replace c3 := cell_next c3 h2
  have HB10 : Hid _ := len_next HB9.out h2
  clear h2 HB9
  replace hR : Below w10.heap.size w10 w10 := Below.refl _ _
  go_wp2_with fail
  all_goals
    go_ret
    refine ⟨?_, HB10.out⟩
    first | exact congrArg (fun b => Ending.returned (.bool b)) (len_max1 ‹_›) | exact congrArg (fun b => Ending.returned (.bool b)) (len_max2 ‹_›)
end Go.Proofs.Ytmepggihgbjfiab
