/- (the tail) The walk of the statement MatProducts: it returns true of all pairs of matrices and numbers of columns. -/
import Derived.Test.YtkmlanolaogaiaaDoorMatPB
import Derived.Test.YtkmlanolaogaiaaDoorMatIn
import Derived.Test.YtkmlanolaogaiaaDoorMatAs
import Derived.Test.YtkmlanolaogaiaaDoorFormsL
import Derived.Test.YtkmlanolaogaiaaDoorRefTr
import Derived.Test.YtkmlanolaogaiaaDoorPlacesK
import Derived.Test.YtkmlanolaogaiaaDoorMeet
import Derived.Test.YtkmlanolaogaiaaDoorMatAl
import Derived.Test.YtkmlanolaogaiaaDoorMatT
import Derived.Deep.DeepCutAuto
namespace Go.Proofs.YtkmlanolaogaiaaDoor
open Go.RowKit Gf
set_option linter.unusedVariables false
set_option maxRecDepth 20000
def inφ (r c : Int) (l : Nat) (xs : List F) (v : Value) (w : World) : Prop := ∃ g, v = .agg #[.int .i64 r, .int .i64 c, .slice (some ⟨g, 0, none⟩) l (l + 6)] ∧ w.heap[g]? = some (.cells (vfs (xs ++ marks)) 5 (0, 0))
theorem store3 {w : World} {N : Nat} {c0 c1 c2 v0 v1 v2 : Value} {t : TypeId} (h : w.heap[N]? = some (.cells #[c0, c1, c2] t (0, 0))) :
    (((w.setCell ⟨N, 0, none⟩ v0).setCell ⟨N, 1, none⟩ v1).setCell ⟨N, 2, none⟩ v2).heap[N]? = some (.cells #[v0, v1, v2] t (0, 0)) := by
  rw [heap_setCell_same _ _ _ _ _ _ (heap_setCell_same _ _ _ _ _ _ (heap_setCell_same _ _ _ _ _ _ h))]; rfl
theorem store3_other {w : World} {N k : Nat} {v0 v1 v2 : Value} {o : Obj} (h : w.heap[k]? = some o) (hne : k ≠ N) :
    (((w.setCell ⟨N, 0, none⟩ v0).setCell ⟨N, 1, none⟩ v1).setCell ⟨N, 2, none⟩ v2).heap[k]? = some o := by
  rw [heap_setCell_other _ _ _ _ (by show k ≠ N; exact hne), heap_setCell_other _ _ _ _ (by show k ≠ N; exact hne), heap_setCell_other _ _ _ _ (by show k ≠ N; exact hne)]; exact h
theorem ne_of_kind {w : World} {a b : Nat} {cs ds : Array Value} {t u : TypeId} {f1 f2 : Nat × Nat} (h1 : w.heap[a]? = some (.cells cs t f1)) (h2 : w.heap[b]? = some (.cells ds u f2)) (h : t ≠ u) : a ≠ b := kind_ne h1 h2 h
theorem laid3 {B : Nat} {w' : World} {N : Nat} {cs : Array Value} {t : TypeId} (h : B ≤ N ∧ ∃ v : World, B ≤ v.heap.size ∧ v.heap.size = N ∧ Below (v.alloc (.cells cs t)).heap.size (v.alloc (.cells cs t)) w') : w'.heap[N]? = some (.cells cs t (0, 0)) := by
  obtain ⟨_, v, _, rfl, hb⟩ := h
  exact heap_later (heap_alloc_last _ _) hb
/-- an answered matrix in its box, in new memory, and its error: right, or refused -/
def AnsP (B C : Nat) (w : World) (v e : Value) (s : Addr) (ok : Prop) (r c : Int) (xs : List F) : Prop :=
  ∃ N, v = .pointer (some ⟨N, 0, none⟩) ∧ ((ok ∧ e = .nilIface ∧ ∃ g m, w.heap[N]? = some (.cells #[.int .i64 r, .int .i64 c, .slice (some ⟨g, 0, none⟩) m m] 24 (0, 0)) ∧ w.heap[g]? = some (.cells (vfs xs) 5 (0, 0)) ∧ m = xs.length ∧ B ≤ g ∧ g < C) ∨
    (¬ ok ∧ e = errAt s ∧ w.heap[N]? = some (.cells #[.int .i64 0, .int .i64 0, .slice none 0 0] 24 (0, 0))))
theorem AnsP.later {B C : Nat} {w w' : World} {v e : Value} {s : Addr} {ok : Prop} {r c : Int} {xs : List F} (h : AnsP B C w v e s ok r c xs) (hb : Below w.heap.size w w') : AnsP B C w' v e s ok r c xs := by
  obtain ⟨N, hv, ⟨h1, h2, g, m, h3, h4, h5⟩ | ⟨h1, h2, h3⟩⟩ := h
  · exact ⟨N, hv, .inl ⟨h1, h2, g, m, heap_later h3 hb, heap_later h4 hb, h5⟩⟩
  · exact ⟨N, hv, .inr ⟨h1, h2, heap_later h3 hb⟩⟩
theorem flat_rows {r c : Nat} {xs : List F} (h : xs.length = r * c) : ((List.range r).map (rowAt c xs)).flatten = xs := by
  have e := grid_of (xs := xs) h
  have := grid_flat c (fun i j => at8 xs (i * c + j)) r
  rw [← e] at this
  rw [this]
  congr 1
  refine List.map_congr_left fun i hi => ?_
  rw [← this]
  exact rowAt_rowF h (List.mem_range.1 hi)
theorem inForm_any (r c : Int) (a : Option Addr) (l cap : Nat) (w : World) : Calls Tryd.prog 13 #[.agg #[.int .i64 r, .int .i64 c, .slice a l cap]] w fun e w' => ∃ b : Bool, e = .returned (.bool b) ∧ (b = true ↔ Fm r c l) ∧ Below w.heap.size w w' := by
  by_cases h : Fm r c l
  · obtain ⟨p, q, rfl, rfl, hp, hq, hl⟩ := h.nat
    exact (inForm_yes p q a l cap w hp hq hl).mono fun e w' ⟨h1, h2⟩ => ⟨true, h1, by simp [h], h2⟩
  · exact (inForm_no r c a l cap w h).mono fun e w' ⟨h1, h2⟩ => ⟨false, h1, by simp [h], h2⟩
theorem own_shift2 {w : World} {B g i n : Nat} {v x : Value} {e : TypeId} {s : Nat} {xs : List Value} (h : w.ownsRow B e s v n xs) (hg : g < B) : (w.setCell ⟨g, i, none⟩ x).ownsRow B e s v n xs := by
  refine ⟨h.1, h.2.imp id fun ⟨b, cap, cur, h1, h2, h3, h4⟩ => ⟨b, cap, cur, h1, h2, (heap_setCell_other _ _ _ _ (by show b ≠ g; omega)).trans h3, h4⟩⟩
def st3 (r c : Int) (g7 la : Nat) (xs : List F) (q d : Int) (g8 lb : Nat) (ys : List F) : List Mx := [⟨r, c, some ⟨g7, 0, none⟩, la, la + 6, xs⟩, ⟨q, d, some ⟨g8, 0, none⟩, lb, lb + 6, ys⟩, ⟨r, c, some ⟨g7, 0, none⟩, la, la + 6, xs⟩]
def ok3 (r c : Int) (la : Nat) (q d : Int) (lb : Nat) (cols : Int) : Prop := (0 ≤ cols ∧ cols ≤ 64) ∧ Fm r c la ∧ Fm q d lb ∧ c = cols ∧ d = cols ∧ 2 * r + q ≤ 64
theorem st3_rows {r c q : Nat} {d : Int} {g7 la g8 lb : Nat} {e : Int} {xs ys : List F} : rowsOf (st3 r e g7 la xs q d g8 lb ys) = 2 * r + q := by simp [rowsOf, st3]; omega
theorem st3_flat {r c q la lb g7 g8 : Nat} {xs ys : List F} (hx : xs.length = r * c) (hy : ys.length = q * c) : (rowsM c (st3 r c g7 la xs q c g8 lb ys)).flatten = xs ++ (ys ++ xs) := by
  simp only [rowsM, st3, List.map_cons, List.map_nil, Int.toNat_natCast, List.flatten_cons, List.flatten_nil, List.append_nil, List.flatten_append]
  rw [flat_rows hx, flat_rows hy]
theorem st3_ok {r c q d cols : Int} {g7 la g8 lb : Nat} {xs ys : List F} : StackOk cols (st3 r c g7 la xs q d g8 lb ys) ↔ ok3 r c la q d lb cols := by
  constructor
  · rintro ⟨h1, h2, hm, hr⟩
    obtain ⟨r, rfl, hc, hr6, _, hl⟩ := hm ⟨r, c, some ⟨g7, 0, none⟩, la, la + 6, xs⟩ (by simp [st3])
    obtain ⟨q, rfl, hd, hq6, _, hl2⟩ := hm ⟨q, d, some ⟨g8, 0, none⟩, lb, lb + 6, ys⟩ (by simp [st3])
    simp only at hc hd hl hl2
    rw [st3_rows (c := 0)] at hr
    have e : ((cols.toNat : Nat) : Int) = cols := by omega
    rw [e] at hc hd
    subst hc hd
    refine ⟨⟨h1, h2⟩, ⟨by omega, by omega, h1, h2, ?_⟩, ⟨by omega, by omega, h1, h2, ?_⟩, rfl, rfl, by omega⟩
    · rw [hl, Int.natCast_mul, e]
    · rw [hl2, Int.natCast_mul, e]
  · rintro ⟨⟨h1, h2⟩, hf, hg, rfl, rfl, h3⟩
    obtain ⟨p, k, rfl, rfl, hp, hk, hl⟩ := hf.nat
    obtain ⟨q, k2, rfl, e, hq, _, hl2⟩ := hg.nat
    obtain rfl : k2 = k := by omega
    refine ⟨h1, h2, fun m hm => ?_, by rw [st3_rows (c := 0)]; omega⟩
    simp only [st3, List.mem_cons, List.not_mem_nil, or_false] at hm
    rcases hm with rfl | rfl | rfl
    · exact ⟨p, rfl, rfl, hp, hk, hl⟩
    · exact ⟨q, rfl, rfl, hq, hk, hl2⟩
    · exact ⟨p, rfl, rfl, hp, hk, hl⟩
/-- what follows behind the first n statements -/
def seqTail : Nat → Code → Code
  | 0, c => c
  | n + 1, .seq _ b => seqTail n b
  | _ + 1, c => c
def bodyOf (f : Func) : Code := match f.body with
  | some c => c
  | none => .skip
set_option maxRecDepth 100000 in
set_option maxHeartbeats 400000000 in
/-- what follows behind the eleventh statement -/
theorem products_tail (r c q d cols : Int) (la ca lb cb : Nat) (a b : Option Addr) (xs ys : List F) (w : World) (hca : la ≤ ca) (hma : ca ≤ 140737488351232) (hcb : lb ≤ cb) (hmb : cb ≤ 140737488351232) (hk0 : -9223372036854775808 ≤ cols) (hk1 : cols ≤ 9223372036854775807) (es : List Addr) (s : Addr) (HLA : Hid (la = xs.length)) (HLB : Hid (lb = ys.length)) (HX : Hid (Row8 w a xs)) (HY : Hid (Row8 w b ys)) (HNA : Hid (a = none → ca = 0)) (HNB : Hid (b = none → cb = 0)) (HE : Hid (ErrsAt w gsNum es)) (HES : Hid (es[1]? = some s)) (HS : Hid (w.cell? ⟨0, 0, none⟩ = some (errAt s))) (w1 : World) (N7 N8 g7 g8 : Nat) (w2 : World) (zg7 : g7 < w2.heap.size) (hw2s : w.heap.size ≤ w2.heap.size) (u9 u10 : Value) (w3 : World) (hsz3 : w2.heap.size ≤ w3.heap.size) (u11 u12 : Value) (w4 : World) (hsz4 : w3.heap.size ≤ w4.heap.size) (u13 u14 : Value) (w5 : World) (hsz5 : w4.heap.size ≤ w5.heap.size) (u15 u16 : Value) (w6 : World) (hsz6 : w5.heap.size ≤ w6.heap.size) (w7 : World) (b17 : Bool) (w8 : World) (H17 : Hid (b17 = true ↔ 0 ≤ cols ∧ cols ≤ 64)) (u6 : Value) (w9 : World) (HK9 : Hid (AnsP w4.heap.size w5.heap.size w9 u13 u14 s (ok3 r c la q d lb cols) (2 * r + q) cols (xs ++ (ys ++ xs)))) (HT9 : Hid (AnsP w3.heap.size w4.heap.size w9 u11 u12 s (Fm r c la) c r (trM r.toNat c.toNat xs))) (HP9 : Hid (AnsP w2.heap.size w3.heap.size w9 u9 u10 s (Fm r c la ∧ Fm q d lb ∧ c = q) r d (mulM c.toNat d.toNat xs ys r.toNat))) (HA9 : Hid (Holds w9 [(N7, Obj.cells #[Value.int IntKind.i64 r, Value.int IntKind.i64 c, Value.slice (some { block := g7, off := 0 }) la (la + 6)] 24), (g7, Obj.cells (vfs (xs ++ marks)) 5), (N8, Obj.cells #[Value.int IntKind.i64 q, Value.int IntKind.i64 d, Value.slice (some { block := g8, off := 0 }) lb (lb + 6)] 24), (g8, Obj.cells (vfs (ys ++ marks)) 5)])) (HO9 : Hid (Holds w9 [(w.heap.size + 1, Obj.cells #[Value.int IntKind.i64 q, Value.int IntKind.i64 d, Value.slice b lb cb] 24), (w.heap.size, Obj.cells #[Value.int IntKind.i64 r, Value.int IntKind.i64 c, Value.slice a la ca] 24)])) (HW9 : Hid (Below w.heap.size w w9)) (hsz9 : w8.heap.size ≤ w9.heap.size) (wc : World) (u18 u19 u21 u22 u23 u24 u25 u26 u27 u28 u29 u30 u31 u32 u33 u34 u35 u36 u37 u38 u39 u40 u41 u42 u43 u44 u45 u46 u47 u48 u49 u50 u51 u52 u53 u54 u55 u56 u57 u58 u59 u60 u61 u62 u63 u64 u65 u66 u67 u68 u69 u70 u71 u72 u73 u74 u75 u76 u77 u78 u79 u80 u81 u82 u83 u84 u85 u86 u87 u88 u89 u90 u91 u92 u93 u94 u95 u96 u97 u98 u99 u100 u101 u102 u103 u104 u105 u106 u107 u108 u109 u110 u111 u112 u113 u114 u115 u116 u117 u118 u119 u120 u121 u122 u123 u124 u125 u126 u127 u128 u129 u130 u131 u132 u133 u134 u135 u136 u137 u138 u139 u140 u141 u142 u143 u144 u145 u146 u147 u148 u149 u150 u151 u152 u153 u154 u155 u156 u157 u158 u159 u160 u161 u162 u163 u164 u165 u166 u167 u168 u169 u170 u171 u172 u173 u174 u175 u176 u177 u178 u179 u180 u181 u182 u183 u184 u185 u186 u187 u188 u189 u190 u191 u192 u193 u194 u195 u196 u197 u198 u199 u200 u201 u202 : Value) (hcut : (∃ b18 b19, u18 = Value.bool b18 ∧ u19 = Value.bool b19 ∧ (b18 = true ↔ Fm r c la) ∧ (b19 = true ↔ Fm q d lb)) ∧ Below w9.heap.size w9 wc) :
    Code.wp Tryd.prog (seqTail 11 (bodyOf Tryd.f3)) (bodyPost Tryd.prog Tryd.f3 fun e w' => e = .returned (.bool true) ∧ Below w.heap.size w w') { tmps := List.toArray ((Value.agg #[Value.int IntKind.i64 r, Value.int IntKind.i64 c, Value.slice a la ca]) :: (Value.agg #[Value.int IntKind.i64 q, Value.int IntKind.i64 d, Value.slice b lb cb]) :: (Value.int IntKind.i64 cols) :: (Value.pointer (some { block := w.heap.size, off := 0 })) :: (Value.pointer (some { block := w.heap.size + 1, off := 0 })) :: undef :: u6 :: (Value.pointer (some { block := N7, off := 0 })) :: (Value.pointer (some { block := N8, off := 0 })) :: u9 :: u10 :: u11 :: u12 :: u13 :: u14 :: u15 :: u16 :: (Value.bool b17) :: u18 :: u19 :: undef :: u21 :: u22 :: u23 :: u24 :: u25 :: u26 :: u27 :: u28 :: u29 :: u30 :: u31 :: u32 :: u33 :: u34 :: u35 :: u36 :: u37 :: u38 :: u39 :: u40 :: u41 :: u42 :: u43 :: u44 :: u45 :: u46 :: u47 :: u48 :: u49 :: u50 :: u51 :: u52 :: u53 :: u54 :: u55 :: u56 :: u57 :: u58 :: u59 :: u60 :: u61 :: u62 :: u63 :: u64 :: u65 :: u66 :: u67 :: u68 :: u69 :: u70 :: u71 :: u72 :: u73 :: u74 :: u75 :: u76 :: u77 :: u78 :: u79 :: u80 :: u81 :: u82 :: u83 :: u84 :: u85 :: u86 :: u87 :: u88 :: u89 :: u90 :: u91 :: u92 :: u93 :: u94 :: u95 :: u96 :: u97 :: u98 :: u99 :: u100 :: u101 :: u102 :: u103 :: u104 :: u105 :: u106 :: u107 :: u108 :: u109 :: u110 :: u111 :: u112 :: u113 :: u114 :: u115 :: u116 :: u117 :: u118 :: u119 :: u120 :: u121 :: u122 :: u123 :: u124 :: u125 :: u126 :: u127 :: u128 :: u129 :: u130 :: u131 :: u132 :: u133 :: u134 :: u135 :: u136 :: u137 :: u138 :: u139 :: u140 :: u141 :: u142 :: u143 :: u144 :: u145 :: u146 :: u147 :: u148 :: u149 :: u150 :: u151 :: u152 :: u153 :: u154 :: u155 :: u156 :: u157 :: u158 :: u159 :: u160 :: u161 :: u162 :: u163 :: u164 :: u165 :: u166 :: u167 :: u168 :: u169 :: u170 :: u171 :: u172 :: u173 :: u174 :: u175 :: u176 :: u177 :: u178 :: u179 :: u180 :: u181 :: u182 :: u183 :: u184 :: u185 :: u186 :: u187 :: u188 :: u189 :: u190 :: u191 :: u192 :: u193 :: u194 :: u195 :: u196 :: u197 :: u198 :: u199 :: u200 :: u201 :: u202 :: []), defers := [] } wc := by
  conv => arg 2; whnf
  obtain ⟨⟨b18, b19, rfl, rfl, h18, h19⟩, hB⟩ := hcut
  generalize wc = w10 at *
  have H18 : Hid _ := h18
  have H19 : Hid _ := h19
  clear h18 h19
  have HK10 : Hid (AnsP _ _ _ _ _ _ _ _ _ _) := AnsP.later HK9.out hB
  have HT10 : Hid (AnsP _ _ _ _ _ _ _ _ _ _) := AnsP.later HT9.out hB
  have HP10 : Hid (AnsP _ _ _ _ _ _ _ _ _ _) := AnsP.later HP9.out hB
  have HA10 : Hid _ := holds_later HA9.out hB
  have HO10 : Hid _ := holds_later HO9.out hB
  have HW10 : Hid (Below w.heap.size w w10) := HW9.out.trans (hB.mono HW9.out.size)
  have hsz10 := hB.size
  clear hB HA9 HO9 HW9 HK9 HT9 HP9
  go_upto_region 17 with fail
  go_cut [98] (fun s98 wx => (∃ b98 : Bool, s98 = .bool b98 ∧ (b98 = true ↔ Fm r c la ∧ Fm q d lb ∧ c = q)) ∧ wx = w10)
  case first => as_aux_lemma =>
    cases b18 with
    | false =>
      have HF : Hid (¬ (Fm r c la ∧ Fm q d lb ∧ c = q)) := fun h => Bool.noConfusion (H18.out.2 h.1)
      go_wp2
      go_meet
      exact ⟨⟨false, rfl, by simp only [Bool.false_eq_true, false_iff]; exact HF.out⟩, rfl⟩
    | true =>
      cases b19 with
      | false =>
        have HF : Hid (¬ (Fm r c la ∧ Fm q d lb ∧ c = q)) := fun h => Bool.noConfusion (H19.out.2 h.2.1)
        go_wp2
        go_meet
        exact ⟨⟨false, rfl, by simp only [Bool.false_eq_true, false_iff]; exact HF.out⟩, rfl⟩
      | true =>
        have c1 := cellAt (holds_at HO10.out 1 rfl) 1 _ rfl
        have c2 := cellAt (holds_at HO10.out 0 rfl) 0 _ rfl
        by_cases hcq : c = q
        · have HT : Hid (Fm r c la ∧ Fm q d lb ∧ c = q) := (⟨H18.out.1 rfl, H19.out.1 rfl, hcq⟩ : Fm r c la ∧ Fm q d lb ∧ c = q)
          subst hcq
          go_wp2
          go_meet
          exact ⟨⟨true, rfl, by simp only [true_iff]; exact ⟨HT.out.1, HT.out.2.1, by first | trivial | rfl⟩⟩, rfl⟩
        · have HF : Hid (¬ (Fm r c la ∧ Fm q d lb ∧ c = q)) := fun h => hcq h.2.2
          have hq : (c == q) = false := by simpa using hcq
          clear hcq
          go_wp2
          go_meet
          exact ⟨⟨false, rfl, by simp only [Bool.false_eq_true, false_iff]; exact HF.out⟩, rfl⟩
  case rest =>
  obtain ⟨⟨b98, rfl, h98⟩, rfl⟩ := hcut
  generalize wc = w10 at *
  have H98 : Hid _ := h98
  clear h98
  go_upto_if 98 with fail
  go_cut [] (fun wx => Below w10.heap.size w10 wx)
  case first => as_aux_lemma =>
    obtain ⟨N, rfl, ⟨hok, rfl, g, m, hbx, hdt, hm, _⟩ | ⟨hno, rfl, hbx⟩⟩ := HP10.out
    · have hbt : b98 = true := H98.out.2 hok
      subst hbt
      obtain ⟨r, c, rfl, rfl, hr, hc, hl⟩ := hok.1.nat
      obtain ⟨q, d, rfl, rfl, hq, hd, hl2⟩ := hok.2.1.nat
      obtain rfl : c = q := by have := hok.2.2; omega
      simp only [Int.toNat_natCast] at hdt hm
      have HL : Hid _ := hl
      have HL2 : Hid _ := hl2
      have HM : Hid _ := hm
      have HD : Hid _ := hdt
      have zP := ltHeap hbx
      have cP0 := boxB (B := w10.heap.size) hbx zP 0 _ rfl
      have cP1 := boxB (B := w10.heap.size) hbx zP 1 _ rfl
      have cP2 := boxB (B := w10.heap.size) hbx zP 2 _ rfl
      have zA := ltHeap (holds_at HO10.out 1 rfl)
      have zB := ltHeap (holds_at HO10.out 0 rfl)
      have cA0 := boxB (B := w10.heap.size) (holds_at HO10.out 1 rfl) zA 0 _ rfl
      have cA1 := boxB (B := w10.heap.size) (holds_at HO10.out 1 rfl) zA 1 _ rfl
      have cA2 := boxB (B := w10.heap.size) (holds_at HO10.out 1 rfl) zA 2 _ rfl
      have cB0 := boxB (B := w10.heap.size) (holds_at HO10.out 0 rfl) zB 0 _ rfl
      have cB1 := boxB (B := w10.heap.size) (holds_at HO10.out 0 rfl) zB 1 _ rfl
      have cB2 := boxB (B := w10.heap.size) (holds_at HO10.out 0 rfl) zB 2 _ rfl
      clear hl hl2 hm hdt hbx hok
      go_upto_region 18 with fail
      refine wp_region_noPanic ?_
      refine wp_region_held_drew (S := fun u => Below w10.heap.size w10 u) (by kernel_rfl) ?_ (fun hHeld => ?_)
      · exact (Below.refl _ _).drew
      refine wpAnyH_take (i := 0) (oi := { dst := some 99, op := Op.load 24 (Operand.tmp 9), type := 24, pos := "law.go:134", after := #[], guard := none }) (v := ?_) rfl (by kernel_rfl) (by kernel_rfl) (by kernel_rfl) (fun _ _ _ h => h) (Or.inl ⟨by rfl, ?_⟩) hHeld ?_
      rotate_left
      · intro u hSw
        have q0 := cP0 u hSw
        have q1 := cP1 u hSw
        have q2 := cP2 u hSw
        go_simp
        try with_reducible rfl
      try simp only [Act.put, List.setIfInBounds_toArray, List.set_cons_zero, List.set_cons_succ]
      refine wpAnyH_take (i := 1) (oi := { dst := some 100, op := Op.move (Operand.tmp 10), type := 28, pos := "law.go:134", after := #[], guard := none }) (v := ?_) rfl (by kernel_rfl) (by kernel_rfl) (by kernel_rfl) (fun _ _ _ h => h) (Or.inl ⟨by rfl, ?_⟩) hHeld ?_
      rotate_left
      · intro u hSw
        go_simp
        try with_reducible rfl
      try simp only [Act.put, List.setIfInBounds_toArray, List.set_cons_zero, List.set_cons_succ]
      refine wpAnyH_take (i := 2) (oi := { dst := some 101, op := Op.load 24 (Operand.tmp 3), type := 24, pos := "law.go:134", after := #[], guard := none }) (v := ?_) rfl (by kernel_rfl) (by kernel_rfl) (by kernel_rfl) (fun _ _ _ h => h) (Or.inl ⟨by rfl, ?_⟩) hHeld ?_
      rotate_left
      · intro u hSw
        have q0 := cA0 u hSw
        have q1 := cA1 u hSw
        have q2 := cA2 u hSw
        go_simp
        try with_reducible rfl
      try simp only [Act.put, List.setIfInBounds_toArray, List.set_cons_zero, List.set_cons_succ]
      refine wpAnyH_take (i := 3) (oi := { dst := some 102, op := Op.load 24 (Operand.tmp 4), type := 24, pos := "law.go:134", after := #[], guard := none }) (v := ?_) rfl (by kernel_rfl) (by kernel_rfl) (by kernel_rfl) (fun _ _ _ h => h) (Or.inl ⟨by rfl, ?_⟩) hHeld ?_
      rotate_left
      · intro u hSw
        have q0 := cB0 u hSw
        have q1 := cB1 u hSw
        have q2 := cB2 u hSw
        go_simp
        try with_reducible rfl
      try simp only [Act.put, List.setIfInBounds_toArray, List.set_cons_zero, List.set_cons_succ]
      refine wpAnyH_ready (rs := [4]) (by kernel_rfl) (by simp) ?_
      refine (AllReadyH.cons (o := { dst := some 103, op := Op.call { callee := Callee.value (Operand.func 14), args := #[Operand.tmp 101, Operand.tmp 102], argTypes := #[24, 24] }, type := 24, pos := "law.go:134", after := #[{ on := 2, ground := Ground.data }, { on := 3, ground := Ground.data }], guard := none }) rfl (fun K hK => ?_) AllReadyH.nil)
      go_simp
      refine Calls.mono (rproduct_F r c d la ca lb cb a b xs ys _ hr hc hd HL.out (by rw [← HLA.out]; exact HL.out) hca (row8_below HX.out (HW10.out.trans (Below.mono (Below.refl w10.heap.size w10).drew HW10.out.size))) HL2.out (by rw [← HLB.out]; exact HL2.out) hcb (row8_below HY.out (HW10.out.trans (Below.mono (Below.refl w10.heap.size w10).drew HW10.out.size)))) ?_
      rintro e wi ⟨gq, mq, rfl, hmq, hgq, hhq, hbi⟩
      have HMQ : Hid (mq = (mulM c d xs ys r).length) := by show mq = _; rw [mulM_len]; exact hmq
      have HHQ : Hid _ := hhq
      have HTi : Hid (Below w10.heap.size w10 wi) := Below.trans (Below.refl w10.heap.size w10).drew (Below.mono hbi (below_size (Below.refl w10.heap.size w10).drew))
      clear hmq hgq hhq hbi
      go_wp2_with fail
      refine hK.out _ _ ?_ (fun hHeld => ?_)
      · exact HTi.out
      clear hK K
      try simp only [Act.put, List.setIfInBounds_toArray, List.set_cons_zero, List.set_cons_succ]
      refine wpAnyH_ready (rs := [5]) (by kernel_rfl) (by simp) ?_
      refine (AllReadyH.cons (o := { dst := some 104, op := Op.call { callee := Callee.value (Operand.func 12), args := #[Operand.tmp 99, Operand.tmp 100, Operand.tmp 103, Operand.const (Value.int IntKind.i64 0)], argTypes := #[24, 28, 24, 3] }, type := 4, pos := "law.go:134", after := #[{ on := 0, ground := Ground.data }, { on := 1, ground := Ground.data }, { on := 4, ground := Ground.data }, { on := 4, ground := Ground.chain }], guard := none }) rfl (fun K hK => ?_) AllReadyH.nil)
      go_simp
      refine Calls.mono (as_ok r d (some ⟨g, 0, none⟩) (some ⟨gq, 0, none⟩) m m mq mq (mulM c d xs ys r) _ HM.out HMQ.out (row8_below (row8_own HD.out) HTi.out) (row8_own HHQ.out)) ?_
      rintro e wj ⟨rfl, hbi⟩
      have HTj : Hid (Below w10.heap.size w10 wj) := Below.trans HTi.out (Below.mono hbi (below_size HTi.out))
      clear hbi
      go_wp2_with fail
      refine hK.out _ _ ?_ (fun hHeld => ?_)
      · exact HTj.out
      clear hK K
      try simp only [Act.put, List.setIfInBounds_toArray, List.set_cons_zero, List.set_cons_succ]
      refine wpAnyH_take (i := 6) (oi := { dst := some 105, op := Op.unOp UnOp.not 4 (Operand.tmp 104), type := 4, pos := "law.go:134", after := #[{ on := 5, ground := Ground.data }], guard := none }) (v := ?_) rfl (by kernel_rfl) (by kernel_rfl) (by kernel_rfl) (fun _ _ _ h => h) (Or.inl ⟨by rfl, ?_⟩) hHeld ?_
      rotate_left
      · intro u hSw
        go_simp
        try with_reducible rfl
      try simp only [Act.put, List.setIfInBounds_toArray, List.set_cons_zero, List.set_cons_succ]
      refine wpAnyH_done (by kernel_rfl) ?_ _
      refine NoPanic.normal ?_
      go_wp2
      go_meet
      exact HTj.out
    · have hbt : b98 = false := by cases hq : b98 with
        | true => exact absurd (H98.out.1 hq) hno
        | false => rfl
      subst hbt
      have c1 := cellAt hbx 0 _ rfl
      have c2 := cellAt hbx 1 _ rfl
      have c3 := cellAt hbx 2 _ rfl
      clear hbx hno
      go_wp2_with fail
      refine Calls.mono (as_shape _ 0 0 none 0 0 _ es s (errsAt_below HE.out HW10.out) HES.out rfl) ?_
      rintro e w11 ⟨rfl, hb⟩
      have HB : Hid _ := hb
      clear hb c1 c2 c3
      go_wp2
      go_meet
      exact HB.out
  case rest =>
  have hB := hcut
  generalize wc = w11 at *
  have HK11 : Hid (AnsP _ _ _ _ _ _ _ _ _ _) := AnsP.later HK10.out hB
  have HT11 : Hid (AnsP _ _ _ _ _ _ _ _ _ _) := AnsP.later HT10.out hB
  have HP11 : Hid (AnsP _ _ _ _ _ _ _ _ _ _) := AnsP.later HP10.out hB
  have HA11 : Hid _ := holds_later HA10.out hB
  have HO11 : Hid _ := holds_later HO10.out hB
  have HW11 : Hid (Below w.heap.size w w11) := HW10.out.trans (hB.mono HW10.out.size)
  have hsz11 := hB.size
  clear hB HA10 HO10 HW10 HK10 HT10 HP10
  clear hcut
  go_upto_if 111 with fail
  go_cut [] (fun wx => Below w11.heap.size w11 wx)
  case first => as_aux_lemma =>
    obtain ⟨N, rfl, ⟨hok, rfl, g, m, hbx, hdt, hm, _⟩ | ⟨hno, rfl, hbx⟩⟩ := HT11.out
    · have hbt : b18 = true := H18.out.2 hok
      subst hbt
      obtain ⟨r, c, rfl, rfl, hr, hc, hl⟩ := hok.nat
      simp only [Int.toNat_natCast] at hdt hm
      have HL : Hid _ := hl
      have HM : Hid _ := hm
      have HD : Hid _ := hdt
      have zP := ltHeap (hbx)
      have cP0 := boxB (B := w11.heap.size) (hbx) zP 0 _ rfl
      have cP1 := boxB (B := w11.heap.size) (hbx) zP 1 _ rfl
      have cP2 := boxB (B := w11.heap.size) (hbx) zP 2 _ rfl
      have zA := ltHeap (holds_at HO11.out 1 rfl)
      have cA0 := boxB (B := w11.heap.size) (holds_at HO11.out 1 rfl) zA 0 _ rfl
      have cA1 := boxB (B := w11.heap.size) (holds_at HO11.out 1 rfl) zA 1 _ rfl
      have cA2 := boxB (B := w11.heap.size) (holds_at HO11.out 1 rfl) zA 2 _ rfl
      clear hl hm hdt hbx hok
      go_upto_region 23 with fail
      refine wp_region_noPanic ?_
      refine wp_region_held_drew (S := fun u => Below w11.heap.size w11 u) (by kernel_rfl) ?_ (fun hHeld => ?_)
      · exact (Below.refl _ _).drew
      refine wpAnyH_take (i := 0) (oi := { dst := some 112, op := Op.load 24 (Operand.tmp 11), type := 24, pos := "law.go:141", after := #[], guard := none }) (v := ?_) rfl (by kernel_rfl) (by kernel_rfl) (by kernel_rfl) (fun _ _ _ h => h) (Or.inl ⟨by rfl, ?_⟩) hHeld ?_
      rotate_left
      · intro u hSw
        have q0 := cP0 u hSw
        have q1 := cP1 u hSw
        have q2 := cP2 u hSw
        go_simp
        try with_reducible rfl
      try simp only [Act.put, List.setIfInBounds_toArray, List.set_cons_zero, List.set_cons_succ]
      refine wpAnyH_take (i := 1) (oi := { dst := some 113, op := Op.move (Operand.tmp 12), type := 28, pos := "law.go:141", after := #[], guard := none }) (v := ?_) rfl (by kernel_rfl) (by kernel_rfl) (by kernel_rfl) (fun _ _ _ h => h) (Or.inl ⟨by rfl, ?_⟩) hHeld ?_
      rotate_left
      · intro u hSw
        go_simp
        try with_reducible rfl
      try simp only [Act.put, List.setIfInBounds_toArray, List.set_cons_zero, List.set_cons_succ]
      refine wpAnyH_take (i := 2) (oi := { dst := some 114, op := Op.load 24 (Operand.tmp 3), type := 24, pos := "law.go:141", after := #[], guard := none }) (v := ?_) rfl (by kernel_rfl) (by kernel_rfl) (by kernel_rfl) (fun _ _ _ h => h) (Or.inl ⟨by rfl, ?_⟩) hHeld ?_
      rotate_left
      · intro u hSw
        have q0 := cA0 u hSw
        have q1 := cA1 u hSw
        have q2 := cA2 u hSw
        go_simp
        try with_reducible rfl
      try simp only [Act.put, List.setIfInBounds_toArray, List.set_cons_zero, List.set_cons_succ]
      refine wpAnyH_ready (rs := [3]) (by kernel_rfl) (by simp) ?_
      refine (AllReadyH.cons (o := { dst := some 115, op := Op.call { callee := Callee.value (Operand.func 15), args := #[Operand.tmp 114], argTypes := #[24] }, type := 24, pos := "law.go:141", after := #[{ on := 2, ground := Ground.data }], guard := none }) rfl (fun K hK => ?_) AllReadyH.nil)
      go_simp
      refine Calls.mono (rtranspose_F r c la ca a xs _ hr hc HL.out (by rw [← HLA.out]; exact HL.out) hca (row8_below HX.out (HW11.out.trans (Below.mono (Below.refl w11.heap.size w11).drew HW11.out.size)))) ?_
      rintro e wi ⟨gq, mq, rfl, hmq, hgq, hhq, hbi⟩
      have HMQ : Hid (mq = (trM r c xs).length) := by show mq = _; rw [trM_len]; exact hmq
      have HHQ : Hid _ := hhq
      have HTi : Hid (Below w11.heap.size w11 wi) := Below.trans (Below.refl w11.heap.size w11).drew (Below.mono hbi (below_size (Below.refl w11.heap.size w11).drew))
      clear hmq hgq hhq hbi
      go_wp2_with fail
      refine hK.out _ _ ?_ (fun hHeld => ?_)
      · exact HTi.out
      clear hK K
      try simp only [Act.put, List.setIfInBounds_toArray, List.set_cons_zero, List.set_cons_succ]
      refine wpAnyH_ready (rs := [4]) (by kernel_rfl) (by simp) ?_
      refine (AllReadyH.cons (o := { dst := some 116, op := Op.call { callee := Callee.value (Operand.func 12), args := #[Operand.tmp 112, Operand.tmp 113, Operand.tmp 115, Operand.const (Value.int IntKind.i64 0)], argTypes := #[24, 28, 24, 3] }, type := 4, pos := "law.go:141", after := #[{ on := 0, ground := Ground.data }, { on := 1, ground := Ground.data }, { on := 3, ground := Ground.data }, { on := 3, ground := Ground.chain }], guard := none }) rfl (fun K hK => ?_) AllReadyH.nil)
      go_simp
      refine Calls.mono (as_ok c r (some ⟨g, 0, none⟩) (some ⟨gq, 0, none⟩) m m mq mq (trM r c xs) _ HM.out HMQ.out (row8_below (row8_own HD.out) HTi.out) (row8_own HHQ.out)) ?_
      rintro e wj ⟨rfl, hbi⟩
      have HTj : Hid (Below w11.heap.size w11 wj) := Below.trans HTi.out (Below.mono hbi (below_size HTi.out))
      clear hbi
      go_wp2_with fail
      refine hK.out _ _ ?_ (fun hHeld => ?_)
      · exact HTj.out
      clear hK K
      try simp only [Act.put, List.setIfInBounds_toArray, List.set_cons_zero, List.set_cons_succ]
      refine wpAnyH_take (i := 5) (oi := { dst := some 117, op := Op.unOp UnOp.not 4 (Operand.tmp 116), type := 4, pos := "law.go:141", after := #[{ on := 4, ground := Ground.data }], guard := none }) (v := ?_) rfl (by kernel_rfl) (by kernel_rfl) (by kernel_rfl) (fun _ _ _ h => h) (Or.inl ⟨by rfl, ?_⟩) hHeld ?_
      rotate_left
      · intro u hSw
        go_simp
        try with_reducible rfl
      try simp only [Act.put, List.setIfInBounds_toArray, List.set_cons_zero, List.set_cons_succ]
      refine wpAnyH_done (by kernel_rfl) ?_ _
      refine NoPanic.normal ?_
      go_wp2
      go_meet
      exact HTj.out
    · have hbt : b18 = false := by cases hq : b18 with
        | true => exact absurd (H18.out.1 hq) hno
        | false => rfl
      subst hbt
      have c1 := cellAt hbx 0 _ rfl
      have c2 := cellAt hbx 1 _ rfl
      have c3 := cellAt hbx 2 _ rfl
      clear hbx hno
      go_wp2_with fail
      refine Calls.mono (as_shape _ 0 0 none 0 0 _ es s (errsAt_below HE.out HW11.out) HES.out rfl) ?_
      rintro e w12 ⟨rfl, hb⟩
      have HB : Hid _ := hb
      clear hb c1 c2 c3
      go_wp2
      go_meet
      exact HB.out
  case rest =>
  have hB := hcut
  generalize wc = w12 at *
  have HK12 : Hid (AnsP _ _ _ _ _ _ _ _ _ _) := AnsP.later HK11.out hB
  have HT12 : Hid (AnsP _ _ _ _ _ _ _ _ _ _) := AnsP.later HT11.out hB
  have HP12 : Hid (AnsP _ _ _ _ _ _ _ _ _ _) := AnsP.later HP11.out hB
  have HA12 : Hid _ := holds_later HA11.out hB
  have HO12 : Hid _ := holds_later HO11.out hB
  have HW12 : Hid (Below w.heap.size w w12) := HW11.out.trans (hB.mono HW11.out.size)
  have hsz12 := hB.size
  clear hB HA11 HO11 HW11 HK11 HT11 HP11
  clear hcut
  go_upto_region 27 with fail
  go_cut [153] (fun s153 wx => (∃ bb : Bool, s153 = .bool bb ∧ (bb = false ↔ ok3 r c la q d lb cols)) ∧ wx = w12)
  case first => as_aux_lemma =>
    clear hca hma hcb hmb hk0 hk1 hsz3 hsz4 hsz5 hsz6 hsz9 hsz10 hsz11 hsz12 zg7
    have no : ∀ (p : Prop), (ok3 r c la q d lb cols → False) → (true = false ↔ ok3 r c la q d lb cols) := fun _ h => by simp only [Bool.true_eq_false, false_iff]; exact h
    have NO : Hid _ := no
    clear no
    cases b17 with
    | false => as_aux_lemma =>
      have HF : Hid (ok3 r c la q d lb cols → False) := fun h => by simpa using H17.out.2 h.1
      go_wp2
      go_meet
      exact ⟨⟨true, rfl, NO.out True HF.out⟩, rfl⟩
    | true => as_aux_lemma =>
      cases b18 with
      | false => as_aux_lemma =>
        have HF : Hid (ok3 r c la q d lb cols → False) := fun h => by simpa using H18.out.2 h.2.1
        go_wp2
        go_meet
        exact ⟨⟨true, rfl, NO.out True HF.out⟩, rfl⟩
      | true => as_aux_lemma =>
        cases b19 with
        | false => as_aux_lemma =>
          have HF : Hid (ok3 r c la q d lb cols → False) := fun h => by simpa using H19.out.2 h.2.2.1
          go_wp2
          go_meet
          exact ⟨⟨true, rfl, NO.out True HF.out⟩, rfl⟩
        | true => as_aux_lemma =>
          have c1 := cellAt (holds_at HO12.out 1 rfl) 1 _ rfl
          have c2 := cellAt (holds_at HO12.out 0 rfl) 1 _ rfl
          have c3 := cellAt (holds_at HO12.out 1 rfl) 0 _ rfl
          have c4 := cellAt (holds_at HO12.out 0 rfl) 0 _ rfl
          by_cases h1 : c = cols
          · have HF1 : Hid (Fm r c la) := H18.out.1 rfl
            have HF2 : Hid (Fm q d lb) := H19.out.1 rfl
            have HF0 : Hid (0 ≤ cols ∧ cols ≤ 64) := H17.out.1 rfl
            by_cases h2 : d = cols
            · obtain ⟨r, c, rfl, rfl, hr, hc, hl⟩ := HF1.out.nat
              obtain ⟨q, d, rfl, rfl, hq, hd, hl2⟩ := HF2.out.nat
              subst h1
              obtain rfl : d = c := by omega
              clear hl hl2
              by_cases h3 : 2 * (r : Int) + (q : Int) ≤ 64
              · have HT : Hid (ok3 (r : Int) (d : Int) la (q : Int) (d : Int) lb (d : Int)) := ⟨HF0.out, HF1.out, HF2.out, rfl, rfl, h3⟩
                have hq3 : decide ((64 : Int) < 2 * (r : Int) + (q : Int)) = false := decide_eq_false (by omega)
                clear h2
                go_wp2
                go_meet
                exact ⟨⟨false, rfl, by simp only [true_iff]; exact HT.out⟩, rfl⟩
              · have HF : Hid (ok3 (r : Int) (d : Int) la (q : Int) (d : Int) lb (d : Int) → False) := fun h => h3 h.2.2.2.2.2
                have hq3 : decide ((64 : Int) < 2 * (r : Int) + (q : Int)) = true := decide_eq_true (by omega)
                clear h2
                go_wp2
                go_meet
                exact ⟨⟨true, rfl, NO.out True HF.out⟩, rfl⟩
            · as_aux_lemma =>
              have HF : Hid (ok3 r c la q d lb cols → False) := fun h => h2 h.2.2.2.2.1
              subst h1
              have hq : (d != c) = true := by simpa [bne_iff_ne] using h2
              clear h2
              go_wp2
              go_meet
              exact ⟨⟨true, rfl, NO.out True HF.out⟩, rfl⟩
          · have HF : Hid (ok3 r c la q d lb cols → False) := fun h => h1 h.2.2.2.1
            have hq : (c != cols) = true := by simpa [bne_iff_ne] using h1
            clear h1
            go_wp2
            go_meet
            exact ⟨⟨true, rfl, NO.out True HF.out⟩, rfl⟩
  case rest =>
  obtain ⟨⟨bb, rfl, hbb⟩, rfl⟩ := hcut
  generalize wc = w12 at *
  have HBB : Hid _ := hbb
  clear hbb
  obtain ⟨N, rfl, ⟨hok, rfl, g, m, hbx, hdt, hm, hgs, _⟩ | ⟨hno, rfl, hbx⟩⟩ := HK12.out
  rotate_left
  · have hbt : bb = true := by cases hq : bb with
      | false => exact absurd (HBB.out.1 hq) hno
      | true => rfl
    subst hbt
    have c1 := cellAt hbx 0 _ rfl
    have c2 := cellAt hbx 1 _ rfl
    have c3 := cellAt hbx 2 _ rfl
    clear hbx hno
    go_wp2_with fail
    refine Calls.mono (as_shape _ 0 0 none 0 0 _ es s (errsAt_below HE.out HW12.out) HES.out rfl) ?_
    rintro e w13 ⟨rfl, hb⟩
    have HB : Hid (Below w.heap.size w w13) := HW12.out.trans (hb.mono HW12.out.size)
    clear hb c1 c2 c3
    go_wp2
    go_ret
    exact ⟨rfl, HB.out⟩
  have hbt : bb = false := HBB.out.2 hok
  subst hbt
  obtain ⟨r, c, rfl, rfl, hr, hc, hl⟩ := hok.2.1.nat
  obtain ⟨q, d, rfl, rfl, hq, hd, hl2⟩ := hok.2.2.1.nat
  have hcc := hok.2.2.2.1
  have hdd := hok.2.2.2.2.1
  have h64 := hok.2.2.2.2.2
  have HFA : Hid (Fm (r : Int) (c : Int) la) := hok.2.1
  subst hcc
  obtain rfl : d = c := by omega
  clear hdd
  have HL : Hid _ := hl
  have HL2 : Hid _ := hl2
  have hl4 : la ≤ 4096 := by rw [hl]; exact Nat.mul_le_mul hr hc
  have hl5 : lb ≤ 4096 := by rw [hl2]; exact Nat.mul_le_mul hq hc
  have HM : Hid _ := hm
  have hm4 : m ≤ 20000 := by rw [hm, List.length_append, List.length_append, ← HLA.out, ← HLB.out]; omega
  have HS12 : Hid _ := holds_cons (holds_cons (holds_nil _) hdt) hbx
  obtain ⟨NT, rfl, ⟨_, rfl, gt, mt, htx, htd, htm, htg, htl⟩ | ⟨hno, _⟩⟩ := HT12.out
  rotate_left
  · exact absurd HFA.out hno
  simp only [Int.toNat_natCast] at htd htm
  have HTT : Hid _ := holds_cons (holds_cons (holds_nil _) htd) htx
  have HTM : Hid _ := htm
  clear hl hl2 hm hdt hbx hok htd htx htm
  have c1 := cellAt (holds_at HO12.out 1 rfl) 0 _ rfl
  have c2 := cellAt (holds_at HO12.out 0 rfl) 0 _ rfl
  obtain ⟨e, he⟩ : ∃ e : Nat, e = 2 * r + q := ⟨_, rfl⟩
  have hei : 2 * (r : Int) + (q : Int) = (e : Int) := by omega
  have HEE : Hid _ := he
  have he64 : e ≤ 64 := by omega
  clear he
  go_upto_region 30 with fail
  have hW := HW12.out.alloc HW12.out.size (.cells #[.int .i64 e, .int .i64 d, .slice none 0 0] 24)
  have HW13 : Hid _ := hW
  have HB13 : Hid _ := (Below.refl w12.heap.size w12).alloc (Nat.le_refl _) (.cells #[.int .i64 e, .int .i64 d, .slice none 0 0] 24)
  have HA13 : Hid _ := holds_alloc HA12.out (.cells #[.int .i64 e, .int .i64 d, .slice none 0 0] 24)
  have HO13 : Hid _ := holds_alloc HO12.out (.cells #[.int .i64 e, .int .i64 d, .slice none 0 0] 24)
  have HP13 : Hid (AnsP _ _ _ _ _ _ _ _ _ _) := AnsP.later HP12.out HB13.out
  have HS13 : Hid _ := holds_alloc HS12.out (.cells #[.int .i64 e, .int .i64 d, .slice none 0 0] 24)
  have HTT13 : Hid _ := holds_alloc HTT.out (.cells #[.int .i64 e, .int .i64 d, .slice none 0 0] 24)
  have HWB : Hid _ := heap_alloc_last w12 (.cells #[.int .i64 e, .int .i64 d, .slice none 0 0] 24)
  have zz := ltHeap (holds_at HO12.out 1 rfl)
  have zz2 := ltHeap (holds_at HO12.out 0 rfl)
  have hz13 : w12.heap.size < (w12.alloc (.cells #[.int .i64 e, .int .i64 d, .slice none 0 0] 24)).heap.size := by simp
  have HBA : Hid _ := HB13.out
  clear hW c1 c2 HT12 HK12 H17 H18 H19 H98 HBB HB13
  generalize (w12.alloc (.cells #[.int .i64 e, .int .i64 d, .slice none 0 0] 24)) = w13 at *
  go_cut [] (fun wx => ∃ aw cw, Below w12.heap.size w13 wx ∧ wx.heap[w12.heap.size]? = some (.cells #[.int .i64 e, .int .i64 d, .slice aw (xs ++ (ys ++ xs)).length cw] 24 (0, 0)) ∧ Row8 wx aw (xs ++ (ys ++ xs)))
  case first => as_aux_lemma =>
    have cA := (fun u (h : Below w12.heap.size w13 u) => cellAt ((h.block _ zz).trans (holds_at HO13.out 1 rfl)) 2 _ rfl)
    have cB := (fun u (h : Below w12.heap.size w13 u) => cellAt ((h.block _ zz2).trans (holds_at HO13.out 0 rfl)) 2 _ rfl)
    have CA : Hid _ := cA
    have CB : Hid _ := cB
    clear cA cB
    have HOW : Hid (w13.drew.ownsRow (w12.heap.size + 1) 5 1 (.slice none 0 0) 0 (([] : List F).map vf)) := ⟨rfl, .inl ⟨rfl, rfl⟩⟩
    refine wp_region_noPanic ?_
    refine wp_region_held_drew (S := fun u => Below w12.heap.size w13 u) (by kernel_rfl) ?_ (fun hHeld => ?_)
    · exact (Below.refl _ _).drew
    refine wpAnyH_take (i := 0) (oi := { dst := some 166, op := Op.fieldAddr 24 (Operand.tmp 20) 2, type := 0, pos := "law.go:151", after := #[], guard := none }) (v := ?_) rfl (by kernel_rfl) (by kernel_rfl) (by kernel_rfl) (fun _ _ _ h => h) (Or.inl ⟨by rfl, ?_⟩) hHeld ?_
    rotate_left
    · intro u hSw
      go_simp
      try with_reducible rfl
    try simp only [Act.put, List.setIfInBounds_toArray, List.set_cons_zero, List.set_cons_succ]
    refine wpAnyH_take (i := 2) (oi := { dst := some 168, op := Op.fieldAddr 24 (Operand.tmp 3) 2, type := 0, pos := "law.go:151", after := #[], guard := none }) (v := ?_) rfl (by kernel_rfl) (by kernel_rfl) (by kernel_rfl) (fun _ _ _ h => h) (Or.inl ⟨by rfl, ?_⟩) hHeld ?_
    rotate_left
    · intro u hSw
      go_simp
      try with_reducible rfl
    try simp only [Act.put, List.setIfInBounds_toArray, List.set_cons_zero, List.set_cons_succ]
    refine wpAnyH_take (i := 3) (oi := { dst := some 169, op := Op.load 22 (Operand.tmp 168), type := 22, pos := "law.go:151", after := #[{ on := 2, ground := Ground.data }], guard := none }) (v := ?_) rfl (by kernel_rfl) (by kernel_rfl) (by kernel_rfl) (fun _ _ _ h => h) (Or.inl ⟨by rfl, ?_⟩) hHeld ?_
    rotate_left
    · intro u hSw
      have q0 := CA.out u hSw
      go_simp
      try with_reducible rfl
    try simp only [Act.put, List.setIfInBounds_toArray, List.set_cons_zero, List.set_cons_succ]
    refine wpAnyH_take (i := 5) (oi := { dst := some 171, op := Op.fieldAddr 24 (Operand.tmp 4) 2, type := 0, pos := "law.go:151", after := #[], guard := none }) (v := ?_) rfl (by kernel_rfl) (by kernel_rfl) (by kernel_rfl) (fun _ _ _ h => h) (Or.inl ⟨by rfl, ?_⟩) hHeld ?_
    rotate_left
    · intro u hSw
      go_simp
      try with_reducible rfl
    try simp only [Act.put, List.setIfInBounds_toArray, List.set_cons_zero, List.set_cons_succ]
    refine wpAnyH_take (i := 6) (oi := { dst := some 172, op := Op.load 22 (Operand.tmp 171), type := 22, pos := "law.go:151", after := #[{ on := 5, ground := Ground.data }], guard := none }) (v := ?_) rfl (by kernel_rfl) (by kernel_rfl) (by kernel_rfl) (fun _ _ _ h => h) (Or.inl ⟨by rfl, ?_⟩) hHeld ?_
    rotate_left
    · intro u hSw
      have q0 := CB.out u hSw
      go_simp
      try with_reducible rfl
    try simp only [Act.put, List.setIfInBounds_toArray, List.set_cons_zero, List.set_cons_succ]
    refine wpAnyH_take (i := 8) (oi := { dst := some 174, op := Op.fieldAddr 24 (Operand.tmp 3) 2, type := 0, pos := "law.go:151", after := #[], guard := none }) (v := ?_) rfl (by kernel_rfl) (by kernel_rfl) (by kernel_rfl) (fun _ _ _ h => h) (Or.inl ⟨by rfl, ?_⟩) hHeld ?_
    rotate_left
    · intro u hSw
      go_simp
      try with_reducible rfl
    try simp only [Act.put, List.setIfInBounds_toArray, List.set_cons_zero, List.set_cons_succ]
    refine wpAnyH_take (i := 9) (oi := { dst := some 175, op := Op.load 22 (Operand.tmp 174), type := 22, pos := "law.go:151", after := #[{ on := 8, ground := Ground.data }], guard := none }) (v := ?_) rfl (by kernel_rfl) (by kernel_rfl) (by kernel_rfl) (fun _ _ _ h => h) (Or.inl ⟨by rfl, ?_⟩) hHeld ?_
    rotate_left
    · intro u hSw
      have q0 := CA.out u hSw
      go_simp
      try with_reducible rfl
    try simp only [Act.put, List.setIfInBounds_toArray, List.set_cons_zero, List.set_cons_succ]
    refine wpAnyH_ready (rs := [1]) (by kernel_rfl) (by simp) ?_
    refine (AllReadyH.cons (o := { dst := some 167, op := Op.load 22 (Operand.tmp 166), type := 22, pos := "law.go:151", after := #[{ on := 0, ground := Ground.data }], guard := none }) rfl (fun K hK => ?_) AllReadyH.nil)
    have q0 := cellAt HWB.out 2 _ rfl
    have q1 := cellAt HWB.out 2 _ rfl
    go_simp
    refine hK.out _ _ ?_ (fun hHeld => ?_)
    · exact (Below.refl w12.heap.size w13).drew
    clear hK K
    try simp only [Act.put, List.setIfInBounds_toArray, List.set_cons_zero, List.set_cons_succ]
    refine wpAnyH_ready (rs := [4]) (by kernel_rfl) (by simp) ?_
    refine (AllReadyH.cons (o := { dst := some 170, op := Op.call { callee := Callee.builtin Builtin.append, args := #[Operand.tmp 167, Operand.tmp 169], argTypes := #[22, 22] }, type := 22, pos := "law.go:151", after := #[{ on := 1, ground := Ground.data }, { on := 3, ground := Ground.data }], guard := none }) rfl (fun K hK => ?_) AllReadyH.nil)
    obtain ⟨v4, wf, hrun, ho7, hgr⟩ := appendB (w := w13.drew) (m := la) (c := ca) (zs := ([] : List F)) (ys := xs) 22 HOW.out HLA.out (by omega) (row8_below HX.out (HW13.out.trans (Below.mono (Below.refl w12.heap.size w13).drew (by omega)))) HNA.out (Nat.le_trans hz13 (below_size (Below.refl w12.heap.size w13).drew))
    rw [Nat.zero_add] at ho7
    obtain ⟨a4, c4, hv7, hr7, hn7, hl7⟩ := ownB_slice ho7
    clear hn7 hl7 hr7
    subst hv7
    have HRun4 : Hid _ := hrun
    have HO4 : Hid _ := (hgr.block w12.heap.size (Nat.lt_of_lt_of_le hz13 (below_size (Below.refl w12.heap.size w13).drew)) (fun e => by have := (World.ownsRow.lt HOW.out _ e.symm).1; omega)).trans HWB.out
    have HB4 : Hid (Below w12.heap.size w13 wf) := below_own (B := w12.heap.size) (Below.refl w12.heap.size w13).drew (own_mono HOW.out (by omega)) hgr (Nat.le_of_lt (Nat.lt_of_lt_of_le hz13 (below_size (Below.refl w12.heap.size w13).drew)))
    have HW4 : Hid _ := ho7
    clear hrun hgr ho7
    refine wanted_append_run rfl _ _ 22 rfl _ _ _ _ rfl rfl HRun4.out ?_
    refine hK.out _ _ ?_ (fun hHeld => ?_)
    · exact HB4.out
    clear hK K
    try simp only [Act.put, List.setIfInBounds_toArray, List.set_cons_zero, List.set_cons_succ]
    refine wpAnyH_ready (rs := [7]) (by kernel_rfl) (by simp) ?_
    refine (AllReadyH.cons (o := { dst := some 173, op := Op.call { callee := Callee.builtin Builtin.append, args := #[Operand.tmp 170, Operand.tmp 172], argTypes := #[22, 22] }, type := 22, pos := "law.go:151", after := #[{ on := 4, ground := Ground.data }, { on := 6, ground := Ground.data }, { on := 4, ground := Ground.chain }], guard := none }) rfl (fun K hK => ?_) AllReadyH.nil)
    obtain ⟨v7, wg, hrun, ho7, hgr⟩ := appendB (w := wf) (m := lb) (c := cb) (zs := (([] : List F) ++ xs)) (ys := ys) 22 HW4.out HLB.out (by omega) (row8_below HY.out (HW13.out.trans (Below.mono HB4.out (by omega)))) HNB.out (Nat.le_trans hz13 (below_size HB4.out))
    skip
    obtain ⟨a7, c7, hv7, hr7, hn7, hl7⟩ := ownB_slice ho7
    clear hn7 hl7 hr7
    subst hv7
    have HRun7 : Hid _ := hrun
    have HO7 : Hid _ := (hgr.block w12.heap.size (Nat.lt_of_lt_of_le hz13 (below_size HB4.out)) (fun e => by have := (World.ownsRow.lt HW4.out _ e.symm).1; omega)).trans HO4.out
    have HB7 : Hid (Below w12.heap.size w13 wg) := below_own (B := w12.heap.size) HB4.out (own_mono HW4.out (by omega)) hgr (Nat.le_of_lt (Nat.lt_of_lt_of_le hz13 (below_size HB4.out)))
    have HW7 : Hid _ := ho7
    clear hrun hgr ho7
    refine wanted_append_run rfl _ _ 22 rfl _ _ _ _ rfl rfl HRun7.out ?_
    refine hK.out _ _ ?_ (fun hHeld => ?_)
    · exact HB7.out
    clear hK K
    try simp only [Act.put, List.setIfInBounds_toArray, List.set_cons_zero, List.set_cons_succ]
    refine wpAnyH_ready (rs := [10]) (by kernel_rfl) (by simp) ?_
    refine (AllReadyH.cons (o := { dst := some 176, op := Op.call { callee := Callee.builtin Builtin.append, args := #[Operand.tmp 173, Operand.tmp 175], argTypes := #[22, 22] }, type := 22, pos := "law.go:151", after := #[{ on := 7, ground := Ground.data }, { on := 9, ground := Ground.data }, { on := 7, ground := Ground.chain }], guard := none }) rfl (fun K hK => ?_) AllReadyH.nil)
    obtain ⟨v10, wh, hrun, ho7, hgr⟩ := appendB (w := wg) (m := la) (c := ca) (zs := ((([] : List F) ++ xs) ++ ys)) (ys := xs) 22 HW7.out HLA.out (by omega) (row8_below HX.out (HW13.out.trans (Below.mono HB7.out (by omega)))) HNA.out (Nat.le_trans hz13 (below_size HB7.out))
    skip
    obtain ⟨a10, c10, hv7, hr7, hn7, hl7⟩ := ownB_slice ho7
    clear hn7 hl7 hr7
    subst hv7
    have HRun10 : Hid _ := hrun
    have HO10 : Hid _ := (hgr.block w12.heap.size (Nat.lt_of_lt_of_le hz13 (below_size HB7.out)) (fun e => by have := (World.ownsRow.lt HW7.out _ e.symm).1; omega)).trans HO7.out
    have HB10 : Hid (Below w12.heap.size w13 wh) := below_own (B := w12.heap.size) HB7.out (own_mono HW7.out (by omega)) hgr (Nat.le_of_lt (Nat.lt_of_lt_of_le hz13 (below_size HB7.out)))
    have HW10 : Hid _ := ho7
    clear hrun hgr ho7
    refine wanted_append_run rfl _ _ 22 rfl _ _ _ _ rfl rfl HRun10.out ?_
    refine hK.out _ _ ?_ (fun hHeld => ?_)
    · exact HB10.out
    clear hK K
    try simp only [Act.put, List.setIfInBounds_toArray, List.set_cons_zero, List.set_cons_succ]
    refine wpAnyH_take (i := 11) (oi := { dst := some 177, op := Op.fieldAddr 24 (Operand.tmp 20) 2, type := 0, pos := "law.go:151", after := #[{ on := 0, ground := Ground.phase }, { on := 1, ground := Ground.phase }, { on := 2, ground := Ground.phase }, { on := 3, ground := Ground.phase }, { on := 4, ground := Ground.phase }, { on := 5, ground := Ground.phase }, { on := 6, ground := Ground.phase }, { on := 7, ground := Ground.phase }, { on := 8, ground := Ground.phase }, { on := 9, ground := Ground.phase }, { on := 10, ground := Ground.phase }], guard := none }) (v := ?_) rfl (by kernel_rfl) (by kernel_rfl) (by kernel_rfl) (fun _ _ _ h => h) (Or.inl ⟨by rfl, ?_⟩) hHeld ?_
    rotate_left
    · intro u hSw
      go_simp
      try with_reducible rfl
    try simp only [Act.put, List.setIfInBounds_toArray, List.set_cons_zero, List.set_cons_succ]
    refine wpAnyH_ready (rs := [12]) (by kernel_rfl) (by simp) ?_
    refine (AllReadyH.cons (o := { dst := none, op := Op.store 22 (Operand.tmp 177) (Operand.tmp 176), type := 0, pos := "law.go:151", after := #[{ on := 11, ground := Ground.data }, { on := 10, ground := Ground.data }, { on := 10, ground := Ground.chain }, { on := 0, ground := Ground.phase }, { on := 1, ground := Ground.phase }, { on := 2, ground := Ground.phase }, { on := 3, ground := Ground.phase }, { on := 4, ground := Ground.phase }, { on := 5, ground := Ground.phase }, { on := 6, ground := Ground.phase }, { on := 7, ground := Ground.phase }, { on := 8, ground := Ground.phase }, { on := 9, ground := Ground.phase }, { on := 10, ground := Ground.phase }], guard := none }) rfl (fun K hK => ?_) AllReadyH.nil)
    have f2 := frozen_of_row _ _ 2 _ _ HO10.out
    have q2 := cellAt HO10.out 2 _ rfl
    go_simp
    refine hK.out _ _ ?_ (fun hHeld => ?_)
    · exact (Below.setCell HB10.out (Nat.le_refl _) _)
    clear hK K
    try simp only [Act.put, List.setIfInBounds_toArray, List.set_cons_zero, List.set_cons_succ]
    refine wpAnyH_done (by kernel_rfl) ?_ _
    refine NoPanic.normal ?_
    go_wp2
    go_meet
    have e1 : (([] : List F) ++ xs ++ ys ++ xs) = xs ++ (ys ++ xs) := by simp
    have e2 : la + lb + la = (xs ++ (ys ++ xs)).length := by rw [List.length_append, List.length_append, ← HLA.out, ← HLB.out]; omega
    have hst := heap_setCell_same _ _ 2 _ _ (Value.slice a10 (la + lb + la) c10) HO10.out
    obtain ⟨a2, cc2, e3, hr2, _⟩ := ownB_slice (own_shift2 (i := 2) (x := Value.slice a10 (la + lb + la) c10) HW10.out (show w12.heap.size < w12.heap.size + 1 by omega))
    cases e3
    rw [e1] at hr2
    rw [← e2]
    exact ⟨a10, c10, Below.setCell HB10.out (Nat.le_refl _) _, hst, hr2⟩
  case rest =>
  obtain ⟨aw, cw, hB, hbw, hrow⟩ := hcut
  generalize wc = w14 at *
  have hb14 := HBA.out.trans hB
  have HW14 : Hid (Below w.heap.size w w14) := HW12.out.trans (hb14.mono HW12.out.size)
  have HROW : Hid (Row8 w14 aw _) := hrow
  have hx0 := holds_later HO12.out hb14
  have hx1 := holds_later HA12.out hb14
  have hx2 := holds_later HS12.out hb14
  have hx3 := holds_later HTT.out hb14
  have hh := holds_cons (holds_cons (holds_cons (holds_cons (holds_cons (holds_cons (holds_cons (holds_nil w14) (holds_at hx3 1 rfl)) (holds_at hx3 0 rfl)) (holds_at hx2 1 rfl)) (holds_at hx2 0 rfl)) (holds_at hx1 1 rfl)) (holds_at hx1 0 rfl)) (holds_at hx0 1 rfl)
  have HH14 : Hid _ := hh
  have HBW : Hid _ := hbw
  obtain ⟨NP, rfl, ⟨hokp, rfl, gp, mp, hpx, hpd, hpm, hpg, hpl⟩ | ⟨_, rfl, hpx⟩⟩ := (AnsP.later HP12.out hb14)
  · simp only [Int.toNat_natCast] at hpd hpm
    have HPM : Hid _ := hpm
    have hpp := holds_cons (holds_cons (holds_nil w14) hpd) hpx
    clear hpm hpd hokp
    have HPP : Hid _ := hpp
    clear hpp hpx hx0 hx1 hx2 hx3 hh hbw hrow hb14 hB HO12 HA12 HS12 HTT HP12 HBA HWB HO13 HA13 HP13 HS13 HTT13 HW13
    have c1 := cellAt (holds_at HH14.out 3 rfl) 0 _ rfl
    have c2 := cellAt (holds_at HH14.out 3 rfl) 1 _ rfl
    have c3 := cellAt (holds_at HH14.out 3 rfl) 2 _ rfl
    have b1 := cellAt HBW.out 0 _ rfl
    have b2 := cellAt HBW.out 1 _ rfl
    have b3 := cellAt HBW.out 2 _ rfl
    rw [hei] at c1
    go_wp2_with fail
    refine Calls.mono (as_ok e d (some ⟨g, 0, none⟩) aw m m _ cw (xs ++ (ys ++ xs)) _ HM.out (by simp) (holds_row HH14.out 4 rfl) HROW.out) ?_
    rintro e9 w15 ⟨rfl, hb⟩
    have HH15 : Hid _ := holds_later HH14.out hb
    have HP15 : Hid _ := holds_later HPP.out hb
    have HW15 : Hid (Below w.heap.size w w15) := HW14.out.trans (hb.mono HW14.out.size)
    clear hb c1 c2 c3 b1 b2 b3 HH14 HPP HW14 HBW HROW
    have c3 := cellAt (holds_at HH15.out 3 rfl) 2 _ rfl
    have p3 := cellAt (holds_at HP15.out 0 rfl) 2 _ rfl
    have hgs8 := has8_full (holds_at HH15.out 4 rfl) (by rw [← HM.out]; simp only [maxLen]; omega)
    rw [← HM.out] at hgs8
    have HG8 : Hid _ := hgs8
    clear hgs8
    have z15 := HW15.out.size
    go_wp2_with fail
    refine Calls.mono (apart_H (some ⟨gp, 0, none⟩) mp mp g m m _ (xs ++ (ys ++ xs)) _ HPM.out HM.out (by omega) (fun w' hg => row8_grown (holds_row HP15.out 1 rfl) hg (ltHeap (holds_at HP15.out 1 rfl)) (by simp; omega)) HG8.out) ?_
    rintro e9 w16 ⟨rfl, hg, _⟩
    have hW := grownBy_below (g := g) HW15.out hg (by omega) z15
    have hh := holds_nil w16
    have hh := holds_cons hh (grown_keep hg (holds_at HH15.out 6 rfl) (by simp; omega))
    have hh := holds_cons hh (grown_keep hg (holds_at HH15.out 5 rfl) (fun ee => kind_ne (holds_at HH15.out 5 rfl) (holds_at HH15.out 4 rfl) (by decide) (Option.some.inj ee)))
    have hh := holds_cons hh (grown_keep hg (holds_at HH15.out 2 rfl) (by simp; omega))
    have hh := holds_cons hh (grown_keep hg (holds_at HH15.out 1 rfl) (fun ee => kind_ne (holds_at HH15.out 1 rfl) (holds_at HH15.out 4 rfl) (by decide) (Option.some.inj ee)))
    have hh := holds_cons hh (grown_keep hg (holds_at HH15.out 0 rfl) (fun ee => kind_ne (holds_at HH15.out 0 rfl) (holds_at HH15.out 4 rfl) (by decide) (Option.some.inj ee)))
    have hp := holds_nil w16
    have hp := holds_cons hp (grown_keep hg (holds_at HP15.out 1 rfl) (by simp; omega))
    have hp := holds_cons hp (grown_keep hg (holds_at HP15.out 0 rfl) (fun ee => kind_ne (holds_at HP15.out 0 rfl) (holds_at HH15.out 4 rfl) (by decide) (Option.some.inj ee)))
    have HH16 : Hid _ := hh
    have HP16 : Hid _ := hp
    have HW16 : Hid (Below w.heap.size w w16) := hW
    have z16 := hW.size
    clear hh hp hW hg HG8 HH15 HP15 c3 p3
    have c3 := cellAt (holds_at HH16.out 3 rfl) 2 _ rfl
    have p3 := cellAt (holds_at HP16.out 0 rfl) 2 _ rfl
    have hp4 : mp ≤ 4096 := by rw [HPM.out, mulM_len]; exact Nat.mul_le_mul hr hc
    have hgs8 := has8_full (holds_at HP16.out 1 rfl) (by rw [← HPM.out]; simp only [maxLen]; omega)
    rw [← HPM.out] at hgs8
    have HG8 : Hid _ := hgs8
    clear hgs8
    go_wp2_with fail
    refine Calls.mono (apart_H (some ⟨gt, 0, none⟩) mt mt gp mp mp _ _ _ HTM.out HPM.out (by omega) (fun w' hg => row8_grown (holds_row HH16.out 4 rfl) hg (ltHeap (holds_at HH16.out 4 rfl)) (by simp; omega)) HG8.out) ?_
    rintro e9 w17 ⟨rfl, hg, _⟩
    have hW := grownBy_below (g := gp) HW16.out hg (by omega) z16
    have hh := holds_nil w17
    have hh := holds_cons hh (grown_keep hg (holds_at HH16.out 2 rfl) (by simp; omega))
    have hh := holds_cons hh (grown_keep hg (holds_at HH16.out 1 rfl) (fun ee => kind_ne (holds_at HH16.out 1 rfl) (holds_at HP16.out 1 rfl) (by decide) (Option.some.inj ee)))
    have hh := holds_cons hh (grown_keep hg (holds_at HH16.out 0 rfl) (fun ee => kind_ne (holds_at HH16.out 0 rfl) (holds_at HP16.out 1 rfl) (by decide) (Option.some.inj ee)))
    have HH17 : Hid _ := hh
    have HW17 : Hid (Below w.heap.size w w17) := hW
    clear hh hW hg HH16 HP16 c3 p3
    have c3 := cellAt (holds_at HH17.out 1 rfl) 2 _ rfl
    have p3 := cellAt (holds_at HH17.out 0 rfl) 2 _ rfl
    go_wp2_with fail
    refine Calls.mono (kept_F g7 la ca a xs _ HLA.out (by omega) hca (holds_at HH17.out 2 rfl) (row8_below HX.out HW17.out)) ?_
    rintro e9 w18 ⟨rfl, hb⟩
    have HW18 : Hid (Below w.heap.size w w18) := HW17.out.trans (hb.mono HW17.out.size)
    clear hb c3 p3
    go_wp2
    go_ret
    exact ⟨rfl, HW18.out⟩
  · have hpp := holds_cons (holds_nil w14) hpx
    have HPP : Hid _ := hpp
    clear hpp hpx hx0 hx1 hx2 hx3 hh hbw hrow hb14 hB HO12 HA12 HS12 HTT HP12 HBA HWB HO13 HA13 HP13 HS13 HTT13 HW13
    have c1 := cellAt (holds_at HH14.out 3 rfl) 0 _ rfl
    have c2 := cellAt (holds_at HH14.out 3 rfl) 1 _ rfl
    have c3 := cellAt (holds_at HH14.out 3 rfl) 2 _ rfl
    have b1 := cellAt HBW.out 0 _ rfl
    have b2 := cellAt HBW.out 1 _ rfl
    have b3 := cellAt HBW.out 2 _ rfl
    rw [hei] at c1
    go_wp2_with fail
    refine Calls.mono (as_ok e d (some ⟨g, 0, none⟩) aw m m _ cw (xs ++ (ys ++ xs)) _ HM.out (by simp) (holds_row HH14.out 4 rfl) HROW.out) ?_
    rintro e9 w15 ⟨rfl, hb⟩
    have HH15 : Hid _ := holds_later HH14.out hb
    have HP15 : Hid _ := holds_later HPP.out hb
    have HW15 : Hid (Below w.heap.size w w15) := HW14.out.trans (hb.mono HW14.out.size)
    clear hb c1 c2 c3 b1 b2 b3 HH14 HPP HW14 HBW HROW
    have c3 := cellAt (holds_at HH15.out 3 rfl) 2 _ rfl
    have p3 := cellAt (holds_at HP15.out 0 rfl) 2 _ rfl
    have hgs8 := has8_full (holds_at HH15.out 4 rfl) (by rw [← HM.out]; simp only [maxLen]; omega)
    rw [← HM.out] at hgs8
    have HG8 : Hid _ := hgs8
    clear hgs8
    have z15 := HW15.out.size
    go_wp2_with fail
    refine Calls.mono (apart_H none 0 0 g m m [] (xs ++ (ys ++ xs)) _ rfl HM.out (by omega) (fun w' hg => .inl rfl) HG8.out) ?_
    rintro e9 w16 ⟨rfl, hg, _⟩
    have hW := grownBy_below (g := g) HW15.out hg (by omega) z15
    have hh := holds_nil w16
    have hh := holds_cons hh (grown_keep hg (holds_at HH15.out 6 rfl) (by simp; omega))
    have hh := holds_cons hh (grown_keep hg (holds_at HH15.out 5 rfl) (fun ee => kind_ne (holds_at HH15.out 5 rfl) (holds_at HH15.out 4 rfl) (by decide) (Option.some.inj ee)))
    have hh := holds_cons hh (grown_keep hg (holds_at HH15.out 2 rfl) (by simp; omega))
    have hh := holds_cons hh (grown_keep hg (holds_at HH15.out 1 rfl) (fun ee => kind_ne (holds_at HH15.out 1 rfl) (holds_at HH15.out 4 rfl) (by decide) (Option.some.inj ee)))
    have hh := holds_cons hh (grown_keep hg (holds_at HH15.out 0 rfl) (fun ee => kind_ne (holds_at HH15.out 0 rfl) (holds_at HH15.out 4 rfl) (by decide) (Option.some.inj ee)))
    have hp := holds_nil w16
    have hp := holds_cons hp (grown_keep hg (holds_at HP15.out 0 rfl) (fun ee => kind_ne (holds_at HP15.out 0 rfl) (holds_at HH15.out 4 rfl) (by decide) (Option.some.inj ee)))
    have HH16 : Hid _ := hh
    have HP16 : Hid _ := hp
    have HW16 : Hid (Below w.heap.size w w16) := hW
    have z16 := hW.size
    clear hh hp hW hg HG8 HH15 HP15 c3 p3
    have c3 := cellAt (holds_at HH16.out 3 rfl) 2 _ rfl
    have p3 := cellAt (holds_at HP16.out 0 rfl) 2 _ rfl
    go_wp2_with fail
    refine Calls.mono (apart_nil (some ⟨gt, 0, none⟩) mt mt _ _ HTM.out (fun w' hg => row8_grown (holds_row HH16.out 4 rfl) hg (ltHeap (holds_at HH16.out 4 rfl)) (by simp))) ?_
    rintro e9 w17 ⟨rfl, hg⟩
    have hW : Below w.heap.size w w17 := HW16.out.trans (Below.mono (⟨hg.os, hg.tape, hg.output, hg.size, fun k hk => hg.block k hk (by simp)⟩ : Below w16.heap.size w16 w17) z16)
    have hh := holds_nil w17
    have hh := holds_cons hh (grown_keep hg (holds_at HH16.out 2 rfl) (by simp))
    have hh := holds_cons hh (grown_keep hg (holds_at HH16.out 1 rfl) (by simp))
    have hh := holds_cons hh (grown_keep hg (holds_at HH16.out 0 rfl) (by simp))
    have HH17 : Hid _ := hh
    have HW17 : Hid (Below w.heap.size w w17) := hW
    clear hh hW hg HH16 HP16 c3 p3
    have c3 := cellAt (holds_at HH17.out 1 rfl) 2 _ rfl
    have p3 := cellAt (holds_at HH17.out 0 rfl) 2 _ rfl
    go_wp2_with fail
    refine Calls.mono (kept_F g7 la ca a xs _ HLA.out (by omega) hca (holds_at HH17.out 2 rfl) (row8_below HX.out HW17.out)) ?_
    rintro e9 w18 ⟨rfl, hb⟩
    have HW18 : Hid (Below w.heap.size w w18) := HW17.out.trans (hb.mono HW17.out.size)
    clear hb c3 p3
    go_wp2
    go_ret
    exact ⟨rfl, HW18.out⟩
end Go.Proofs.YtkmlanolaogaiaaDoor
