/- Texts of package prog: what stands in the surroundings (the error, the table of powers), numbers in decimal, lists of texts that grow, pieces. -/
import Derived.Test.YtbjjmlebpohmcaaDoorStepLay
import Derived.Test.YtbjjmlebpohmcaaDoorStepE
import Derived.Test.YtbjjmlebpohmcaaDoorStepN
import Derived.Test.YtbjjmlebpohmcaaDoorGfApp
import Derived.Lib.LaidTab
namespace Go.Proofs.YtbjjmlebpohmcaaDoor
open Go.RowKit Go.Shelf Gf
set_option linter.unusedVariables false
set_option maxRecDepth 20000
set_option linter.unusedSimpArgs false
theorem Tryd.joinX9 : Go.Proofs.Builder.Extra Tryd.prog Tryd.joinA9_ren := {
  sizeBuilder := by kernel_rfl
  liesBuilder := by kernel_rfl
  t5 := Tryd.underlying5
  a5 := Tryd.isAgg5
  z5 := Tryd.sizeOf5
  v5 := Tryd.zeroValue5
  infoByte := by kernel_rfl
  cellsByte := by kernel_rfl
  sizeByte := by kernel_rfl
  neB5 := by decide }
/-- the table of powers of ten -/
def TabW (w : World) : Prop := Lib.TabIs Tryd.prog w "internal/strconv.uint64pow10" .u64 Lib.pow10Tab
theorem tabW_below {w w' : World} (h : TabW w) (hb : Below w.heap.size w w') : TabW w' := by
  have hg : Tryd.prog.globalNamed "internal/strconv.uint64pow10" = some 3 := by kernel_rfl
  unfold TabW Lib.TabIs World.var? at h ⊢
  rw [hg] at h ⊢
  simp only [Option.bind_some] at h ⊢
  have hlt : 3 < w.heap.size := by
    rcases Nat.lt_or_ge 3 w.heap.size with h' | h'
    · exact h'
    · rw [Array.getElem?_eq_none h'] at h; cases h
  rw [hb.block _ hlt]
  exact h
/-- what calls of package prog lean on: the error and the table -/
structure EnvP (w : World) (s : Addr) : Prop where
  err : w.cell? ⟨0, 0, none⟩ = some (errAt s)
  tab : TabW w
theorem EnvP.below {w w' : World} {s : Addr} (h : EnvP w s) (hb : Below w.heap.size w w') : EnvP w' s := ⟨cell_later hb h.err, tabW_below h.tab hb⟩
theorem strB_data9 (l : List UInt8) : (strB l).data.toList = l := by simp [strB]
theorem itoa9_F (n : Nat) (hn : n ≤ 1000000) (w : World) (ht : TabW w) : Calls Tryd.prog 45 #[.int .i64 n] w fun e w' => e = .returned (.string (strB (Lib.decDigits n))) ∧ Below w.heap.size w w' := by
  refine (Any.strconv_Itoa Tryd.itoaA (n : Int) (by omega) (by omega) w ht).mono ?_
  rintro e w' ⟨rfl, k, os, rfl⟩
  have e1 : Lib.itoa (n : Int) = Lib.decDigits n := by rw [Lib.itoa, if_neg (by omega), Int.toNat_natCast]
  rw [e1]
  exact ⟨rfl, ⟨rfl, rfl, rfl, by show w.heap.size ≤ (w.heap ++ os).size; rw [Array.size_append]; omega, fun j hj => by
    show (w.heap ++ os)[j]? = w.heap[j]?
    rw [Array.getElem?_append_left hj]⟩⟩
theorem join9_F (bk o c : Nat) (xs : List (List UInt8)) (sep : List UInt8) (w : World)
    (hcells : ∀ (j : Nat) x, xs[j]? = some x → w.cell? ⟨bk, o + j, none⟩ = some (.string (strB x))) (hbk : bk < w.heap.size) (hN : xs.length ≤ 140737488355328) (hcap : xs.length ≤ c) (hlen : (Lib.join xs sep).length ≤ 140737488355328) :
    Calls Tryd.prog 34 #[.slice (some ⟨bk, o, none⟩) xs.length c, .string (strB sep)] w fun e w' => e = .returned (.string (strB (Lib.join xs sep))) ∧ Below w.heap.size w w' := by
  have e1 : (xs.map strB).map (·.data.toList) = xs := by
    rw [List.map_map]
    conv => rhs; rw [← List.map_id xs]
    apply List.map_congr_left
    intro x _
    exact strB_data9 x
  have h := Any.strings_Join Tryd.joinA9 Tryd.joinX9 bk o c (xs.map strB) (strB sep) w (fun j x hx => by
    rw [List.getElem?_map, Option.map_eq_some_iff] at hx
    obtain ⟨y, hy, rfl⟩ := hx
    exact hcells j y hy) hbk (by rwa [List.length_map]) (by rwa [List.length_map]) (by rw [e1, strB_data9]; exact hlen)
  rw [e1, strB_data9, List.length_map] at h
  exact h
theorem infoZ : ∃ i, Tryd.prog.info? 9 = some i ∧ i.size = 1 ∧ i.bytes = 16 ∧ i.zero = some (.string ⟨#[]⟩) := by
  have hi : (Tryd.prog.info? 9).map (fun i => (i.size, i.bytes, i.zero)) = some (1, 16, some (.string ⟨#[]⟩)) := by kernel_rfl
  cases hq : Tryd.prog.info? 9 with
  | none => simp [hq] at hi
  | some i =>
    simp only [hq, Option.map_some, Option.some.injEq, Prod.mk.injEq] at hi
    exact ⟨i, rfl, hi.1, hi.2.1, hi.2.2⟩
def zvs (xs : List (List UInt8)) : List Value := xs.map fun x => .string (strB x)
theorem zvs_len (xs : List (List UInt8)) : (zvs xs).length = xs.length := by simp [zvs]
/-- one text more behind a list of texts of one's own -/
theorem appendZ {w : World} {B n b c : Nat} {v : Value} {x : List UInt8} {xs : List (List UInt8)} (ty : TypeId) (ho : w.ownsRow B 9 1 v n (zvs xs)) (hx : w.cell? ⟨b, 0, none⟩ = some (.string (strB x))) (hn : n ≤ 1000000) (hB : B ≤ w.heap.size) :
    ∃ g cap w', (Builtin.append_ #[73, 73] ty #[v, .slice (some ⟨b, 0, none⟩) 1 c]).run Tryd.prog w = .ok (.slice (some ⟨g, 0, none⟩) (n + 1) cap) w' ∧
      w'.ownsRow B 9 1 (.slice (some ⟨g, 0, none⟩) (n + 1) cap) (n + 1) (zvs (xs ++ [x])) ∧ w.grownBy w' v.ownBlock ∧ (v.ownBlock = some g ∨ g = w.heap.size) ∧ g < w'.heap.size := by
  obtain ⟨i, hi, h2, h3, h4⟩ := infoZ
  have e : zvs (xs ++ [x]) = zvs xs ++ [.string (strB x)] := by simp [zvs]
  rw [e]
  exact run_append_lies (P := Tryd.prog) w 73 ty B 9 i _ 1 16 Tryd.underlying73 hi h4 h2 h3 rfl (by decide) v n (zvs xs) ho ⟨b, 0, none⟩ 1 c [.string (strB x)] rfl (news_one hx) (by simp [Value.oneCell']) (by decide) (by simp only [maxLen]; omega) (by omega) hB _ rfl
/-- a new block of texts is a list of one's own -/
theorem ownsZ_new {w : World} {g n : Nat} {xs : List (List UInt8)} (h : w.heap[g]? = some (.cells (zvs xs).toArray 9 (0, 0))) (hn : n = xs.length) (hm : n ≤ 1000) {B : Nat} (hB : B ≤ g) : w.ownsRow B 9 1 (.slice (some ⟨g, 0, none⟩) n n) n (zvs xs) := by
  subst hn
  refine ⟨by rw [zvs_len, Nat.mul_one], .inr ⟨g, xs.length, _, rfl, hB, h, Nat.le_refl _, by simp only [maxLen]; omega, by simp [zvs_len], ?_⟩⟩
  rw [Nat.mul_one, List.toList_toArray]
  exact List.take_of_length_le (by rw [zvs_len]; exact Nat.le_refl _)
theorem ownsZ_cells {w : World} {B n : Nat} {v : Value} {xs : List (List UInt8)} (ho : w.ownsRow B 9 1 v n (zvs xs)) (h1 : 1 ≤ n) : ∃ g cap, v = .slice (some ⟨g, 0, none⟩) n cap ∧ n ≤ cap ∧ n = xs.length ∧ g < w.heap.size ∧ ∀ (j : Nat) x, xs[j]? = some x → w.cell? ⟨g, 0 + j, none⟩ = some (.string (strB x)) := by
  have hl := ho.1
  rw [zvs_len, Nat.mul_one] at hl
  rcases ho.2 with ⟨_, e⟩ | ⟨g, cap, cur, rfl, hB, hg, hle, h5, h6, h7⟩
  · omega
  · refine ⟨g, cap, rfl, hle, hl.symm, ltHeap hg, fun j x hx => ?_⟩
    have hj : j < n := by rw [← hl]; exact (List.getElem?_eq_some_iff.1 hx).1
    refine cellAt hg (0 + j) _ ?_
    rw [Nat.zero_add, ← Array.getElem?_toList, ← List.getElem?_take_of_lt (show j < n * 1 by omega), h7, zvs, List.getElem?_map, hx]
    rfl
/-- a piece: a word, and numbers behind it -/
def numT (x : Int) : List UInt8 := 32 :: Lib.decDigits x.toNat
def pieceB (wd : List UInt8) (ns : List Int) : List UInt8 := wd ++ ns.flatMap numT
theorem piece_join (wd : List UInt8) (ns : List Int) : Lib.join (wd :: ns.map fun x => Lib.decDigits x.toNat) [32] = pieceB wd ns := by
  rw [Lib.join_cons, Lib.joinTail, pieceB, List.map_map, List.flatMap]
  rfl
theorem dec_short {n : Nat} (h : n < 1000) : (Lib.decDigits n).length ≤ 3 := by
  by_cases h1 : n < 10
  · rw [dec_one h1]; simp
  · rw [dec_step (by omega), List.length_append]
    by_cases h2 : n / 10 < 10
    · rw [dec_one h2]; simp
    · rw [dec_step (by omega), List.length_append, dec_one (by omega)]; simp
theorem pieceB_len {wd : List UInt8} : ∀ {ns : List Int}, (∀ x ∈ ns, 0 ≤ x ∧ x < 1000) → (pieceB wd ns).length ≤ wd.length + 4 * ns.length
  | [], _ => by simp [pieceB]
  | x :: ns, h => by
    have h1 := pieceB_len (wd := wd) (ns := ns) (fun y hy => h y (List.mem_cons_of_mem _ hy))
    have h2 := h x List.mem_cons_self
    have h3 := dec_short (n := x.toNat) (by omega)
    simp only [pieceB, List.flatMap_cons, List.length_append, numT, List.length_cons] at h1 ⊢
    omega
set_option maxHeartbeats 8000000 in
theorem piece_F (wd : List UInt8) (l cap : Nat) (a : Option Addr) (ns : List Int) (w : World) (ht : TabW w) (hl : l = ns.length) (hl9 : l ≤ 64) (hcap : l ≤ cap) (hX : RowI w a ns) (hr : ∀ x ∈ ns, 0 ≤ x ∧ x < 1000) (hwd : wd.length ≤ 64) :
    Calls Tryd.prog 32 #[.string (strB wd), .slice a l cap] w fun e w' => e = .returned (.string (strB (pieceB wd ns))) ∧ Below w.heap.size w w' := by
  have HT : Hid (TabW w) := ht
  have HL : Hid (l = ns.length) := hl
  have HX : Hid (RowI w a ns) := hX
  have HR : Hid (∀ x ∈ ns, 0 ≤ x ∧ x < 1000) := hr
  have HWD : Hid (wd.length ≤ 64) := hwd
  have HO0 : Hid ((w.alloc (.cells #[.string (strB wd)] 9)).ownsRow w.heap.size 9 1 (.slice (some ⟨w.heap.size, 0, none⟩) 1 1) 1 (zvs [wd])) := ownsZ_new (n := 1) (xs := [wd]) (heap_alloc_last w (.cells #[.string (strB wd)] 9)) rfl (show (1 : Nat) ≤ 1000 by omega) (Nat.le_refl _)
  have HB0 : Hid (Below w.heap.size w (w.alloc (.cells #[.string (strB wd)] 9))) := (Below.refl _ w).alloc (Nat.le_refl _) _
  clear ht hl hX hr hwd
  go_enter Tryd.func32, Tryd.ntmps32
  go_wp2
  go_loopw [12, 5] (fun i v wr => ∃ j : Nat, j ≤ l ∧ i = .int .i64 j ∧ Below w.heap.size w wr ∧ wr.ownsRow w.heap.size 9 1 v (j + 1) (zvs (wd :: (ns.take j).map fun x => Lib.decDigits x.toNat))) (fun i _ _ => l - (intOf i).toNat)
  case atStart => exact ⟨0, by omega, rfl, HB0.out, HO0.out⟩
  case round =>
    obtain ⟨j, hj, rfl, hb, ho⟩ := hrel
    have HB : Hid (Below w.heap.size w wr) := hb
    have HO : Hid (wr.ownsRow w.heap.size 9 1 _ (j + 1) (zvs (wd :: (ns.take j).map fun x => Lib.decDigits x.toNat))) := ho
    clear hb ho
    by_cases hlt : j < l
    · have hin : j < ns.length := by rw [← HL.out]; exact hlt
      obtain ⟨b, off, rfl, hbl, hc⟩ := rowI_cell (rowI_below HX.out HB.out) hin
      have c1 := hc j hin
      rw [show ns.getD j 0 = ns[j] by simp [List.getD, hin]] at c1
      obtain ⟨x, hx⟩ := Int.eq_ofNat_of_zero_le (HR.out _ (List.getElem_mem hin)).1
      have hx9 : x < 1000 := by have := (HR.out _ (List.getElem_mem hin)).2; omega
      have HTK : Hid (ns.take (j + 1) = ns.take j ++ [(x : Int)]) := by show _ = _; rw [← hx]; exact List.take_succ_eq_append_getElem hin
      rw [hx] at c1
      clear hc hx hin
      go_wp2_with fail
      refine Calls.mono (itoa9_F x (by omega) _ (tabW_below HT.out HB.out)) ?_
      rintro e w2 ⟨rfl, hb2⟩
      have HB2 : Hid (Below w.heap.size w w2) := HB.out.trans (hb2.mono HB.out.size)
      have HO2 : Hid _ := own_below HO.out hb2
      have hB3 := HB2.out.alloc HB2.out.size (.cells #[.string (strB (Lib.decDigits x))] 9)
      have ho3 := own_below HO2.out ((Below.refl _ w2).alloc (Nat.le_refl _) (.cells #[.string (strB (Lib.decDigits x))] 9))
      have hc3 := cellAt (heap_alloc_last w2 (.cells #[.string (strB (Lib.decDigits x))] 9)) 0 _ rfl
      obtain ⟨g, cp, w4, hap, ho4, hg4, hor, hlt4⟩ := appendZ (c := 1) 73 ho3 hc3 (by omega) hB3.size
      have HB4 : Hid (Below w.heap.size w w4) := below_own hB3 ho3 hg4 hB3.size
      have HO4 : Hid (w4.ownsRow w.heap.size 9 1 (.slice (some ⟨g, 0, none⟩) (j + 1 + 1) cp) (j + 1 + 1) (zvs (wd :: (ns.take (j + 1)).map fun x => Lib.decDigits x.toNat))) := by
        rw [HTK.out]
        have e : (wd :: (ns.take j ++ [(x : Int)]).map fun x => Lib.decDigits x.toNat) = (wd :: (ns.take j).map fun x => Lib.decDigits x.toNat) ++ [Lib.decDigits x] := by simp
        rw [e]; exact ho4
      have HAP : Hid _ := hap
      clear hb2 hB3 ho3 hc3 ho4 hg4 hor hap
      go_wp2_with (at_builtin; refine wpList_append_run rfl _ _ 73 rfl _ _ _ _ rfl rfl HAP.out ?_)
      exact ⟨⟨j + 1, by omega, by go_num, HB4.out, HO4.out⟩, by simp [intOf]; omega⟩
    · obtain rfl : j = l := by omega
      have hfull : ns.take j = ns := by rw [HL.out, List.take_length]
      have ho := HO.out
      rw [hfull] at ho
      obtain ⟨g, cp, rfl, hcp, hln, hgl, hcells⟩ := ownsZ_cells ho (by omega)
      have HJ : Hid _ := join9_F g 0 cp (wd :: ns.map fun x => Lib.decDigits x.toNat) [32] wr hcells hgl (by rw [← hln]; omega) (by rw [← hln]; exact hcp) (by
        rw [piece_join]
        have := pieceB_len (wd := wd) HR.out
        have := HWD.out
        have := HL.out
        omega)
      rw [piece_join, ← hln] at HJ
      clear hfull ho hcells hln hcp
      go_wp2_with fail
      refine Calls.mono HJ.out ?_
      rintro e w2 ⟨rfl, hb2⟩
      have HB2 : Hid (Below w.heap.size w w2) := HB.out.trans (hb2.mono HB.out.size)
      clear hb2
      go_wp2
      go_ret
      exact ⟨rfl, HB2.out⟩
end Go.Proofs.YtbjjmlebpohmcaaDoor
