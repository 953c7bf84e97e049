/- What stepsFit and Check of package prog answer, of all programs. -/
import Derived.Test.YtkoakingmnjdoaaGreatDoorMatA
import Derived.LaidLaws
import Derived.MakeChecks
import Derived.LaidEql
import Derived.Test.YtkoakingmnjdoaaGreatDoorMatSq
import Derived.Test.YtkoakingmnjdoaaGreatDoorMatT
import Derived.Test.YtkoakingmnjdoaaGreatDoorMatAl
import Derived.Test.YtkoakingmnjdoaaGreatDoorHolds
import Derived.Test.YtkoakingmnjdoaaGreatDoorGfRefW
import Derived.Test.YtkoakingmnjdoaaGreatDoorMatTake
import Derived.Test.YtkoakingmnjdoaaGreatDoorRegHeld
import Derived.Test.YtkoakingmnjdoaaGreatDoorNumApart
import Derived.Laws.OwnMore
import Derived.Test.YtkoakingmnjdoaaGreatDoorMatRow
import Derived.Test.YtkoakingmnjdoaaGreatDoorStepC
/- What the named variables of package api hold, by the rows' condition: errors, each of a block of its own. -/
namespace Go.Proofs.YtkoakingmnjdoaaGreatDoor
open Go.RowKit Go.ChangeShapes
set_option linter.unusedVariables false
set_option maxRecDepth 20000
theorem cellsES : Tryz.prog.cellsOf 249 = 1 := by kernel_rfl
theorem cellsStr : Tryz.prog.cellsOf 9 = 1 := by kernel_rfl
theorem starES : "*" ++ "errors.errorString" = "*errors.errorString" := by decide
theorem rowES (u : TypeId) (h : Tryz.prog.typeName? 3 u = some "*errors.errorString") : u = 191 :=
  typeName_ptr_named (nm := "errors.errorString") (by rw [starES]; kernel_rfl) (by kernel_rfl) (by decide) u (by rw [starES]; exact h)
/-- an error's datum -/
def errD (text : List UInt8) : DataW Unit := .iface "*errors.errorString" (.ptr (.agg [.lit (.string text)]))
def ErrsAt (W : World) (gs : List Nat) (es : List Addr) : Prop :=
  gs.length = es.length ∧ es.Nodup ∧ ∀ (k g : Nat) (a : Addr), gs[k]? = some g → es[k]? = some a → W.cell? ⟨g, 0, none⟩ = some (errAt a) ∧ ∃ c t, W.heap[a.block]? = some (.cells c t (0, 0))
theorem errs_go {W : World} : ∀ (laid : List (String × DataW Unit)) (gs : List Nat) (ps : List MemPlace), DataW.LaidVars Tryz.prog W laid ps → ps.Nodup →
    (∀ b off, MemPlace.cell b off ∈ ps → (∃ c t, W.heap[b]? = some (.cells c t (0, 0))) ∧ ∀ u v, W.cell? ⟨b, off, none⟩ = some (.iface u v) → Value.okWide Tryz.prog W .any 0 u v) →
    laid.map (fun x => Tryz.prog.globalNamed x.1) = gs.map some → (∀ g ∈ gs, (Tryz.prog.globals[g]?).map (·.type) = some 32) → (∀ x ∈ laid, ∃ text, x.2 = errD text) →
    ∃ es : List Addr, gs.length = es.length ∧ es.Nodup ∧ (∀ a ∈ es, MemPlace.cell a.block a.off ∈ ps) ∧ ∀ (k g : Nat) (a : Addr), gs[k]? = some g → es[k]? = some a → W.cell? ⟨g, 0, none⟩ = some (errAt a) ∧ ∃ c t, W.heap[a.block]? = some (.cells c t (0, 0))
  | [], [], _, _, _, _, _, _, _ => ⟨[], rfl, List.nodup_nil, fun a h => by simp at h, fun k g a h => by simp at h⟩
  | [], _ :: _, _, _, _, _, h, _, _ => by simp at h
  | _ :: _, [], _, _, _, _, h, _, _ => by simp at h
  | (n, d) :: r, g :: gs, ps, hv, hnd, hrows, hn, ht, hd => by
    obtain ⟨text, hdd⟩ := hd _ List.mem_cons_self
    simp only at hdd
    subst hdd
    obtain ⟨g0, t0, cs0, f0, p0, q0, hg0, ht0, hv0, hd0, hq, rfl⟩ := hv
    simp only [List.map_cons, List.cons.injEq] at hn
    obtain rfl := Option.some.inj (hg0.symm.trans hn.1)
    obtain rfl := Option.some.inj (ht0.symm.trans (ht _ List.mem_cons_self))
    obtain ⟨l0⟩ := cs0
    have ok0 : ∀ u v, l0 = [.iface u v] → Value.okWide Tryz.prog W .any 0 u v := fun u v e => by
      subst e
      exact (hrows g0 0 (by simp [MemPlace.row])).2 u v (by simpa using World.var?_cell hg0 hv0 0)
    obtain ⟨a0, s0, rfl, hc0, hs0, hz0, rfl⟩ := errorString_of_trod Tryz.underlying32 rowES Tryz.underlying191 Tryz.underlying249 rfl rfl Tryz.underlying9 cellsES cellsStr hd0 ok0
    have hndq : q0.Nodup := List.Nodup.sublist (List.sublist_append_right _ _) hnd
    obtain ⟨es, h1, h2, h3, h4⟩ := errs_go r gs q0 hq hndq (fun b off hm => hrows b off (List.mem_append_right _ hm)) hn.2 (fun g hg => ht g (List.mem_cons_of_mem _ hg)) (fun x hx => hd x (List.mem_cons_of_mem _ hx))
    have hm0 : MemPlace.cell a0.block a0.off ∈ MemPlace.row ⟨g0, 0, none⟩ (Array.mk [Value.iface 191 (.pointer (some a0))]).size ++ MemPlace.row a0 1 := by simp [MemPlace.row]
    refine ⟨a0 :: es, by simp [h1], List.nodup_cons.2 ⟨fun hin => ?_, h2⟩, fun a ha => ?_, fun k g a hk ha => ?_⟩
    · exact (List.nodup_append.1 hnd).2.2 _ hm0 _ (h3 _ hin) rfl
    · rcases List.mem_cons.1 ha with rfl | ha
      · exact List.mem_append_left _ hm0
      · exact List.mem_append_right _ (h3 _ ha)
    · cases k with
      | zero =>
        simp only [List.getElem?_cons_zero, Option.some.injEq] at hk ha
        subst hk ha
        exact ⟨by simpa [errAt] using World.var?_cell hg0 hv0 0, (hrows a0.block a0.off (List.mem_append_left _ hm0)).1⟩
      | succ k => exact h4 k g a (by simpa using hk) (by simpa using ha)
theorem errs_of_laid {W : World} {laid : List (String × DataW Unit)} {gs : List Nat} (h : laidMetH Tryz.prog laid W) (hp : (laid.all fun x => x.2.handleName?.isNone) = true)
    (hn : laid.map (fun x => Tryz.prog.globalNamed x.1) = gs.map some) (ht : ∀ g ∈ gs, (Tryz.prog.globals[g]?).map (·.type) = some 32) (hd : ∀ x ∈ laid, ∃ text, x.2 = errD text) : ∃ es, ErrsAt W gs es := by
  rw [MakeChecks.laidMetH_plain _ _ _ hp] at h
  obtain ⟨ps, hv, hnd, hrows⟩ := h
  obtain ⟨es, h1, h2, _, h4⟩ := errs_go laid gs ps hv hnd hrows hn ht hd
  exact ⟨es, h1, h2, h4⟩
theorem errs_at {W : World} {gs : List Nat} {es : List Addr} (h : ErrsAt W gs es) (k g : Nat) (hk : gs[k]? = some g) : ∃ a, es[k]? = some a ∧ W.cell? ⟨g, 0, none⟩ = some (errAt a) ∧ ∃ c t, W.heap[a.block]? = some (.cells c t (0, 0)) := by
  have hlt : k < es.length := by
    rw [← h.1]; exact (List.getElem?_eq_some_iff.1 hk).1
  exact ⟨es[k], List.getElem?_eq_getElem hlt, h.2.2 k g _ hk (List.getElem?_eq_getElem hlt)⟩
theorem errsAt_below {w w' : World} {gs : List Nat} {es : List Addr} (h : ErrsAt w gs es) (hb : Below w.heap.size w w') : ErrsAt w' gs es :=
  ⟨h.1, h.2.1, fun k g a hk ha => by
    obtain ⟨h1, c, t, h2⟩ := h.2.2 k g a hk ha
    exact ⟨(hb.cell (p := ⟨g, 0, none⟩) (by simpa using World.block_lt_of_cell? w _ h1)).trans h1, c, t, heap_later h2 hb⟩⟩
theorem infoPtr : ∃ i, Tryz.prog.info? 191 = some i ∧ i.comparable = true := by
  have h : (Tryz.prog.info? 191).map (·.comparable) = some true := by kernel_rfl
  cases hq : Tryz.prog.info? 191 with
  | none => simp [hq] at h
  | some i => simp only [hq, Option.map_some, Option.some.injEq] at h; exact ⟨i, rfl, h⟩
theorem infoES : ∃ j, Tryz.prog.info? 249 = some j ∧ j.size ≠ 0 := by
  have h : (Tryz.prog.info? 249).map (·.size) = some 1 := by kernel_rfl
  cases hq : Tryz.prog.info? 249 with
  | none => simp [hq] at h
  | some i => simp only [hq, Option.map_some, Option.some.injEq] at h; exact ⟨i, rfl, by omega⟩
/-- one error held against itself -/
theorem eq_same (w : World) (a : Addr) : (binOp .eql 32 (.iface 191 (.pointer (some a))) (.iface 191 (.pointer (some a)))).run Tryz.prog w = .ok (.bool true) w := by
  obtain ⟨i, h1, h2⟩ := infoPtr
  obtain ⟨j, h3, _⟩ := infoES
  exact run_eql_iface_ptr_same w a Tryz.underlying32 Tryz.underlying191 h1 h2 h3
theorem eq_other {w : World} {a b : Addr} {ca cb : Array Value} {ta tb : TypeId} (hne : a ≠ b) (ha : w.heap[a.block]? = some (.cells ca ta (0, 0))) (hb : w.heap[b.block]? = some (.cells cb tb (0, 0))) :
    (binOp .eql 32 (.iface 191 (.pointer (some a))) (.iface 191 (.pointer (some b)))).run Tryz.prog w = .ok (.bool false) w := by
  obtain ⟨i, h1, h2⟩ := infoPtr
  obtain ⟨j, h3, h4⟩ := infoES
  exact run_eql_iface_ptr_other w Tryz.underlying32 Tryz.underlying191 h1 h2 h3 h4 hne ha hb
end Go.Proofs.YtkoakingmnjdoaaGreatDoor

/- What the document's own One, Transpose and Product of package mat's chapter answer, of all matrices in form; nothing that was there turns. -/
namespace Go.Proofs.YtkoakingmnjdoaaGreatDoor
open Go.RowKit Gf
set_option linter.unusedVariables false
set_option maxRecDepth 20000
/-- a grid, made row by row, as far as place j of row i -/
def gridP (c : Nat) (f : Nat → Nat → F) (r i j : Nat) : List F := grid c (fun a b => if a < i ∨ a = i ∧ b < j then f a b else 0) r
theorem gridP_len (c : Nat) (f : Nat → Nat → F) (r i j : Nat) : (gridP c f r i j).length = r * c := grid_len _ _ _
theorem gridP_zero (c : Nat) (f : Nat → Nat → F) (r : Nat) : zeros (r * c) = gridP c f r 0 0 := by rw [zeros_grid]; exact grid_congr fun i j _ _ => by rw [if_neg (by omega)]
theorem gridP_done (c : Nat) (f : Nat → Nat → F) (r : Nat) : gridP c f r r 0 = grid c f r := grid_congr fun a b h _ => by rw [if_pos (by omega)]
theorem gridP_row (c : Nat) (f : Nat → Nat → F) (r i : Nat) : gridP c f r i c = gridP c f r (i + 1) 0 := grid_congr fun a b _ h => by
  by_cases e : a < i + 1
  · rw [if_pos (by omega), if_pos (by omega)]
  · rw [if_neg (by omega), if_neg (by omega)]
theorem gridP_step {c r i j : Nat} {f : Nat → Nat → F} (hi : i < r) (hj : j < c) : (gridP c f r i j).set (i * c + j) (f i j) = gridP c f r i (j + 1) := by
  rw [gridP, grid_set hi hj]
  refine grid_congr fun a b ha hb => ?_
  by_cases e : a = i ∧ b = j
  · rw [if_pos e, if_pos (by omega), e.1, e.2]
  · rw [if_neg e]
    by_cases e2 : a < i ∨ a = i ∧ b < j
    · rw [if_pos e2, if_pos (by omega)]
    · rw [if_neg e2, if_neg (by omega)]
theorem grownBy_drewN {w w' : World} {r : Option Nat} (h : w.grownBy w' r) : ∀ n, w.grownBy (w'.drewN n) r
  | 0 => h
  | n + 1 => grownBy_drew (grownBy_drewN h n)
theorem row8_get {w : World} {a : Option Addr} {xs : List F} {j : Nat} (h : Row8 w a xs) (hj : j < xs.length) : ∃ b off, a = some ⟨b, off, none⟩ ∧ b < w.heap.size ∧ ∀ i, i < xs.length → w.cell? ⟨b, off + i, none⟩ = some (.int .u8 ((at8 xs i).toNat : Int)) := by
  rcases h with e | ⟨b, off, rfl, h⟩
  · rw [e] at hj; simp at hj
  · have := World.block_lt_of_cell? w _ (h j hj)
    exact ⟨b, off, rfl, by simpa using this, h⟩
set_option maxHeartbeats 4000000 in
theorem rproduct_F (r n c la ca lb cb : Nat) (a b : Option Addr) (xs ys : List F) (w : World) (hr : r ≤ 64) (hn : n ≤ 64) (hc : c ≤ 64) (hla : la = r * n) (hx : xs.length = r * n) (hca : la ≤ ca) (hX : Row8 w a xs)
    (hlb : lb = n * c) (hy : ys.length = n * c) (hcb : lb ≤ cb) (hY : Row8 w b ys) :
    Calls Tryz.prog 39 #[.agg #[.int .i64 r, .int .i64 n, .slice a la ca], .agg #[.int .i64 n, .int .i64 c, .slice b lb cb]] w fun e w' => ∃ g m, e = .returned (.agg #[.int .i64 r, .int .i64 c, .slice (some ⟨g, 0, none⟩) m m]) ∧ m = r * c ∧ w.heap.size ≤ g ∧
      w'.heap[g]? = some (.cells (vfs (mulM n c xs ys r)) 5 (0, 0)) ∧ Below w.heap.size w w' := by
  have HLA : Hid _ := hla
  have HLB : Hid _ := hlb
  have HX : Hid _ := hx
  have HY : Hid _ := hy
  have HRX : Hid (Row8 w a xs) := hX
  have HRY : Hid (Row8 w b ys) := hY
  clear hla hlb hx hy hX hY
  go_enter Tryz.func39, Tryz.ntmps39
  go_wp2_with fail
  refine Calls.mono (rzero_F r c _ hr hc) ?_
  rintro e w2 ⟨g, m, rfl, hm, hg, hh, hb2⟩
  have hA := holds_later (holds_new (holds_new (holds_new (holds_nil w) #[.int .i64 r, .int .i64 n, .slice a la ca] 73) #[.int .i64 n, .int .i64 c, .slice b lb cb] 73) #[.int .i64 0, .int .i64 0, .slice none 0 0] 73) hb2
  rw [World.size_alloc, World.size_alloc] at hA
  have z0 := ltHeap (holds_at hA 0 rfl)
  have zg : g < w2.heap.size := ltHeap hh
  simp only [World.size_alloc] at hg
  have HM : Hid _ := hm
  have HB' : Hid (Below w.heap.size w w2) := ((((Below.refl w.heap.size w).alloc (Nat.le_refl _) _).alloc (by simp) _).alloc (by simp; omega) _).trans (hb2.mono (by simp; omega))
  have hA := holds_new (holds_cons hA hh) #[.int .i64 r, .int .i64 c, .slice (some ⟨g, 0, none⟩) m m] 73
  have HA : Hid _ := hA
  have B4 : Hid (Below w.heap.size w (w2.alloc (.cells #[.int .i64 r, .int .i64 c, .slice (some ⟨g, 0, none⟩) m m] 73))) := HB'.out.alloc (by omega) _
  clear hm hh hb2 hA HB'
  go_wp2
  generalize hM : w2.heap.size = M at *
  generalize (w2.alloc (.cells #[.int .i64 r, .int .i64 c, .slice (some ⟨g, 0, none⟩) m m] 73)) = W3 at *
  clear hM
  go_loopw [6] (fun i wr => ∃ k : Nat, k ≤ r ∧ i = .int .i64 k ∧ W3.grownBy wr (some g) ∧ wr.heap[g]? = some (.cells (vfs (gridP c (fun i j => sumF (fun l => gm (at8 xs (i * n + l)) (at8 ys (l * c + j))) n) r k 0)) 5 (0, 0))) (fun i _ => r - (intOf i).toNat)
  case atStart => exact ⟨0, by omega, rfl, World.grownBy.refl _ _, by rw [← gridP_zero]; exact holds_at HA.out 1 rfl⟩
  case round =>
    obtain ⟨k, hk, rfl, hgb, hs⟩ := hrel
    have HGB : Hid _ := hgb
    have HS : Hid _ := hs
    have c1 := cellAt (grown_block hgb (holds_at HA.out 4 rfl) (by omega)) 0 _ rfl
    by_cases hlt : k < r
    · clear hgb hs
      go_wp2
      go_loopw [7] (fun i wq => ∃ j : Nat, j ≤ c ∧ i = .int .i64 j ∧ W3.grownBy wq (some g) ∧ wq.heap[g]? = some (.cells (vfs (gridP c (fun i j => sumF (fun l => gm (at8 xs (i * n + l)) (at8 ys (l * c + j))) n) r k j)) 5 (0, 0))) (fun i _ => c - (intOf i).toNat)
      case atStart => exact ⟨0, by omega, rfl, HGB.out, HS.out⟩
      case round =>
        obtain ⟨j, hj, rfl, hgb, hs⟩ := hrel
        have HGB2 : Hid _ := hgb
        have HS2 : Hid _ := hs
        have c2 := cellAt (grown_block hgb (holds_at HA.out 3 rfl) (by omega)) 1 _ rfl
        by_cases hltj : j < c
        · clear hgb hs
          go_wp2
          go_loopw [8, 9] (fun v i wv => ∃ l : Nat, l ≤ n ∧ i = .int .i64 l ∧ v = .int .u8 (sumF (fun l => gm (at8 xs (k * n + l)) (at8 ys (l * c + j))) l).toNat ∧ W3.grownBy wv (some g) ∧ wv.heap[g]? = some (.cells (vfs (gridP c (fun i j => sumF (fun l => gm (at8 xs (i * n + l)) (at8 ys (l * c + j))) n) r k j)) 5 (0, 0))) (fun _ i _ => n - (intOf i).toNat)
          case atStart => exact ⟨0, by omega, rfl, rfl, HGB2.out, HS2.out⟩
          case round =>
            obtain ⟨l, hl, rfl, rfl, hgb, hs⟩ := hrel
            have HGB3 : Hid _ := hgb
            have HS3 : Hid _ := hs
            have c3 := cellAt (grown_block hgb (holds_at HA.out 4 rfl) (by omega)) 1 _ rfl
            by_cases hltl : l < n
            · have c4 := cellAt (grown_block hgb (holds_at HA.out 4 rfl) (by omega)) 2 _ rfl
              have c5 := cellAt (grown_block hgb (holds_at HA.out 3 rfl) (by omega)) 1 _ rfl
              have c6 := cellAt (grown_block hgb (holds_at HA.out 3 rfl) (by omega)) 2 _ rfl
              obtain ⟨p, hp⟩ : ∃ p, p = k * n := ⟨_, rfl⟩
              obtain ⟨q, hq⟩ : ∃ q, q = l * c := ⟨_, rfl⟩
              have h1 := place_lt (c := n) hlt hltl
              have h2 := place_lt (c := c) hltl hltj
              have m1 : (k : Int) * (n : Int) = (p : Int) := by rw [hp]; simp
              have m2 : (l : Int) * (c : Int) = (q : Int) := by rw [hq]; simp
              have e1 : p + l < la := by rw [hp, HLA.out]; exact h1
              have e2 : q + j < lb := by rw [hq, HLB.out]; exact h2
              have n1 : la ≤ 4096 := by have := mul_small hr hn; have := HLA.out; have e : (r : Int) * (n : Int) = ((r * n : Nat) : Int) := by simp
                                        omega
              have n2 : lb ≤ 4096 := by have := mul_small hn hc; have := HLB.out; have e : (n : Int) * (c : Int) = ((n * c : Nat) : Int) := by simp
                                        omega
              obtain ⟨b1, o1, rfl, hb1, f1⟩ := row8_get HRX.out (show p + l < xs.length by rw [HX.out, ← HLA.out]; exact e1)
              obtain ⟨b2, o2, rfl, hb2, f2⟩ := row8_get HRY.out (show q + j < ys.length by rw [HY.out, ← HLB.out]; exact e2)
              have hbw := below_grown B4.out hgb (by omega)
              have c7 := cell_later hbw (f1 (p + l) (by rw [HX.out, ← HLA.out]; exact e1))
              have c8 := cell_later hbw (f2 (q + j) (by rw [HY.out, ← HLB.out]; exact e2))
              have ex := xor_val (sumF (fun l => gm (at8 xs (k * n + l)) (at8 ys (l * c + j))) l) (gm (at8 xs (p + l)) (at8 ys (q + j)))
              have HT : Hid (ga (sumF (fun l => gm (at8 xs (k * n + l)) (at8 ys (l * c + j))) l) (gm (at8 xs (p + l)) (at8 ys (q + j))) = sumF (fun l => gm (at8 xs (k * n + l)) (at8 ys (l * c + j))) (l + 1)) := by rw [hp, hq]; rfl
              clear hgb hs f1 f2 hp hq h1 h2 hbw
              go_wp2
              go_quiet ((go_at_call 64; exact Calls.quiet_of_eq (rmul_F _ _ _)))
              go_wp2
              exact ⟨⟨l + 1, by omega, by go_num, by rw [HT.out], grownBy_drewN HGB3.out _, by rw [World.heap_drewN]; exact HS3.out⟩, by simp [intOf]; omega⟩
            · obtain rfl : l = n := by omega
              have c4 := cellAt (grown_block hgb (holds_at HA.out 0 rfl) (by omega)) 2 _ rfl
              have c5 := cellAt (grown_block hgb (holds_at HA.out 3 rfl) (by omega)) 1 _ rfl
              obtain ⟨p, hp⟩ : ∃ p, p = k * c := ⟨_, rfl⟩
              have h1 := place_lt (c := c) hlt hltj
              have m1 : (k : Int) * (c : Int) = (p : Int) := by rw [hp]; simp
              have e1 : p + j < m := by rw [hp, HM.out]; exact h1
              have n1 : m ≤ 4096 := by have := mul_small hr hc; have := HM.out; have e : (r : Int) * (c : Int) = ((r * c : Nat) : Int) := by simp
                                       omega
              have c6 : wr.cell? ⟨g, p + j, none⟩ = some (.int .u8 ((at8 (gridP c (fun i j => sumF (fun l' => gm (at8 xs (i * l + l')) (at8 ys (l' * c + j))) l) r k j) (p + j)).toNat : Int)) := cellAt hs _ _ (vfs_get _ _ (by rw [gridP_len, ← HM.out]; exact e1))
              have c7 : wr.frozen? ⟨g, p + j, none⟩ = false := frozen_of_row _ _ _ _ _ hs
              have HT : Hid _ := gridP_step (f := fun i j => sumF (fun l' => gm (at8 xs (i * l + l')) (at8 ys (l' * c + j))) l) hlt hltj
              have HP : Hid _ := hp
              clear hgb hs hp h1
              go_wp2
              refine ⟨⟨j + 1, by omega, by go_num, grownBy_setCell HGB3.out _, ?_⟩, by simp [intOf]; omega⟩
              rw [heap_setCell_same _ _ _ _ _ _ HS3.out, vfs_set, ← HT.out, HP.out]
        · obtain rfl : j = c := by omega
          rw [gridP_row] at hs
          have HS4 : Hid _ := hs
          clear hgb hs
          go_wp2
          exact ⟨⟨k + 1, by omega, by go_num, HGB2.out, HS4.out⟩, by simp [intOf]; omega⟩
    · obtain rfl : k = r := by omega
      rw [gridP_done] at hs
      have HS2 : Hid _ := hs
      have k0 := grown_block hgb (holds_at HA.out 0 rfl) (by omega)
      have k1 := grown_block hgb (holds_at HA.out 2 rfl) (by omega)
      have c2 := cellAt k0 0 _ rfl
      have c3 := cellAt k0 1 _ rfl
      have c7 := cellAt k0 2 _ rfl
      have c4 := cellAt k1 0 _ rfl
      have c5 := cellAt k1 1 _ rfl
      have c6 := cellAt k1 2 _ rfl
      have d4 : wr.frozen? ⟨w.heap.size + 1 + 1, 0, none⟩ = false := frozen_of_row _ _ _ _ _ k1
      have d5 : wr.frozen? ⟨w.heap.size + 1 + 1, 1, none⟩ = false := frozen_of_row _ _ _ _ _ k1
      have d6 : wr.frozen? ⟨w.heap.size + 1 + 1, 2, none⟩ = false := frozen_of_row _ _ _ _ _ k1
      clear k0 k1 hgb hs
      go_wp2
      refine bodyPost_ret (v := .agg #[.int .i64 k, .int .i64 c, .slice (some ⟨g, 0, none⟩) m m]) (by simp [results, Tryz.results39, go_sem, c4, c5, c6]) rfl ⟨g, m, rfl, HM.out, by omega, ?_, ?_⟩
      · rw [heap_setCell_other _ _ _ _ (by show g ≠ w.heap.size + 1 + 1; omega), heap_setCell_other _ _ _ _ (by show g ≠ w.heap.size + 1 + 1; omega), heap_setCell_other _ _ _ _ (by show g ≠ w.heap.size + 1 + 1; omega)]
        exact HS2.out
      · exact (((below_grown B4.out HGB.out (by omega)).setCell (by simp; omega) _).setCell (by simp; omega) _).setCell (by simp; omega) _
end Go.Proofs.YtkoakingmnjdoaaGreatDoor

/- What the document's own Of and Row of package mat's chapter answer; nothing that was there turns. -/
namespace Go.Proofs.YtkoakingmnjdoaaGreatDoor
open Go.RowKit Gf
set_option linter.unusedVariables false
set_option maxRecDepth 20000
/-- bytes laid behind a list of one's own, whatever they are -/
theorem appendB {w : World} {B n m c : Nat} {v : Value} {zs ys : List F} {a : Option Addr} (ty : TypeId) (ho : w.ownsRow B 5 1 v n (zs.map vf)) (hm : m = ys.length) (hb : n + m ≤ 1000000) (hy : Row8 w a ys) (hnil : a = none → c = 0) (hB : B ≤ w.heap.size) :
    ∃ v' w', (Builtin.append_ #[23, 23] ty #[v, .slice a m c]).run Tryz.prog w = .ok v' w' ∧ w'.ownsRow B 5 1 v' (n + m) ((zs ++ ys).map vf) ∧ w.grownBy w' v.ownBlock := by
  obtain ⟨i, hi, h1, h2, h3⟩ := info8
  rcases hy with rfl | ⟨b, off, rfl, hy⟩
  · obtain rfl : m = 0 := hm
    cases a with
    | none =>
      obtain rfl := hnil rfl
      refine ⟨v, w, ?_, by simpa using ho, grownBy_refl _ _⟩
      rcases ho.2 with ⟨rfl, rfl⟩ | ⟨g, cap, cur, rfl, _, hg, hle, _⟩
      · simp [Builtin.append_, run_underlying Tryz.underlying23, sizeOf, typeInfo, hi, Builtin.lenOf, Builtin.firstCells]
      · simp [Builtin.append_, run_underlying Tryz.underlying23, sizeOf, typeInfo, hi, Builtin.lenOf, Builtin.firstCells, loadCells, hle, storeCells]
    | some ad =>
      obtain ⟨v', w', h4, h5, h6, _⟩ := run_append_own_at (P := Tryz.prog) w B 23 ty 5 i _ 1 1 Tryz.underlying23 hi h3 h1 h2 rfl (by decide) v n _ ho ad 0 c [] rfl (fun j u h => by simp at h) (fun u h => by cases h) (by simp only [maxLen]; omega) (by omega) hB
      exact ⟨v', w', h4, by simpa using h5, h6⟩
  · obtain ⟨v', w', h4, h5, h6, _⟩ := run_append_own_at (P := Tryz.prog) w B 23 ty 5 i _ 1 1 Tryz.underlying23 hi h3 h1 h2 rfl (by decide) v n _ ho ⟨b, off, none⟩ m c (ys.map vf) (by rw [List.length_map]; omega)
      (fun j u hv => by
        simp only [List.getElem?_map, Option.map_eq_some_iff] at hv
        obtain ⟨x, hx1, rfl⟩ := hv
        have hj : j < ys.length := (List.getElem?_eq_some_iff.1 hx1).1
        have e : at8 ys j = x := by simp [at8, hx1]
        have hadd : (⟨b, off, none⟩ : Addr).add j = ⟨b, off + j, none⟩ := by unfold Addr.add; split <;> simp_all
        rw [hadd, hy j hj, e]; rfl) (fun u hv => by
        simp only [List.mem_map] at hv
        obtain ⟨x, _, rfl⟩ := hv
        rfl) (by simp only [maxLen]; omega) (by omega) hB
    exact ⟨v', w', h4, by rw [List.map_append]; exact h5, h6⟩
theorem ownB_slice {w : World} {B n : Nat} {v : Value} {zs : List F} (ho : w.ownsRow B 5 1 v n (zs.map vf)) : ∃ a cap, v = .slice a n cap ∧ Row8 w a zs ∧ n = zs.length ∧ (a = none → cap = 0) := by
  have hl := ho.1
  rw [List.length_map] at hl
  rcases ho.2 with ⟨rfl, e⟩ | ⟨g, cap, cur, rfl, h2⟩
  · exact ⟨none, 0, by rw [e], .inl (List.eq_nil_of_length_eq_zero (by omega)), by omega, fun _ => rfl⟩
  · refine ⟨_, _, rfl, .inr ⟨g, 0, rfl, fun j hj => ?_⟩, by omega, fun h => by cases h⟩
    rw [Nat.zero_add, ho.cellAt j (by omega), List.getElem?_map, List.getElem?_eq_getElem hj]
    simp [at8, hj, vf]
theorem own_mono {w : World} {B B' size n : Nat} {v : Value} {e : TypeId} {xs : List Value} (h : w.ownsRow B e size v n xs) (hb : B' ≤ B) : w.ownsRow B' e size v n xs :=
  ⟨h.1, h.2.imp id fun ⟨g, cap, cur, h1, h2, h3⟩ => ⟨g, cap, cur, h1, Nat.le_trans hb h2, h3⟩⟩
theorem rows_cap_later {w w' : World} {a : Option Addr} {L : List (List F)} (hX : Rows8 w a L) (hb : Below w.heap.size w w')
    (hcp : ∀ b off, a = some ⟨b, off, none⟩ → ∀ j n a' cap', w.cell? ⟨b, off + j, none⟩ = some (.slice a' n cap') → j < L.length → a' = none → cap' = 0) :
    ∀ b off, a = some ⟨b, off, none⟩ → ∀ j n a' cap', w'.cell? ⟨b, off + j, none⟩ = some (.slice a' n cap') → j < L.length → a' = none → cap' = 0 := by
  intro b off e j n a' cap' hc hj ha
  rcases hX with e0 | ⟨b2, off2, e2, hrows⟩
  · rw [e0] at hj; simp at hj
  · rw [e] at e2
    cases e2
    obtain ⟨a1, cap1, h1, _⟩ := hrows j _ (List.getElem?_eq_getElem hj)
    have h2 := cell_later hb h1
    rw [hc] at h2
    simp only [Option.some.injEq, Value.slice.injEq] at h2
    obtain ⟨q1, q2, q3⟩ := h2
    rw [q3]
    exact hcp b off e j _ a1 cap1 h1 hj (by rw [← q1]; exact ha)
end Go.Proofs.YtkoakingmnjdoaaGreatDoor

/- Facts for the statement MatPlaces: refusals of Take, two lists apart, the document's own Row, an append in a drawn region. -/
namespace Go.Proofs.YtkoakingmnjdoaaGreatDoor
open Go.RowKit Gf
set_option linter.unusedVariables false
set_option maxRecDepth 20000
set_option maxHeartbeats 1000000 in
theorem take_bad (r c : Int) (a an : Option Addr) (l cap ln cn : Nat) (w : World) (s : Addr) (hs : w.cell? ⟨4, 0, none⟩ = some (errAt s)) (h : ¬ (0 ≤ r ∧ r ≤ 64 ∧ 0 ≤ c ∧ c ≤ 64 ∧ (l : Int) = r * c)) :
    Calls Tryz.prog 89 #[.agg #[.int .i64 r, .int .i64 c, .slice a l cap], .slice an ln cn] w fun e w' => e = .returned (.tuple #[.agg #[.int .i64 0, .int .i64 0, .slice none 0 0], errAt s]) ∧ Below w.heap.size w w' := by
  have hlt := World.block_lt_of_cell? w _ hs
  simp at hlt
  have H : Hid _ := h
  clear h
  have HS : Hid _ := cell?_alloc_old (.cells #[.int .i64 0, .int .i64 0, .slice none 0 0] 73) (cell?_alloc_old (.cells #[.int .i64 r, .int .i64 c, .slice a l cap] 73) hs)
  unfold errAt at *
  go_enter Tryz.func89, Tryz.ntmps89
  go_wp2_with fail
  refine Calls.mono (check_bad r c a l cap _ _ HS.out H.out) ?_
  rintro e w1 ⟨rfl, hb1⟩
  have k1 := heap_later (heap_alloc2_new w (.cells #[.int .i64 r, .int .i64 c, .slice a l cap] 73) (.cells #[.int .i64 0, .int .i64 0, .slice none 0 0] 73)) hb1
  have c4 := cellAt k1 0 _ rfl
  have c5 := cellAt k1 1 _ rfl
  have c6 := cellAt k1 2 _ rfl
  have d4 : w1.frozen? ⟨w.heap.size + 1, 0, none⟩ = false := frozen_of_row _ _ _ _ _ k1
  have d5 : w1.frozen? ⟨w.heap.size + 1, 1, none⟩ = false := frozen_of_row _ _ _ _ _ k1
  have d6 : w1.frozen? ⟨w.heap.size + 1, 2, none⟩ = false := frozen_of_row _ _ _ _ _ k1
  have c9 := cell_later hb1 HS.out
  have HB1 : Hid (Below w.heap.size w w1) := (((Below.refl w.heap.size w).alloc (Nat.le_refl _) _).alloc (by simp) _).trans (hb1.mono (by simp; omega))
  clear hb1 k1
  go_wp2
  go_region
  go_wp2
  refine bodyPost_ret (v := .tuple #[.agg #[.int .i64 0, .int .i64 0, .slice none 0 0], .iface 191 (.pointer (some s))]) (by simp [results, Tryz.results89, go_sem, c4, c5, c6]) rfl ⟨rfl, ?_⟩
  exact (((HB1.out.setCell (by simp) _).setCell (by simp) _).setCell (by simp) _).drew
set_option maxHeartbeats 1000000 in
theorem take_long (r c : Nat) (a an : Option Addr) (l cap ln cn : Nat) (w : World) (s : Addr) (hs : w.cell? ⟨4, 0, none⟩ = some (errAt s)) (hr : r ≤ 64) (hc : c ≤ 64) (hl : l = r * c) (hn : 64 < ln) :
    Calls Tryz.prog 89 #[.agg #[.int .i64 r, .int .i64 c, .slice a l cap], .slice an ln cn] w fun e w' => e = .returned (.tuple #[.agg #[.int .i64 0, .int .i64 0, .slice none 0 0], errAt s]) ∧ Below w.heap.size w w' := by
  have hlt := World.block_lt_of_cell? w _ hs
  simp at hlt
  have HL : Hid _ := hl
  clear hl
  have HS : Hid _ := cell?_alloc_old (.cells #[.int .i64 0, .int .i64 0, .slice none 0 0] 73) (cell?_alloc_old (.cells #[.int .i64 r, .int .i64 c, .slice a l cap] 73) hs)
  unfold errAt at *
  go_enter Tryz.func89, Tryz.ntmps89
  go_wp2_with fail
  refine Calls.mono (check_ok r c a l cap _ hr hc HL.out) ?_
  rintro e w1 ⟨rfl, hb1⟩
  have k1 := heap_later (heap_alloc2_new w (.cells #[.int .i64 r, .int .i64 c, .slice a l cap] 73) (.cells #[.int .i64 0, .int .i64 0, .slice none 0 0] 73)) hb1
  have c4 := cellAt k1 0 _ rfl
  have c5 := cellAt k1 1 _ rfl
  have c6 := cellAt k1 2 _ rfl
  have d4 : w1.frozen? ⟨w.heap.size + 1, 0, none⟩ = false := frozen_of_row _ _ _ _ _ k1
  have d5 : w1.frozen? ⟨w.heap.size + 1, 1, none⟩ = false := frozen_of_row _ _ _ _ _ k1
  have d6 : w1.frozen? ⟨w.heap.size + 1, 2, none⟩ = false := frozen_of_row _ _ _ _ _ k1
  have c9 := cell_later hb1 HS.out
  have HB1 : Hid (Below w.heap.size w w1) := (((Below.refl w.heap.size w).alloc (Nat.le_refl _) _).alloc (by simp) _).trans (hb1.mono (by simp; omega))
  clear hb1 k1
  go_wp2
  go_region
  go_wp2
  refine bodyPost_ret (v := .tuple #[.agg #[.int .i64 0, .int .i64 0, .slice none 0 0], .iface 191 (.pointer (some s))]) (by simp [results, Tryz.results89, go_sem, c4, c5, c6]) rfl ⟨rfl, ?_⟩
  exact (((HB1.out.setCell (by simp) _).setCell (by simp) _).setCell (by simp) _).drew

theorem wanted_append_run {P : Program} {w : World} {o : Oper} {a : Act} {K : Act → World → Prop} {Q : Exit → Act → World → Prop} {ys : Nat → Option Bool} {L : Prop} (hgd : o.guard = none) (s x : Operand) (t : TypeId)
    (ho : o.op = .call { callee := .builtin .append, args := #[s, x], argTypes := #[t, t] }) (v u r : Value) (w' : World) (hs : a.eval s = v) (hx : a.eval x = u)
    (hr : (Builtin.append_ #[t, t] o.type #[v, u]).run P w = .ok r w') (h : K (a.put o.dst r) w') : if Region.wanted o ys = true then Oper.wp P o a w K Q else L := by
  rw [if_pos (by simp [Region.wanted, hgd])]
  unfold Oper.wp execOp
  simp only [ho, resolve, invoke, builtin, Sem.run_bind, Sem.run_pure, Result.andThen_ok, List.map_toArray, List.map_cons, List.map_nil, hs, hx, hr]
  exact h
theorem kind_ne {w : World} {a b : Nat} {cs ds : Array Value} {t u : TypeId} {f1 f2 : Nat × Nat} (h1 : w.heap[a]? = some (.cells cs t f1)) (h2 : w.heap[b]? = some (.cells ds u f2)) (h : t ≠ u) : a ≠ b := fun e => by
  subst e; rw [h1] at h2; cases h2; exact h rfl
theorem grown_some {w w' : World} (g : Nat) (h : w.grownBy w' none) : w.grownBy w' (some g) := ⟨h.os, h.tape, h.output, h.size, fun k hk _ => h.block k hk (by simp)⟩
theorem grown_keep {w w' : World} {r : Option Nat} {k : Nat} {o : Obj} (h : w.grownBy w' r) (hk : w.heap[k]? = some o) (hne : some k ≠ r) : w'.heap[k]? = some o := (h.block k (Array.getElem?_eq_some_iff.1 hk).1 hne).trans hk

theorem has8_take {w : World} {g cap : Nat} {xs : List F} (h : Has8 w g xs cap) (m : Nat) : Has8 w g (xs.take m) cap := by
  obtain ⟨cur, hg, hs, hl, hm, ht⟩ := h
  refine ⟨cur, hg, hs, by rw [List.length_take]; omega, hm, ?_⟩
  rw [List.map_take, ← ht, List.take_take, List.length_take]
theorem row8_grown {w w' : World} {r : Option Nat} {g : Nat} {xs : List F} (h : Row8 w (some ⟨g, 0, none⟩) xs) (hb : w.grownBy w' r) (hg : g < w.heap.size) (hne : some g ≠ r) : Row8 w' (some ⟨g, 0, none⟩) xs := by
  rcases h with e | ⟨b, off, e, h⟩
  · exact .inl e
  · cases e
    refine .inr ⟨g, 0, rfl, fun j hj => ?_⟩
    rw [← h j hj]
    simp only [World.cell?, hb.block g hg hne]
theorem append8_both {w : World} {g n cap : Nat} {xs ys : List F} {ad : Addr} {m c : Nat} (ty : TypeId) (h : Has8 w g xs cap) (hn : n = xs.length) (hm : m = ys.length) (hb : n + m ≤ 140737488355328)
    (hy : ∀ j, j < ys.length → w.cell? (ad.add j) = some (.int .u8 ((at8 ys j).toNat : Int))) :
    ∃ g' cap' w', (Builtin.append_ #[23, 23] ty #[.slice (some ⟨g, 0, none⟩) n cap, .slice (some ad) m c]).run Tryz.prog w = .ok (.slice (some ⟨g', 0, none⟩) (n + m) cap') w' ∧
      Has8 w' g' (xs ++ ys) cap' ∧ w.grownBy w' (some g) ∧ (g' = g ∨ w.heap.size ≤ g' ∧ w.grownBy w' none) := by
  by_cases hroom : n + m ≤ cap
  · subst hn hm
    obtain ⟨i, hi, h1, h2, h3⟩ := info8
    obtain ⟨cur, hg, hs, hl, hmx, ht⟩ := h
    have hown : w.ownsRow 0 5 1 (.slice (some ⟨g, 0, none⟩) xs.length cap) xs.length (xs.map vf) :=
      ⟨by simp, .inr ⟨g, cap, cur, rfl, Nat.zero_le _, hg, hl, hmx, by omega, by rw [Nat.mul_one]; exact ht⟩⟩
    obtain ⟨w', hrun, ho, hgr⟩ := run_append_fits (P := Tryz.prog) w 0 23 ty 5 i 1 Tryz.underlying23 hi h1 g xs.length cap _ hown ad ys.length c (ys.map vf) (by simp) (fun j v hv => by
        simp only [List.getElem?_map, Option.map_eq_some_iff] at hv
        obtain ⟨x, hx1, rfl⟩ := hv
        have hj : j < ys.length := (List.getElem?_eq_some_iff.1 hx1).1
        have e : at8 ys j = x := by simp [at8, hx1]
        rw [hy j hj, e]; rfl) (fun v hv => by
        simp only [List.mem_map] at hv
        obtain ⟨x, _, rfl⟩ := hv
        rfl) hroom
    rcases ho.2 with ⟨hv, _⟩ | ⟨g', cap', cur', hv, _, hg', hl', hm', hs', ht'⟩
    · cases hv
    · cases hv
      exact ⟨g, cap, w', hrun, ⟨cur', hg', by omega, by simpa using hl', hm', by rw [List.length_append, List.map_append, ← ht', Nat.mul_one]⟩, hgr, .inl rfl⟩
  · obtain ⟨g', cap', w', h1, h2, h3, h4⟩ := append8_grows (cap := cap) (m := m) (c := c) ty (row8_has h) hn hm (by omega) hb hy
    exact ⟨g', cap', w', h1, h2, ⟨h3.os, h3.tape, h3.output, h3.size, fun k hk _ => h3.block k hk (by simp)⟩, .inr ⟨h4, h3⟩⟩
/-- the second list nil -/
theorem append8_nil (w : World) {ys : List F} {ad : Addr} {m c : Nat} (ty : TypeId) (hm : m = ys.length) (h0 : 0 < m) (hb : m ≤ 140737488355328)
    (hy : ∀ j, j < ys.length → w.cell? (ad.add j) = some (.int .u8 ((at8 ys j).toNat : Int))) :
    ∃ g' cap' w', (Builtin.append_ #[23, 23] ty #[.slice none 0 0, .slice (some ad) m c]).run Tryz.prog w = .ok (.slice (some ⟨g', 0, none⟩) m cap') w' ∧
      Has8 w' g' ys cap' ∧ w.grownBy w' none ∧ w.heap.size ≤ g' := by
  subst hm
  obtain ⟨i, hi, h1, h2, h3⟩ := info8
  obtain ⟨v', w', hrun, ho, hgr, hnil, hat⟩ := run_append_own_at (P := Tryz.prog) w w.heap.size 23 ty 5 i _ 1 1 Tryz.underlying23 hi h3 h1 h2 rfl (by decide)
    (.slice none 0 0) 0 [] ⟨rfl, .inl ⟨rfl, rfl⟩⟩ ad ys.length c (ys.map vf) (by simp) (fun j v hv => by
      simp only [List.getElem?_map, Option.map_eq_some_iff] at hv
      obtain ⟨x, hx1, rfl⟩ := hv
      have hj : j < ys.length := (List.getElem?_eq_some_iff.1 hx1).1
      have e : at8 ys j = x := by simp [at8, hx1]
      rw [hy j hj, e]; rfl) (fun v hv => by
      simp only [List.mem_map] at hv
      obtain ⟨x, _, rfl⟩ := hv
      rfl) (by simp only [maxLen]; omega) (by omega) (Nat.le_refl _)
  rcases ho.2 with ⟨hv, hn⟩ | ⟨g', cap', cur', hv, hg, hg', hl', hm', hs', ht'⟩
  · have := (hnil.1 hv).2
    omega
  · subst hv
    refine ⟨g', cap', w', by rw [hrun, Nat.zero_add], ⟨cur', hg', by omega, by simpa using hl', hm', ?_⟩, hgr, hg⟩
    rw [← List.nil_append (ys.map vf), ← ht', Nat.mul_one, Nat.zero_add]
set_option maxHeartbeats 1000000 in
theorem rrow_some (r c i b off l cap : Nat) (xs : List F) (w : World) (hr : r ≤ 64) (hc : c ≤ 64) (hi : i < r) (hl : l = r * c) (hx : xs.length = r * c) (hcap : l ≤ cap) (hX : Row8 w (some ⟨b, off, none⟩) xs) :
    Calls Tryz.prog 53 #[.agg #[.int .i64 r, .int .i64 c, .slice (some ⟨b, off, none⟩) l cap], .int .i64 i] w fun e w' => ∃ g cap', e = .returned (.slice (some ⟨g, 0, none⟩) c cap') ∧ w.heap.size ≤ g ∧ Has8 w' g (rowAt c xs i) cap' ∧ Below w.heap.size w w' := by
  obtain ⟨m0, m1⟩ := mul_small (r := i) (c := c) (by omega) hc
  have m5 : i * c + c ≤ l := by
    have := Nat.mul_le_mul_right c (show i + 1 ≤ r from hi)
    rw [Nat.succ_mul] at this; omega
  have hl6 : l ≤ 4096 := by have := mul_small hr hc; have e : (r : Int) * (c : Int) = ((r * c : Nat) : Int) := by simp
                            omega
  have m4 : (i : Int) * (c : Int) = ((i * c : Nat) : Int) := by simp
  have m3 : ((i : Int) + 1) * (c : Int) = ((i * c : Nat) : Int) + (c : Int) := by rw [Int.add_mul, Int.one_mul, m4]
  have hrow : Row8 w (some ⟨b, rof off (i * c) cap, none⟩) (rowAt c xs i) := by
    rcases hX with e | ⟨b2, off2, e, h⟩
    · left
      rw [e]; simp [rowAt]
    · cases e
      exact row8_rowAt hx hi (by omega) h
  have hlen := rowAt_len hx hi
  generalize hp : i * c = p at m3 m4 m5 hrow ⊢
  rw [m4] at m0 m1
  have hh := heap_alloc_last (w.alloc (.cells #[.int .i64 r, .int .i64 c, .slice (some ⟨b, off, none⟩) l cap] 73)) (.cells #[] 5)
  obtain ⟨g', cap', w2, h1, h2, h3, h4⟩ := append8_new (g := w.heap.size + 1) (m := c) (c := cap - p) (a := some ⟨b, rof off p cap, none⟩) (ys := rowAt c xs i) 23 (by simpa using hh) hlen.symm (by omega) (row8_alloc (row8_alloc hrow _) _) (fun h => by cases h)
  have HR : Hid _ := h1
  have H2 : Hid _ := h2
  have HB : Hid (Below w.heap.size w w2) := grownBy_below (g := w.heap.size + 1) ((((Below.refl _ _).alloc (Nat.le_refl _) _).alloc (by simp) _)) ⟨h3.os, h3.tape, h3.output, h3.size, fun k hk _ => h3.block k hk (by simp)⟩ (by omega) (by simp; omega)
  have hg : w.heap.size ≤ g' := by
    rcases h4 with rfl | h4
    · omega
    · simp at h4; omega
  clear h1 h2 h3 h4 hh hX hrow hlen hp hl hx
  by_cases h : cap = p
  · subst h
    rw [rof_same] at HR
    have h0 : cap - cap = 0 := Nat.sub_self _
    rw [h0] at HR
    go_enter Tryz.func53, Tryz.ntmps53
    go_wp2_with (at_builtin; refine wpList_append_run rfl _ _ 23 rfl _ _ _ _ rfl ?_ HR.out ?_)
    · simp only [Nat.add_sub_cancel_left]
      rfl
    · go_wp2
      go_ret
      exact ⟨g', cap', rfl, hg, H2.out, HB.out⟩
  · rw [rof_room h] at HR
    go_enter Tryz.func53, Tryz.ntmps53
    go_wp2_with (at_builtin; refine wpList_append_run rfl _ _ 23 rfl _ _ _ _ rfl ?_ HR.out ?_)
    · simp only [Nat.add_sub_cancel_left]
      rfl
    · go_wp2
      go_ret
      exact ⟨g', cap', rfl, hg, H2.out, HB.out⟩

set_option maxHeartbeats 1000000 in
theorem rrow_nil (r i cap : Nat) (a : Option Addr) (w : World) (hi : i < 64) (hnil : a = none → cap = 0) :
    Calls Tryz.prog 53 #[.agg #[.int .i64 r, .int .i64 0, .slice a 0 cap], .int .i64 i] w fun e w' => ∃ g cap', e = .returned (.slice (some ⟨g, 0, none⟩) 0 cap') ∧ w.heap.size ≤ g ∧ Has8 w' g [] cap' ∧ Below w.heap.size w w' := by
  have hh := heap_alloc_last (w.alloc (.cells #[.int .i64 r, .int .i64 0, .slice a 0 cap] 73)) (.cells #[] 5)
  rw [World.size_alloc] at hh
  obtain ⟨g', cap', w2, h1, h2, h3, h4⟩ := append8_new (m := 0) (c := cap) (a := a) (ys := []) 23 hh rfl (by omega) (.inl rfl) hnil
  have HR : Hid _ := h1
  have H2 : Hid _ := h2
  have HB : Hid (Below w.heap.size w w2) := grownBy_below (g := w.heap.size + 1) ((((Below.refl _ _).alloc (Nat.le_refl _) _).alloc (by simp) _)) ⟨h3.os, h3.tape, h3.output, h3.size, fun k hk _ => h3.block k hk (by simp)⟩ (by omega) (by simp; omega)
  have hg : w.heap.size ≤ g' := by
    rcases h4 with rfl | h4
    · omega
    · simp at h4; omega
  have HN : Hid _ := hnil
  clear h1 h2 h3 h4 hh hnil
  by_cases h : cap = 0
  · subst h
    go_enter Tryz.func53, Tryz.ntmps53
    go_wp2_with (at_builtin; refine wpList_append_run rfl _ _ 23 rfl _ _ _ _ rfl rfl HR.out ?_)
    go_wp2
    go_ret
    exact ⟨g', cap', rfl, hg, H2.out, HB.out⟩
  · cases a with
    | none => exact absurd (HN.out rfl) h
    | some ad =>
      obtain ⟨b, off, tg⟩ := ad
      go_enter Tryz.func53, Tryz.ntmps53
      go_wp2_with (at_builtin; refine wpList_append_run rfl _ _ 23 rfl _ _ _ _ rfl rfl HR.out ?_)
      go_wp2
      go_ret
      exact ⟨g', cap', rfl, hg, H2.out, HB.out⟩
/-- of every matrix in form, every row that is there -/
theorem rrow_F (r c i l cap : Nat) (a : Option Addr) (xs : List F) (w : World) (hr : r ≤ 64) (hc : c ≤ 64) (hi : i < r) (hl : l = r * c) (hx : xs.length = r * c) (hcap : l ≤ cap) (hX : Row8 w a xs) (hnil : a = none → cap = 0) :
    Calls Tryz.prog 53 #[.agg #[.int .i64 r, .int .i64 c, .slice a l cap], .int .i64 i] w fun e w' => ∃ g cap', e = .returned (.slice (some ⟨g, 0, none⟩) c cap') ∧ w.heap.size ≤ g ∧ Has8 w' g (rowAt c xs i) cap' ∧ Below w.heap.size w w' := by
  rcases hX with e | ⟨b, off, rfl, h⟩
  · have h0 : r * c = 0 := by rw [← hx, e]; rfl
    have hc0 : c = 0 := by
      rcases Nat.mul_eq_zero.1 h0 with h | h
      · omega
      · exact h
    subst hc0
    obtain rfl : l = 0 := by omega
    refine (rrow_nil r i cap a w (by omega) hnil).mono fun e' w' ⟨g, cap', h⟩ => ⟨g, cap', ?_⟩
    have e0 : rowAt 0 xs i = [] := List.eq_nil_of_length_eq_zero (rowAt_len hx hi)
    rw [e0]
    exact h
  · exact rrow_some r c i b off l cap xs w hr hc hi hl hx hcap (.inr ⟨b, off, rfl, h⟩)
end Go.Proofs.YtkoakingmnjdoaaGreatDoor

/- What stepsFit and Check of package prog answer, of all programs. -/
namespace Go.Proofs.YtkoakingmnjdoaaGreatDoor
open Go.RowKit Gf
set_option linter.unusedVariables false
set_option maxRecDepth 20000
set_option linter.unusedSimpArgs false
/-- a program in memory -/
structure PrgW (w : World) (ia oa sa : Option Addr) (il ic ol oc sl sc : Nat) (ins outs : List Int) (ss : List Stp) : Prop where
  eil : il = ins.length
  eol : ol = outs.length
  esl : sl = ss.length
  i9 : il ≤ 4611686018427387904
  o9 : ol ≤ 4611686018427387904
  s9 : sl ≤ 4611686018427387904
  cil : il ≤ ic
  col : ol ≤ oc
  csl : sl ≤ sc
  inil : ia = none → ic = 0
  onil : oa = none → oc = 0
  snil : sa = none → sc = 0
  I : RowI w ia ins
  O : RowI w oa outs
  S : StpW w sa ss
theorem PrgW.below {w w' : World} {ia oa sa : Option Addr} {il ic ol oc sl sc : Nat} {ins outs : List Int} {ss : List Stp} (h : PrgW w ia oa sa il ic ol oc sl sc ins outs ss) (hb : Below w.heap.size w w') : PrgW w' ia oa sa il ic ol oc sl sc ins outs ss :=
  { h with I := rowI_below h.I hb, O := rowI_below h.O hb, S := stpW_below h.S hb }
/-- all steps fit, each output is made once -/
def FitA (ni no : Nat) (rg : Int) (ss : List Stp) : Prop := (∀ s ∈ ss, OkS ni no rg s) ∧ ∀ d : Nat, d < no → cntO ss d = 1
noncomputable def fitB (ni no : Nat) (rg : Int) (ss : List Stp) : Bool := @decide (FitA ni no rg ss) (Classical.propDecidable _)
theorem fitB_yes {ni no : Nat} {rg : Int} {ss : List Stp} (h : FitA ni no rg ss) : fitB ni no rg ss = true := @decide_eq_true _ (Classical.propDecidable _) h
theorem fitB_no {ni no : Nat} {rg : Int} {ss : List Stp} (h : ¬ FitA ni no rg ss) : fitB ni no rg ss = false := @decide_eq_false _ (Classical.propDecidable _) h
def mdL (no : Nat) (ss : List Stp) : List Bool := (List.range no).map fun d => decide (1 ≤ cntO ss d)
theorem mdL_len (no : Nat) (ss : List Stp) : (mdL no ss).length = no := by simp [mdL]
theorem mdL_nil (no : Nat) : mdL no [] = List.replicate no false := by
  apply List.ext_getElem?
  intro i
  by_cases h : i < no <;> simp [mdL, cntO, h]
theorem mdL_get {no d : Nat} {ss : List Stp} (h : d < no) : (mdL no ss)[d]? = some (decide (1 ≤ cntO ss d)) := by simp [mdL, h]
theorem cnt_not {ss : List Stp} {s : Stp} {d : Nat} (h : s.op ≠ 5) : cntO (ss ++ [s]) d = cntO ss d := by
  have : (s.op == 5) = false := by simpa using h
  simp [cntO, List.countP_append, this]
theorem cnt_out {ss : List Stp} {s : Stp} {d : Nat} (h : s.op = 5) (hd : s.dst = d) : cntO (ss ++ [s]) d = cntO ss d + 1 := by
  simp [cntO, List.countP_append, h, hd]
theorem cnt_other {ss : List Stp} {s : Stp} {d : Nat} (hd : s.dst ≠ d) : cntO (ss ++ [s]) d = cntO ss d := by
  have : (s.dst == (d : Int)) = false := by simpa using hd
  simp [cntO, List.countP_append, this]
theorem cnt_take (ss : List Stp) (j d : Nat) : cntO (ss.take j) d ≤ cntO ss d := by
  conv => rhs; rw [← List.take_append_drop j ss]
  unfold cntO
  rw [List.countP_append]
  omega
theorem mdL_not {no : Nat} {ss : List Stp} {s : Stp} (h : s.op ≠ 5) : mdL no (ss ++ [s]) = mdL no ss := by
  unfold mdL
  apply List.map_congr_left
  intro d _
  rw [cnt_not h]
theorem mdL_out {no d : Nat} {ss : List Stp} {s : Stp} (h : s.op = 5) (hd : s.dst = d) : (mdL no ss).set d true = mdL no (ss ++ [s]) := by
  apply List.ext_getElem?
  intro i
  rw [List.getElem?_set]
  by_cases hi : i < no
  · rw [mdL_get hi, mdL_len]
    by_cases e : d = i
    · subst e
      rw [if_pos rfl, if_pos hi, mdL_get hi, cnt_out h hd]
      simp
    · rw [if_neg e, mdL_get hi, cnt_other (by omega)]
  · rw [List.getElem?_eq_none (by rw [mdL_len]; omega), List.getElem?_eq_none (by rw [mdL_len]; omega)]
    split
    · rw [if_neg (by rw [mdL_len]; omega)]
    · rfl
theorem mdL_all {no : Nat} {ss : List Stp} : false ∈ mdL no ss ↔ ∃ d, d < no ∧ cntO ss d = 0 := by
  simp only [mdL, List.mem_map, List.mem_range, decide_eq_false_iff_not, Nat.not_le]
  constructor
  · rintro ⟨d, h1, h2⟩; exact ⟨d, h1, by omega⟩
  · rintro ⟨d, h1, h2⟩; exact ⟨d, h1, by omega⟩
set_option maxRecDepth 100000 in
set_option maxHeartbeats 8000000 in
theorem stepsFit_F (ia oa sa : Option Addr) (il ic ol oc sl sc : Nat) (ins outs : List Int) (rg : Int) (ss : List Stp) (w : World) (hP : PrgW w ia oa sa il ic ol oc sl sc ins outs ss) (hol : ol ≤ 32) (hsl : sl ≤ 4096) :
    Calls Tryz.prog 108 #[.agg #[.slice ia il ic, .slice oa ol oc, .int .i64 rg, .slice sa sl sc]] w fun e w' => e = .returned (.bool (fitB il ol rg ss)) ∧ Below w.heap.size w w' := by
  obtain ⟨d, hd⟩ : ∃ d, d = fitB il ol rg ss := ⟨_, rfl⟩
  have HY : Hid (FitA il ol rg ss → d = true) := fun h => hd.trans (fitB_yes h)
  have HN : Hid (¬ FitA il ol rg ss → d = false) := fun h => hd.trans (fitB_no h)
  rw [← hd]
  clear hd
  have HSL : Hid (sl = ss.length) := hP.esl
  have HS : Hid (StpW w sa ss) := hP.S
  have hsc := hP.csl
  clear hP
  have hmk := fun u : World => run_makeB9 ol (by omega) u
  have HA : Holds (((w.alloc (.cells #[.slice ia il ic, .slice oa ol oc, .int .i64 rg, .slice sa sl sc] 30)).alloc (.cells #[.int .i64 il, .int .i64 ol, .int .i64 rg] 159)).alloc (.cells (visB (List.replicate ol false)) 4)) [(w.heap.size + 1 + 1, .cells (visB (List.replicate ol false)) 4), (w.heap.size + 1, .cells #[.int .i64 il, .int .i64 ol, .int .i64 rg] 159), (w.heap.size, .cells #[.slice ia il ic, .slice oa ol oc, .int .i64 rg, .slice sa sl sc] 30)] := by
    have h := holds_new (holds_new (holds_new (holds_nil w) #[.slice ia il ic, .slice oa ol oc, .int .i64 rg, .slice sa sl sc] 30) #[.int .i64 il, .int .i64 ol, .int .i64 rg] 159) (visB (List.replicate ol false)) 4
    simp only [World.size_alloc] at h
    exact h
  have HB0 : Hid (Below w.heap.size w (((w.alloc (.cells #[.slice ia il ic, .slice oa ol oc, .int .i64 rg, .slice sa sl sc] 30)).alloc (.cells #[.int .i64 il, .int .i64 ol, .int .i64 rg] 159)).alloc (.cells (visB (List.replicate ol false)) 4))) := (((Below.refl _ w).alloc (Nat.le_refl _) _).alloc (by simp) _).alloc (by simp; omega) _
  have HA0 : Hid _ := HA
  clear HA
  go_enter Tryz.func108, Tryz.ntmps108
  go_wp2
  clear hmk
  go_loopw [25] (fun i wr => ∃ j : Nat, j ≤ sl ∧ i = .int .i64 j ∧ Below w.heap.size w wr ∧ Holds wr [(w.heap.size + 1 + 1, .cells (visB (mdL ol (ss.take j))) 4), (w.heap.size + 1, .cells #[.int .i64 il, .int .i64 ol, .int .i64 rg] 159), (w.heap.size, .cells #[.slice ia il ic, .slice oa ol oc, .int .i64 rg, .slice sa sl sc] 30)] ∧
    (∀ s ∈ ss.take j, OkS il ol rg s) ∧ ∀ d : Nat, d < ol → cntO (ss.take j) d ≤ 1) (fun i _ => sl - (intOf i).toNat)
  case atStart => exact ⟨0, by omega, rfl, HB0.out, by rw [List.take_zero, mdL_nil]; exact HA0.out, fun s h => (by rw [List.take_zero] at h; cases h), fun d _ => by rw [List.take_zero]; exact Nat.zero_le _⟩
  case round =>
    obtain ⟨j, hj, rfl, hb, hh, hok, hcnt⟩ := hrel
    have HB : Hid (Below w.heap.size w wr) := hb
    have HH : Hid _ := hh
    have HOK : Hid (∀ s ∈ ss.take j, OkS il ol rg s) := hok
    have HCN : Hid (∀ d : Nat, d < ol → cntO (ss.take j) d ≤ 1) := hcnt
    clear hb hh hok hcnt
    by_cases hlt : j < sl
    · have hjs : j < ss.length := by rw [← HSL.out]; exact hlt
      obtain ⟨b, off, rfl, hc⟩ := stpW_get (stpW_below HS.out HB.out) hjs
      obtain ⟨c0, c1, c2, c3⟩ := hc j hjs
      obtain ⟨⟨op, dst, src, c⟩, hs⟩ : ∃ s, ss[j] = s := ⟨_, rfl⟩
      rw [hs] at c0 c1 c2 c3
      simp only at c0 c1 c2 c3
      have hget : ss[j]? = some ⟨op, dst, src, c⟩ := by rw [List.getElem?_eq_getElem hjs, hs]
      have htk : ss.take (j + 1) = ss.take j ++ [⟨op, dst, src, c⟩] := by rw [List.take_add_one, hget]; rfl
      have HTK : Hid (ss.take (j + 1) = ss.take j ++ [⟨op, dst, src, c⟩]) := htk
      have HMEM : Hid (⟨op, dst, src, c⟩ ∈ ss) := List.mem_of_getElem? hget
      clear hc hs hget htk hjs
      obtain ⟨cv, hcv⟩ : ∃ cv : Int, cv = (c.toNat : Int) := ⟨_, rfl⟩
      rw [← hcv] at c3
      have HCV : Hid (cv = (c.toNat : Int)) := hcv
      clear hcv
      have HB1 : Hid _ := HB.out.alloc HB.out.size (.cells #[.int .i64 op, .int .i64 dst, .int .i64 src, .int .u8 cv] 105)
      have HH1 : Hid _ := holds_new HH.out #[.int .i64 op, .int .i64 dst, .int .i64 src, .int .u8 cv] 105
      by_cases hop : 1 ≤ op ∧ op ≤ 5
      rotate_left
      · have HF : Hid (d = false) := HN.out (fun h => hop (by have := h.1 _ HMEM.out; unfold OkS at this; simp only at this; omega))
        have HO0 : Hid (okN op = false) := decide_eq_false hop
        have HO1 : Hid (opcN op = #[.string ⟨#[]⟩, .bool false, .bool false, .bool false, .bool false, .bool false, .nilFunc, .nilFunc]) := by
          show _ = _
          unfold opcN; rw [if_neg (by omega), if_neg (by omega), if_neg (by omega), if_neg (by omega), if_neg (by omega)]; rfl
        clear hop
        go_wp2_with fail
        refine Calls.mono (find_F op _) ?_
        rw [HO0.out, HO1.out]
        rintro e w2 ⟨rfl, hb2⟩
        have HB2 : Hid (Below w.heap.size w w2) := HB1.out.trans (hb2.mono HB1.out.size)
        clear hb2
        go_wp2
        go_ret
        exact ⟨by rw [HF.out]; rfl, HB2.out.alloc HB2.out.size _⟩
      obtain ⟨s, f, so, an, as9, ou, n, m, hO, hmm⟩ := op_some hop
      clear hmm
      have HO0 : Hid (okN op = true) := decide_eq_true hop
      have HO1 : Hid _ := hO.cells
      have HOU : Hid (ou = decide (op = 5)) := hO.ou
      have HFT : Hid _ := hO.fits il ol rg dst src c
      have hen := hO.en
      obtain ⟨k, hk⟩ : ∃ k, k = okSB il ol rg ⟨op, dst, src, c⟩ := ⟨_, rfl⟩
      have HK : Hid (k = okSB il ol rg ⟨op, dst, src, c⟩) := hk
      rw [← hk, ← HCV.out] at HFT
      clear hO hk
      go_wp2_with fail
      refine Calls.mono (find_F op _) ?_
      rw [HO0.out, HO1.out]
      rintro e w2 ⟨rfl, hb2⟩
      have HB2 : Hid (Below w.heap.size w w2) := HB1.out.trans (hb2.mono HB1.out.size)
      have HH2 : Hid _ := holds_later HH1.out hb2
      have hz2 : wr.heap.size < w2.heap.size := ltHeap (holds_at HH2.out 0 rfl)
      have HH3 : Hid _ := holds_new HH2.out #[.string s, .bool f, .bool so, .bool an, .bool as9, .bool ou, .func (.func n) #[] #[], .func (.func m) #[] #[]] 164
      have e0 := cellAt (holds_at HH3.out 3 rfl) 0 _ rfl
      have e1 := cellAt (holds_at HH3.out 3 rfl) 1 _ rfl
      have e2 := cellAt (holds_at HH3.out 3 rfl) 2 _ rfl
      have s0 := cellAt (holds_at HH3.out 1 rfl) 0 _ rfl
      have s1 := cellAt (holds_at HH3.out 1 rfl) 1 _ rfl
      have s2 := cellAt (holds_at HH3.out 1 rfl) 2 _ rfl
      have s3 := cellAt (holds_at HH3.out 1 rfl) 3 _ rfl
      clear hb2
      go_wp2_with fail
      refine Calls.mono (HFT.out _) ?_
      clear hen
      rintro e w3 ⟨rfl, hb3⟩
      have HB3 : Hid (Below w.heap.size w w3) := (HB2.out.alloc HB2.out.size _).trans (hb3.mono (by have := HB2.out.size; simp; omega))
      have HH4 : Hid _ := holds_later HH3.out hb3
      have hz3 : w2.heap.size < w3.heap.size := ltHeap (holds_at HH4.out 0 rfl)
      clear hb3 e0 e1 e2 s0 s1 s2 s3
      have o5 := cellAt (holds_at HH4.out 0 rfl) 5 _ rfl
      have s1 := cellAt (holds_at HH4.out 1 rfl) 1 _ rfl
      cases k
      · have HF : Hid (d = false) := HN.out (fun h => by
          have := h.1 _ HMEM.out
          rw [okSB_yes this] at HK
          exact absurd HK.out (by decide))
        go_wp2
        go_ret
        exact ⟨by rw [HF.out]; rfl, HB3.out⟩
      have HOKS : Hid (OkS il ol rg ⟨op, dst, src, c⟩) := by
        by_cases h : OkS il ol rg ⟨op, dst, src, c⟩
        · exact h
        · rw [okSB_no h] at HK; exact absurd HK.out (by decide)
      have HNX : Hid (∀ s ∈ ss.take (j + 1), OkS il ol rg s) := fun s hm => by
        rw [HTK.out, List.mem_append] at hm
        rcases hm with hm | hm
        · exact HOK.out s hm
        · rw [List.mem_singleton] at hm; subst hm; exact HOKS.out
      by_cases hop5 : op = 5
      rotate_left
      · have e5 : ou = false := by rw [HOU.out]; exact decide_eq_false hop5
        subst e5
        have HM9 : Hid (mdL ol (ss.take (j + 1)) = mdL ol (ss.take j)) := by show _ = _; rw [HTK.out, mdL_not hop5]
        have HC9 : Hid (∀ d : Nat, d < ol → cntO (ss.take (j + 1)) d ≤ 1) := fun q hq => by rw [HTK.out, cnt_not hop5]; exact HCN.out q hq
        clear hop5
        go_wp2
        exact ⟨⟨j + 1, by omega, by go_num, HB3.out, by rw [HM9.out]; exact fun i p hi => HH4.out (i + 2) p hi, HNX.out, HC9.out⟩, by simp [intOf]; omega⟩
      have e5 : ou = true := by rw [HOU.out]; exact decide_eq_true hop5
      subst e5
      have hdst : 0 ≤ dst ∧ dst < ol := by have := HOKS.out; unfold OkS at this; simp only at this; omega
      obtain ⟨q, rfl⟩ := Int.eq_ofNat_of_zero_le hdst.1
      have hq : q < ol := by omega
      have hmd := cellAt (holds_at HH4.out 2 rfl) q _ (visB_get (mdL_get hq))
      have hfz : w3.frozen? ⟨w.heap.size + 1 + 1, q, none⟩ = false := frozen_of_row _ _ _ _ _ (holds_at HH4.out 2 rfl)
      have HC5 : Hid (cntO (ss.take (j + 1)) q = cntO (ss.take j) q + 1) := by show _ = _; rw [HTK.out, cnt_out hop5 rfl]
      by_cases hc1 : 1 ≤ cntO (ss.take j) q
      · rw [decide_eq_true hc1] at hmd
        have HF : Hid (d = false) := HN.out (fun h => by
          have h1 := h.2 q hq
          have h2 := cnt_take ss (j + 1) q
          have h3 := HC5.out
          omega)
        clear hc1 hop5 hdst
        go_wp2
        go_ret
        exact ⟨by rw [HF.out]; rfl, HB3.out⟩
      · rw [decide_eq_false hc1] at hmd
        have HC9 : Hid (∀ d : Nat, d < ol → cntO (ss.take (j + 1)) d ≤ 1) := fun x hx => by
          by_cases e : x = q
          · subst e; rw [HC5.out]; omega
          · rw [HTK.out, cnt_other (by simp only; omega)]; exact HCN.out x hx
        have HS4 : Hid ((w3.setCell ⟨w.heap.size + 1 + 1, q, none⟩ (.bool true)).heap[w.heap.size + 1 + 1]? = some (.cells (visB (mdL ol (ss.take (j + 1)))) 4 (0, 0))) := by
          show _ = _
          rw [HTK.out, ← mdL_out hop5 rfl, ← visB_set]
          exact heap_setCell_same _ _ _ _ _ _ (holds_at HH4.out 2 rfl)
        have HS5 : Hid _ := (heap_setCell_other w3 ⟨w.heap.size + 1 + 1, q, none⟩ (w.heap.size + 1) (.bool true) (by show w.heap.size + 1 ≠ w.heap.size + 1 + 1; omega)).trans (holds_at HH4.out 3 rfl)
        have HS6 : Hid _ := (heap_setCell_other w3 ⟨w.heap.size + 1 + 1, q, none⟩ (w.heap.size) (.bool true) (by show w.heap.size ≠ w.heap.size + 1 + 1; omega)).trans (holds_at HH4.out 4 rfl)
        have HB6 : Hid _ := HB3.out.setCell (p := ⟨w.heap.size + 1 + 1, q, none⟩) (by show w.heap.size ≤ w.heap.size + 1 + 1; omega) (.bool true)
        clear hc1 hop5 hdst
        go_wp2
        exact ⟨⟨j + 1, by omega, by go_num, HB6.out, holds_cons (holds_cons (holds_cons (holds_nil _) HS6.out) HS5.out) HS4.out, HNX.out, HC9.out⟩, by simp [intOf]; omega⟩
    · obtain rfl : j = sl := by omega
      have hfull : ss.take j = ss := by rw [HSL.out, List.take_length]
      have hok := HOK.out
      have hcn := HCN.out
      have hh := HH.out
      rw [hfull] at hok hcn hh
      have HC : Hid _ := containsB_F (w.heap.size + 1 + 1) ol (mdL ol ss) wr (mdL_len _ _).symm (by omega) (holds_at hh 0 rfl)
      have HD : Hid (d = !decide (false ∈ mdL ol ss)) := by
        show _ = _
        by_cases hz : false ∈ mdL ol ss
        · rw [decide_eq_true hz]
          obtain ⟨q, hq, h0⟩ := mdL_all.1 hz
          exact HN.out (fun h => by have := h.2 q hq; omega)
        · rw [decide_eq_false hz]
          exact HY.out ⟨hok, fun q hq => by
            have h1 := hcn q hq
            rcases Nat.lt_or_ge (cntO ss q) 1 with h2 | h2
            · exact absurd (mdL_all.2 ⟨q, hq, by omega⟩) hz
            · omega⟩
      clear hfull hok hcn hh
      go_wp2_with fail
      refine Calls.mono HC.out ?_
      rintro e w2 ⟨rfl, rfl⟩
      go_wp2
      go_ret
      exact ⟨by rw [HD.out]; rfl, HB.out⟩
end Go.Proofs.YtkoakingmnjdoaaGreatDoor
