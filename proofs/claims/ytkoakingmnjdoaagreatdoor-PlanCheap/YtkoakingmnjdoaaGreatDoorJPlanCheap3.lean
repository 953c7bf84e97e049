/- What the document's own Run makes of inputs, of programs in form. -/
import Derived.Test.YtkoakingmnjdoaaGreatDoorMatA
import Derived.LaidLaws
import Derived.MakeChecks
import Derived.LaidEql
import Derived.Test.YtkoakingmnjdoaaGreatDoorMatSq
import Derived.Test.YtkoakingmnjdoaaGreatDoorMatT
import Derived.Test.YtkoakingmnjdoaaGreatDoorMatAl
import Derived.Test.YtkoakingmnjdoaaGreatDoorHolds
import Derived.Test.YtkoakingmnjdoaaGreatDoorGfRefW
import Derived.Test.YtkoakingmnjdoaaGreatDoorMatTake
import Derived.Test.YtkoakingmnjdoaaGreatDoorRegHeld
import Derived.Test.YtkoakingmnjdoaaGreatDoorNumApart
import Derived.Laws.OwnMore
import Derived.Test.YtkoakingmnjdoaaGreatDoorMatRow
import Derived.Test.YtkoakingmnjdoaaGreatDoorStepG
import Derived.Test.YtkoakingmnjdoaaGreatDoorStepC
import Derived.Test.YtkoakingmnjdoaaGreatDoorMatO
import Derived.Deep.DeepCutAuto
/- What the named variables of package api hold, by the rows' condition: errors, each of a block of its own. -/
namespace Go.Proofs.YtkoakingmnjdoaaGreatDoor
open Go.RowKit Go.ChangeShapes
set_option linter.unusedVariables false
set_option maxRecDepth 20000
theorem cellsES : Tryz.prog.cellsOf 249 = 1 := by kernel_rfl
theorem cellsStr : Tryz.prog.cellsOf 9 = 1 := by kernel_rfl
theorem starES : "*" ++ "errors.errorString" = "*errors.errorString" := by decide
theorem rowES (u : TypeId) (h : Tryz.prog.typeName? 3 u = some "*errors.errorString") : u = 191 :=
  typeName_ptr_named (nm := "errors.errorString") (by rw [starES]; kernel_rfl) (by kernel_rfl) (by decide) u (by rw [starES]; exact h)
/-- an error's datum -/
def errD (text : List UInt8) : DataW Unit := .iface "*errors.errorString" (.ptr (.agg [.lit (.string text)]))
def ErrsAt (W : World) (gs : List Nat) (es : List Addr) : Prop :=
  gs.length = es.length ∧ es.Nodup ∧ ∀ (k g : Nat) (a : Addr), gs[k]? = some g → es[k]? = some a → W.cell? ⟨g, 0, none⟩ = some (errAt a) ∧ ∃ c t, W.heap[a.block]? = some (.cells c t (0, 0))
theorem errs_go {W : World} : ∀ (laid : List (String × DataW Unit)) (gs : List Nat) (ps : List MemPlace), DataW.LaidVars Tryz.prog W laid ps → ps.Nodup →
    (∀ b off, MemPlace.cell b off ∈ ps → (∃ c t, W.heap[b]? = some (.cells c t (0, 0))) ∧ ∀ u v, W.cell? ⟨b, off, none⟩ = some (.iface u v) → Value.okWide Tryz.prog W .any 0 u v) →
    laid.map (fun x => Tryz.prog.globalNamed x.1) = gs.map some → (∀ g ∈ gs, (Tryz.prog.globals[g]?).map (·.type) = some 32) → (∀ x ∈ laid, ∃ text, x.2 = errD text) →
    ∃ es : List Addr, gs.length = es.length ∧ es.Nodup ∧ (∀ a ∈ es, MemPlace.cell a.block a.off ∈ ps) ∧ ∀ (k g : Nat) (a : Addr), gs[k]? = some g → es[k]? = some a → W.cell? ⟨g, 0, none⟩ = some (errAt a) ∧ ∃ c t, W.heap[a.block]? = some (.cells c t (0, 0))
  | [], [], _, _, _, _, _, _, _ => ⟨[], rfl, List.nodup_nil, fun a h => by simp at h, fun k g a h => by simp at h⟩
  | [], _ :: _, _, _, _, _, h, _, _ => by simp at h
  | _ :: _, [], _, _, _, _, h, _, _ => by simp at h
  | (n, d) :: r, g :: gs, ps, hv, hnd, hrows, hn, ht, hd => by
    obtain ⟨text, hdd⟩ := hd _ List.mem_cons_self
    simp only at hdd
    subst hdd
    obtain ⟨g0, t0, cs0, f0, p0, q0, hg0, ht0, hv0, hd0, hq, rfl⟩ := hv
    simp only [List.map_cons, List.cons.injEq] at hn
    obtain rfl := Option.some.inj (hg0.symm.trans hn.1)
    obtain rfl := Option.some.inj (ht0.symm.trans (ht _ List.mem_cons_self))
    obtain ⟨l0⟩ := cs0
    have ok0 : ∀ u v, l0 = [.iface u v] → Value.okWide Tryz.prog W .any 0 u v := fun u v e => by
      subst e
      exact (hrows g0 0 (by simp [MemPlace.row])).2 u v (by simpa using World.var?_cell hg0 hv0 0)
    obtain ⟨a0, s0, rfl, hc0, hs0, hz0, rfl⟩ := errorString_of_trod Tryz.underlying32 rowES Tryz.underlying191 Tryz.underlying249 rfl rfl Tryz.underlying9 cellsES cellsStr hd0 ok0
    have hndq : q0.Nodup := List.Nodup.sublist (List.sublist_append_right _ _) hnd
    obtain ⟨es, h1, h2, h3, h4⟩ := errs_go r gs q0 hq hndq (fun b off hm => hrows b off (List.mem_append_right _ hm)) hn.2 (fun g hg => ht g (List.mem_cons_of_mem _ hg)) (fun x hx => hd x (List.mem_cons_of_mem _ hx))
    have hm0 : MemPlace.cell a0.block a0.off ∈ MemPlace.row ⟨g0, 0, none⟩ (Array.mk [Value.iface 191 (.pointer (some a0))]).size ++ MemPlace.row a0 1 := by simp [MemPlace.row]
    refine ⟨a0 :: es, by simp [h1], List.nodup_cons.2 ⟨fun hin => ?_, h2⟩, fun a ha => ?_, fun k g a hk ha => ?_⟩
    · exact (List.nodup_append.1 hnd).2.2 _ hm0 _ (h3 _ hin) rfl
    · rcases List.mem_cons.1 ha with rfl | ha
      · exact List.mem_append_left _ hm0
      · exact List.mem_append_right _ (h3 _ ha)
    · cases k with
      | zero =>
        simp only [List.getElem?_cons_zero, Option.some.injEq] at hk ha
        subst hk ha
        exact ⟨by simpa [errAt] using World.var?_cell hg0 hv0 0, (hrows a0.block a0.off (List.mem_append_left _ hm0)).1⟩
      | succ k => exact h4 k g a (by simpa using hk) (by simpa using ha)
theorem errs_of_laid {W : World} {laid : List (String × DataW Unit)} {gs : List Nat} (h : laidMetH Tryz.prog laid W) (hp : (laid.all fun x => x.2.handleName?.isNone) = true)
    (hn : laid.map (fun x => Tryz.prog.globalNamed x.1) = gs.map some) (ht : ∀ g ∈ gs, (Tryz.prog.globals[g]?).map (·.type) = some 32) (hd : ∀ x ∈ laid, ∃ text, x.2 = errD text) : ∃ es, ErrsAt W gs es := by
  rw [MakeChecks.laidMetH_plain _ _ _ hp] at h
  obtain ⟨ps, hv, hnd, hrows⟩ := h
  obtain ⟨es, h1, h2, _, h4⟩ := errs_go laid gs ps hv hnd hrows hn ht hd
  exact ⟨es, h1, h2, h4⟩
theorem errs_at {W : World} {gs : List Nat} {es : List Addr} (h : ErrsAt W gs es) (k g : Nat) (hk : gs[k]? = some g) : ∃ a, es[k]? = some a ∧ W.cell? ⟨g, 0, none⟩ = some (errAt a) ∧ ∃ c t, W.heap[a.block]? = some (.cells c t (0, 0)) := by
  have hlt : k < es.length := by
    rw [← h.1]; exact (List.getElem?_eq_some_iff.1 hk).1
  exact ⟨es[k], List.getElem?_eq_getElem hlt, h.2.2 k g _ hk (List.getElem?_eq_getElem hlt)⟩
theorem errsAt_below {w w' : World} {gs : List Nat} {es : List Addr} (h : ErrsAt w gs es) (hb : Below w.heap.size w w') : ErrsAt w' gs es :=
  ⟨h.1, h.2.1, fun k g a hk ha => by
    obtain ⟨h1, c, t, h2⟩ := h.2.2 k g a hk ha
    exact ⟨(hb.cell (p := ⟨g, 0, none⟩) (by simpa using World.block_lt_of_cell? w _ h1)).trans h1, c, t, heap_later h2 hb⟩⟩
theorem infoPtr : ∃ i, Tryz.prog.info? 191 = some i ∧ i.comparable = true := by
  have h : (Tryz.prog.info? 191).map (·.comparable) = some true := by kernel_rfl
  cases hq : Tryz.prog.info? 191 with
  | none => simp [hq] at h
  | some i => simp only [hq, Option.map_some, Option.some.injEq] at h; exact ⟨i, rfl, h⟩
theorem infoES : ∃ j, Tryz.prog.info? 249 = some j ∧ j.size ≠ 0 := by
  have h : (Tryz.prog.info? 249).map (·.size) = some 1 := by kernel_rfl
  cases hq : Tryz.prog.info? 249 with
  | none => simp [hq] at h
  | some i => simp only [hq, Option.map_some, Option.some.injEq] at h; exact ⟨i, rfl, by omega⟩
/-- one error held against itself -/
theorem eq_same (w : World) (a : Addr) : (binOp .eql 32 (.iface 191 (.pointer (some a))) (.iface 191 (.pointer (some a)))).run Tryz.prog w = .ok (.bool true) w := by
  obtain ⟨i, h1, h2⟩ := infoPtr
  obtain ⟨j, h3, _⟩ := infoES
  exact run_eql_iface_ptr_same w a Tryz.underlying32 Tryz.underlying191 h1 h2 h3
theorem eq_other {w : World} {a b : Addr} {ca cb : Array Value} {ta tb : TypeId} (hne : a ≠ b) (ha : w.heap[a.block]? = some (.cells ca ta (0, 0))) (hb : w.heap[b.block]? = some (.cells cb tb (0, 0))) :
    (binOp .eql 32 (.iface 191 (.pointer (some a))) (.iface 191 (.pointer (some b)))).run Tryz.prog w = .ok (.bool false) w := by
  obtain ⟨i, h1, h2⟩ := infoPtr
  obtain ⟨j, h3, h4⟩ := infoES
  exact run_eql_iface_ptr_other w Tryz.underlying32 Tryz.underlying191 h1 h2 h3 h4 hne ha hb
end Go.Proofs.YtkoakingmnjdoaaGreatDoor

/- What the document's own One, Transpose and Product of package mat's chapter answer, of all matrices in form; nothing that was there turns. -/
namespace Go.Proofs.YtkoakingmnjdoaaGreatDoor
open Go.RowKit Gf
set_option linter.unusedVariables false
set_option maxRecDepth 20000
/-- a grid, made row by row, as far as place j of row i -/
def gridP (c : Nat) (f : Nat → Nat → F) (r i j : Nat) : List F := grid c (fun a b => if a < i ∨ a = i ∧ b < j then f a b else 0) r
theorem gridP_len (c : Nat) (f : Nat → Nat → F) (r i j : Nat) : (gridP c f r i j).length = r * c := grid_len _ _ _
theorem gridP_zero (c : Nat) (f : Nat → Nat → F) (r : Nat) : zeros (r * c) = gridP c f r 0 0 := by rw [zeros_grid]; exact grid_congr fun i j _ _ => by rw [if_neg (by omega)]
theorem gridP_done (c : Nat) (f : Nat → Nat → F) (r : Nat) : gridP c f r r 0 = grid c f r := grid_congr fun a b h _ => by rw [if_pos (by omega)]
theorem gridP_row (c : Nat) (f : Nat → Nat → F) (r i : Nat) : gridP c f r i c = gridP c f r (i + 1) 0 := grid_congr fun a b _ h => by
  by_cases e : a < i + 1
  · rw [if_pos (by omega), if_pos (by omega)]
  · rw [if_neg (by omega), if_neg (by omega)]
theorem gridP_step {c r i j : Nat} {f : Nat → Nat → F} (hi : i < r) (hj : j < c) : (gridP c f r i j).set (i * c + j) (f i j) = gridP c f r i (j + 1) := by
  rw [gridP, grid_set hi hj]
  refine grid_congr fun a b ha hb => ?_
  by_cases e : a = i ∧ b = j
  · rw [if_pos e, if_pos (by omega), e.1, e.2]
  · rw [if_neg e]
    by_cases e2 : a < i ∨ a = i ∧ b < j
    · rw [if_pos e2, if_pos (by omega)]
    · rw [if_neg e2, if_neg (by omega)]
theorem grownBy_drewN {w w' : World} {r : Option Nat} (h : w.grownBy w' r) : ∀ n, w.grownBy (w'.drewN n) r
  | 0 => h
  | n + 1 => grownBy_drew (grownBy_drewN h n)
theorem row8_get {w : World} {a : Option Addr} {xs : List F} {j : Nat} (h : Row8 w a xs) (hj : j < xs.length) : ∃ b off, a = some ⟨b, off, none⟩ ∧ b < w.heap.size ∧ ∀ i, i < xs.length → w.cell? ⟨b, off + i, none⟩ = some (.int .u8 ((at8 xs i).toNat : Int)) := by
  rcases h with e | ⟨b, off, rfl, h⟩
  · rw [e] at hj; simp at hj
  · have := World.block_lt_of_cell? w _ (h j hj)
    exact ⟨b, off, rfl, by simpa using this, h⟩
set_option maxHeartbeats 4000000 in
theorem rproduct_F (r n c la ca lb cb : Nat) (a b : Option Addr) (xs ys : List F) (w : World) (hr : r ≤ 64) (hn : n ≤ 64) (hc : c ≤ 64) (hla : la = r * n) (hx : xs.length = r * n) (hca : la ≤ ca) (hX : Row8 w a xs)
    (hlb : lb = n * c) (hy : ys.length = n * c) (hcb : lb ≤ cb) (hY : Row8 w b ys) :
    Calls Tryz.prog 39 #[.agg #[.int .i64 r, .int .i64 n, .slice a la ca], .agg #[.int .i64 n, .int .i64 c, .slice b lb cb]] w fun e w' => ∃ g m, e = .returned (.agg #[.int .i64 r, .int .i64 c, .slice (some ⟨g, 0, none⟩) m m]) ∧ m = r * c ∧ w.heap.size ≤ g ∧
      w'.heap[g]? = some (.cells (vfs (mulM n c xs ys r)) 5 (0, 0)) ∧ Below w.heap.size w w' := by
  have HLA : Hid _ := hla
  have HLB : Hid _ := hlb
  have HX : Hid _ := hx
  have HY : Hid _ := hy
  have HRX : Hid (Row8 w a xs) := hX
  have HRY : Hid (Row8 w b ys) := hY
  clear hla hlb hx hy hX hY
  go_enter Tryz.func39, Tryz.ntmps39
  go_wp2_with fail
  refine Calls.mono (rzero_F r c _ hr hc) ?_
  rintro e w2 ⟨g, m, rfl, hm, hg, hh, hb2⟩
  have hA := holds_later (holds_new (holds_new (holds_new (holds_nil w) #[.int .i64 r, .int .i64 n, .slice a la ca] 73) #[.int .i64 n, .int .i64 c, .slice b lb cb] 73) #[.int .i64 0, .int .i64 0, .slice none 0 0] 73) hb2
  rw [World.size_alloc, World.size_alloc] at hA
  have z0 := ltHeap (holds_at hA 0 rfl)
  have zg : g < w2.heap.size := ltHeap hh
  simp only [World.size_alloc] at hg
  have HM : Hid _ := hm
  have HB' : Hid (Below w.heap.size w w2) := ((((Below.refl w.heap.size w).alloc (Nat.le_refl _) _).alloc (by simp) _).alloc (by simp; omega) _).trans (hb2.mono (by simp; omega))
  have hA := holds_new (holds_cons hA hh) #[.int .i64 r, .int .i64 c, .slice (some ⟨g, 0, none⟩) m m] 73
  have HA : Hid _ := hA
  have B4 : Hid (Below w.heap.size w (w2.alloc (.cells #[.int .i64 r, .int .i64 c, .slice (some ⟨g, 0, none⟩) m m] 73))) := HB'.out.alloc (by omega) _
  clear hm hh hb2 hA HB'
  go_wp2
  generalize hM : w2.heap.size = M at *
  generalize (w2.alloc (.cells #[.int .i64 r, .int .i64 c, .slice (some ⟨g, 0, none⟩) m m] 73)) = W3 at *
  clear hM
  go_loopw [6] (fun i wr => ∃ k : Nat, k ≤ r ∧ i = .int .i64 k ∧ W3.grownBy wr (some g) ∧ wr.heap[g]? = some (.cells (vfs (gridP c (fun i j => sumF (fun l => gm (at8 xs (i * n + l)) (at8 ys (l * c + j))) n) r k 0)) 5 (0, 0))) (fun i _ => r - (intOf i).toNat)
  case atStart => exact ⟨0, by omega, rfl, World.grownBy.refl _ _, by rw [← gridP_zero]; exact holds_at HA.out 1 rfl⟩
  case round =>
    obtain ⟨k, hk, rfl, hgb, hs⟩ := hrel
    have HGB : Hid _ := hgb
    have HS : Hid _ := hs
    have c1 := cellAt (grown_block hgb (holds_at HA.out 4 rfl) (by omega)) 0 _ rfl
    by_cases hlt : k < r
    · clear hgb hs
      go_wp2
      go_loopw [7] (fun i wq => ∃ j : Nat, j ≤ c ∧ i = .int .i64 j ∧ W3.grownBy wq (some g) ∧ wq.heap[g]? = some (.cells (vfs (gridP c (fun i j => sumF (fun l => gm (at8 xs (i * n + l)) (at8 ys (l * c + j))) n) r k j)) 5 (0, 0))) (fun i _ => c - (intOf i).toNat)
      case atStart => exact ⟨0, by omega, rfl, HGB.out, HS.out⟩
      case round =>
        obtain ⟨j, hj, rfl, hgb, hs⟩ := hrel
        have HGB2 : Hid _ := hgb
        have HS2 : Hid _ := hs
        have c2 := cellAt (grown_block hgb (holds_at HA.out 3 rfl) (by omega)) 1 _ rfl
        by_cases hltj : j < c
        · clear hgb hs
          go_wp2
          go_loopw [8, 9] (fun v i wv => ∃ l : Nat, l ≤ n ∧ i = .int .i64 l ∧ v = .int .u8 (sumF (fun l => gm (at8 xs (k * n + l)) (at8 ys (l * c + j))) l).toNat ∧ W3.grownBy wv (some g) ∧ wv.heap[g]? = some (.cells (vfs (gridP c (fun i j => sumF (fun l => gm (at8 xs (i * n + l)) (at8 ys (l * c + j))) n) r k j)) 5 (0, 0))) (fun _ i _ => n - (intOf i).toNat)
          case atStart => exact ⟨0, by omega, rfl, rfl, HGB2.out, HS2.out⟩
          case round =>
            obtain ⟨l, hl, rfl, rfl, hgb, hs⟩ := hrel
            have HGB3 : Hid _ := hgb
            have HS3 : Hid _ := hs
            have c3 := cellAt (grown_block hgb (holds_at HA.out 4 rfl) (by omega)) 1 _ rfl
            by_cases hltl : l < n
            · have c4 := cellAt (grown_block hgb (holds_at HA.out 4 rfl) (by omega)) 2 _ rfl
              have c5 := cellAt (grown_block hgb (holds_at HA.out 3 rfl) (by omega)) 1 _ rfl
              have c6 := cellAt (grown_block hgb (holds_at HA.out 3 rfl) (by omega)) 2 _ rfl
              obtain ⟨p, hp⟩ : ∃ p, p = k * n := ⟨_, rfl⟩
              obtain ⟨q, hq⟩ : ∃ q, q = l * c := ⟨_, rfl⟩
              have h1 := place_lt (c := n) hlt hltl
              have h2 := place_lt (c := c) hltl hltj
              have m1 : (k : Int) * (n : Int) = (p : Int) := by rw [hp]; simp
              have m2 : (l : Int) * (c : Int) = (q : Int) := by rw [hq]; simp
              have e1 : p + l < la := by rw [hp, HLA.out]; exact h1
              have e2 : q + j < lb := by rw [hq, HLB.out]; exact h2
              have n1 : la ≤ 4096 := by have := mul_small hr hn; have := HLA.out; have e : (r : Int) * (n : Int) = ((r * n : Nat) : Int) := by simp
                                        omega
              have n2 : lb ≤ 4096 := by have := mul_small hn hc; have := HLB.out; have e : (n : Int) * (c : Int) = ((n * c : Nat) : Int) := by simp
                                        omega
              obtain ⟨b1, o1, rfl, hb1, f1⟩ := row8_get HRX.out (show p + l < xs.length by rw [HX.out, ← HLA.out]; exact e1)
              obtain ⟨b2, o2, rfl, hb2, f2⟩ := row8_get HRY.out (show q + j < ys.length by rw [HY.out, ← HLB.out]; exact e2)
              have hbw := below_grown B4.out hgb (by omega)
              have c7 := cell_later hbw (f1 (p + l) (by rw [HX.out, ← HLA.out]; exact e1))
              have c8 := cell_later hbw (f2 (q + j) (by rw [HY.out, ← HLB.out]; exact e2))
              have ex := xor_val (sumF (fun l => gm (at8 xs (k * n + l)) (at8 ys (l * c + j))) l) (gm (at8 xs (p + l)) (at8 ys (q + j)))
              have HT : Hid (ga (sumF (fun l => gm (at8 xs (k * n + l)) (at8 ys (l * c + j))) l) (gm (at8 xs (p + l)) (at8 ys (q + j))) = sumF (fun l => gm (at8 xs (k * n + l)) (at8 ys (l * c + j))) (l + 1)) := by rw [hp, hq]; rfl
              clear hgb hs f1 f2 hp hq h1 h2 hbw
              go_wp2
              go_quiet ((go_at_call 64; exact Calls.quiet_of_eq (rmul_F _ _ _)))
              go_wp2
              exact ⟨⟨l + 1, by omega, by go_num, by rw [HT.out], grownBy_drewN HGB3.out _, by rw [World.heap_drewN]; exact HS3.out⟩, by simp [intOf]; omega⟩
            · obtain rfl : l = n := by omega
              have c4 := cellAt (grown_block hgb (holds_at HA.out 0 rfl) (by omega)) 2 _ rfl
              have c5 := cellAt (grown_block hgb (holds_at HA.out 3 rfl) (by omega)) 1 _ rfl
              obtain ⟨p, hp⟩ : ∃ p, p = k * c := ⟨_, rfl⟩
              have h1 := place_lt (c := c) hlt hltj
              have m1 : (k : Int) * (c : Int) = (p : Int) := by rw [hp]; simp
              have e1 : p + j < m := by rw [hp, HM.out]; exact h1
              have n1 : m ≤ 4096 := by have := mul_small hr hc; have := HM.out; have e : (r : Int) * (c : Int) = ((r * c : Nat) : Int) := by simp
                                       omega
              have c6 : wr.cell? ⟨g, p + j, none⟩ = some (.int .u8 ((at8 (gridP c (fun i j => sumF (fun l' => gm (at8 xs (i * l + l')) (at8 ys (l' * c + j))) l) r k j) (p + j)).toNat : Int)) := cellAt hs _ _ (vfs_get _ _ (by rw [gridP_len, ← HM.out]; exact e1))
              have c7 : wr.frozen? ⟨g, p + j, none⟩ = false := frozen_of_row _ _ _ _ _ hs
              have HT : Hid _ := gridP_step (f := fun i j => sumF (fun l' => gm (at8 xs (i * l + l')) (at8 ys (l' * c + j))) l) hlt hltj
              have HP : Hid _ := hp
              clear hgb hs hp h1
              go_wp2
              refine ⟨⟨j + 1, by omega, by go_num, grownBy_setCell HGB3.out _, ?_⟩, by simp [intOf]; omega⟩
              rw [heap_setCell_same _ _ _ _ _ _ HS3.out, vfs_set, ← HT.out, HP.out]
        · obtain rfl : j = c := by omega
          rw [gridP_row] at hs
          have HS4 : Hid _ := hs
          clear hgb hs
          go_wp2
          exact ⟨⟨k + 1, by omega, by go_num, HGB2.out, HS4.out⟩, by simp [intOf]; omega⟩
    · obtain rfl : k = r := by omega
      rw [gridP_done] at hs
      have HS2 : Hid _ := hs
      have k0 := grown_block hgb (holds_at HA.out 0 rfl) (by omega)
      have k1 := grown_block hgb (holds_at HA.out 2 rfl) (by omega)
      have c2 := cellAt k0 0 _ rfl
      have c3 := cellAt k0 1 _ rfl
      have c7 := cellAt k0 2 _ rfl
      have c4 := cellAt k1 0 _ rfl
      have c5 := cellAt k1 1 _ rfl
      have c6 := cellAt k1 2 _ rfl
      have d4 : wr.frozen? ⟨w.heap.size + 1 + 1, 0, none⟩ = false := frozen_of_row _ _ _ _ _ k1
      have d5 : wr.frozen? ⟨w.heap.size + 1 + 1, 1, none⟩ = false := frozen_of_row _ _ _ _ _ k1
      have d6 : wr.frozen? ⟨w.heap.size + 1 + 1, 2, none⟩ = false := frozen_of_row _ _ _ _ _ k1
      clear k0 k1 hgb hs
      go_wp2
      refine bodyPost_ret (v := .agg #[.int .i64 k, .int .i64 c, .slice (some ⟨g, 0, none⟩) m m]) (by simp [results, Tryz.results39, go_sem, c4, c5, c6]) rfl ⟨g, m, rfl, HM.out, by omega, ?_, ?_⟩
      · rw [heap_setCell_other _ _ _ _ (by show g ≠ w.heap.size + 1 + 1; omega), heap_setCell_other _ _ _ _ (by show g ≠ w.heap.size + 1 + 1; omega), heap_setCell_other _ _ _ _ (by show g ≠ w.heap.size + 1 + 1; omega)]
        exact HS2.out
      · exact (((below_grown B4.out HGB.out (by omega)).setCell (by simp; omega) _).setCell (by simp; omega) _).setCell (by simp; omega) _
end Go.Proofs.YtkoakingmnjdoaaGreatDoor

/- What the document's own Of and Row of package mat's chapter answer; nothing that was there turns. -/
namespace Go.Proofs.YtkoakingmnjdoaaGreatDoor
open Go.RowKit Gf
set_option linter.unusedVariables false
set_option maxRecDepth 20000
/-- bytes laid behind a list of one's own, whatever they are -/
theorem appendB {w : World} {B n m c : Nat} {v : Value} {zs ys : List F} {a : Option Addr} (ty : TypeId) (ho : w.ownsRow B 5 1 v n (zs.map vf)) (hm : m = ys.length) (hb : n + m ≤ 1000000) (hy : Row8 w a ys) (hnil : a = none → c = 0) (hB : B ≤ w.heap.size) :
    ∃ v' w', (Builtin.append_ #[23, 23] ty #[v, .slice a m c]).run Tryz.prog w = .ok v' w' ∧ w'.ownsRow B 5 1 v' (n + m) ((zs ++ ys).map vf) ∧ w.grownBy w' v.ownBlock := by
  obtain ⟨i, hi, h1, h2, h3⟩ := info8
  rcases hy with rfl | ⟨b, off, rfl, hy⟩
  · obtain rfl : m = 0 := hm
    cases a with
    | none =>
      obtain rfl := hnil rfl
      refine ⟨v, w, ?_, by simpa using ho, grownBy_refl _ _⟩
      rcases ho.2 with ⟨rfl, rfl⟩ | ⟨g, cap, cur, rfl, _, hg, hle, _⟩
      · simp [Builtin.append_, run_underlying Tryz.underlying23, sizeOf, typeInfo, hi, Builtin.lenOf, Builtin.firstCells]
      · simp [Builtin.append_, run_underlying Tryz.underlying23, sizeOf, typeInfo, hi, Builtin.lenOf, Builtin.firstCells, loadCells, hle, storeCells]
    | some ad =>
      obtain ⟨v', w', h4, h5, h6, _⟩ := run_append_own_at (P := Tryz.prog) w B 23 ty 5 i _ 1 1 Tryz.underlying23 hi h3 h1 h2 rfl (by decide) v n _ ho ad 0 c [] rfl (fun j u h => by simp at h) (fun u h => by cases h) (by simp only [maxLen]; omega) (by omega) hB
      exact ⟨v', w', h4, by simpa using h5, h6⟩
  · obtain ⟨v', w', h4, h5, h6, _⟩ := run_append_own_at (P := Tryz.prog) w B 23 ty 5 i _ 1 1 Tryz.underlying23 hi h3 h1 h2 rfl (by decide) v n _ ho ⟨b, off, none⟩ m c (ys.map vf) (by rw [List.length_map]; omega)
      (fun j u hv => by
        simp only [List.getElem?_map, Option.map_eq_some_iff] at hv
        obtain ⟨x, hx1, rfl⟩ := hv
        have hj : j < ys.length := (List.getElem?_eq_some_iff.1 hx1).1
        have e : at8 ys j = x := by simp [at8, hx1]
        have hadd : (⟨b, off, none⟩ : Addr).add j = ⟨b, off + j, none⟩ := by unfold Addr.add; split <;> simp_all
        rw [hadd, hy j hj, e]; rfl) (fun u hv => by
        simp only [List.mem_map] at hv
        obtain ⟨x, _, rfl⟩ := hv
        rfl) (by simp only [maxLen]; omega) (by omega) hB
    exact ⟨v', w', h4, by rw [List.map_append]; exact h5, h6⟩
theorem ownB_slice {w : World} {B n : Nat} {v : Value} {zs : List F} (ho : w.ownsRow B 5 1 v n (zs.map vf)) : ∃ a cap, v = .slice a n cap ∧ Row8 w a zs ∧ n = zs.length ∧ (a = none → cap = 0) := by
  have hl := ho.1
  rw [List.length_map] at hl
  rcases ho.2 with ⟨rfl, e⟩ | ⟨g, cap, cur, rfl, h2⟩
  · exact ⟨none, 0, by rw [e], .inl (List.eq_nil_of_length_eq_zero (by omega)), by omega, fun _ => rfl⟩
  · refine ⟨_, _, rfl, .inr ⟨g, 0, rfl, fun j hj => ?_⟩, by omega, fun h => by cases h⟩
    rw [Nat.zero_add, ho.cellAt j (by omega), List.getElem?_map, List.getElem?_eq_getElem hj]
    simp [at8, hj, vf]
theorem own_mono {w : World} {B B' size n : Nat} {v : Value} {e : TypeId} {xs : List Value} (h : w.ownsRow B e size v n xs) (hb : B' ≤ B) : w.ownsRow B' e size v n xs :=
  ⟨h.1, h.2.imp id fun ⟨g, cap, cur, h1, h2, h3⟩ => ⟨g, cap, cur, h1, Nat.le_trans hb h2, h3⟩⟩
theorem rows_cap_later {w w' : World} {a : Option Addr} {L : List (List F)} (hX : Rows8 w a L) (hb : Below w.heap.size w w')
    (hcp : ∀ b off, a = some ⟨b, off, none⟩ → ∀ j n a' cap', w.cell? ⟨b, off + j, none⟩ = some (.slice a' n cap') → j < L.length → a' = none → cap' = 0) :
    ∀ b off, a = some ⟨b, off, none⟩ → ∀ j n a' cap', w'.cell? ⟨b, off + j, none⟩ = some (.slice a' n cap') → j < L.length → a' = none → cap' = 0 := by
  intro b off e j n a' cap' hc hj ha
  rcases hX with e0 | ⟨b2, off2, e2, hrows⟩
  · rw [e0] at hj; simp at hj
  · rw [e] at e2
    cases e2
    obtain ⟨a1, cap1, h1, _⟩ := hrows j _ (List.getElem?_eq_getElem hj)
    have h2 := cell_later hb h1
    rw [hc] at h2
    simp only [Option.some.injEq, Value.slice.injEq] at h2
    obtain ⟨q1, q2, q3⟩ := h2
    rw [q3]
    exact hcp b off e j _ a1 cap1 h1 hj (by rw [← q1]; exact ha)
end Go.Proofs.YtkoakingmnjdoaaGreatDoor

/- Facts for the statement MatPlaces: refusals of Take, two lists apart, the document's own Row, an append in a drawn region. -/
namespace Go.Proofs.YtkoakingmnjdoaaGreatDoor
open Go.RowKit Gf
set_option linter.unusedVariables false
set_option maxRecDepth 20000
set_option maxHeartbeats 1000000 in
theorem take_bad (r c : Int) (a an : Option Addr) (l cap ln cn : Nat) (w : World) (s : Addr) (hs : w.cell? ⟨4, 0, none⟩ = some (errAt s)) (h : ¬ (0 ≤ r ∧ r ≤ 64 ∧ 0 ≤ c ∧ c ≤ 64 ∧ (l : Int) = r * c)) :
    Calls Tryz.prog 89 #[.agg #[.int .i64 r, .int .i64 c, .slice a l cap], .slice an ln cn] w fun e w' => e = .returned (.tuple #[.agg #[.int .i64 0, .int .i64 0, .slice none 0 0], errAt s]) ∧ Below w.heap.size w w' := by
  have hlt := World.block_lt_of_cell? w _ hs
  simp at hlt
  have H : Hid _ := h
  clear h
  have HS : Hid _ := cell?_alloc_old (.cells #[.int .i64 0, .int .i64 0, .slice none 0 0] 73) (cell?_alloc_old (.cells #[.int .i64 r, .int .i64 c, .slice a l cap] 73) hs)
  unfold errAt at *
  go_enter Tryz.func89, Tryz.ntmps89
  go_wp2_with fail
  refine Calls.mono (check_bad r c a l cap _ _ HS.out H.out) ?_
  rintro e w1 ⟨rfl, hb1⟩
  have k1 := heap_later (heap_alloc2_new w (.cells #[.int .i64 r, .int .i64 c, .slice a l cap] 73) (.cells #[.int .i64 0, .int .i64 0, .slice none 0 0] 73)) hb1
  have c4 := cellAt k1 0 _ rfl
  have c5 := cellAt k1 1 _ rfl
  have c6 := cellAt k1 2 _ rfl
  have d4 : w1.frozen? ⟨w.heap.size + 1, 0, none⟩ = false := frozen_of_row _ _ _ _ _ k1
  have d5 : w1.frozen? ⟨w.heap.size + 1, 1, none⟩ = false := frozen_of_row _ _ _ _ _ k1
  have d6 : w1.frozen? ⟨w.heap.size + 1, 2, none⟩ = false := frozen_of_row _ _ _ _ _ k1
  have c9 := cell_later hb1 HS.out
  have HB1 : Hid (Below w.heap.size w w1) := (((Below.refl w.heap.size w).alloc (Nat.le_refl _) _).alloc (by simp) _).trans (hb1.mono (by simp; omega))
  clear hb1 k1
  go_wp2
  go_region
  go_wp2
  refine bodyPost_ret (v := .tuple #[.agg #[.int .i64 0, .int .i64 0, .slice none 0 0], .iface 191 (.pointer (some s))]) (by simp [results, Tryz.results89, go_sem, c4, c5, c6]) rfl ⟨rfl, ?_⟩
  exact (((HB1.out.setCell (by simp) _).setCell (by simp) _).setCell (by simp) _).drew
set_option maxHeartbeats 1000000 in
theorem take_long (r c : Nat) (a an : Option Addr) (l cap ln cn : Nat) (w : World) (s : Addr) (hs : w.cell? ⟨4, 0, none⟩ = some (errAt s)) (hr : r ≤ 64) (hc : c ≤ 64) (hl : l = r * c) (hn : 64 < ln) :
    Calls Tryz.prog 89 #[.agg #[.int .i64 r, .int .i64 c, .slice a l cap], .slice an ln cn] w fun e w' => e = .returned (.tuple #[.agg #[.int .i64 0, .int .i64 0, .slice none 0 0], errAt s]) ∧ Below w.heap.size w w' := by
  have hlt := World.block_lt_of_cell? w _ hs
  simp at hlt
  have HL : Hid _ := hl
  clear hl
  have HS : Hid _ := cell?_alloc_old (.cells #[.int .i64 0, .int .i64 0, .slice none 0 0] 73) (cell?_alloc_old (.cells #[.int .i64 r, .int .i64 c, .slice a l cap] 73) hs)
  unfold errAt at *
  go_enter Tryz.func89, Tryz.ntmps89
  go_wp2_with fail
  refine Calls.mono (check_ok r c a l cap _ hr hc HL.out) ?_
  rintro e w1 ⟨rfl, hb1⟩
  have k1 := heap_later (heap_alloc2_new w (.cells #[.int .i64 r, .int .i64 c, .slice a l cap] 73) (.cells #[.int .i64 0, .int .i64 0, .slice none 0 0] 73)) hb1
  have c4 := cellAt k1 0 _ rfl
  have c5 := cellAt k1 1 _ rfl
  have c6 := cellAt k1 2 _ rfl
  have d4 : w1.frozen? ⟨w.heap.size + 1, 0, none⟩ = false := frozen_of_row _ _ _ _ _ k1
  have d5 : w1.frozen? ⟨w.heap.size + 1, 1, none⟩ = false := frozen_of_row _ _ _ _ _ k1
  have d6 : w1.frozen? ⟨w.heap.size + 1, 2, none⟩ = false := frozen_of_row _ _ _ _ _ k1
  have c9 := cell_later hb1 HS.out
  have HB1 : Hid (Below w.heap.size w w1) := (((Below.refl w.heap.size w).alloc (Nat.le_refl _) _).alloc (by simp) _).trans (hb1.mono (by simp; omega))
  clear hb1 k1
  go_wp2
  go_region
  go_wp2
  refine bodyPost_ret (v := .tuple #[.agg #[.int .i64 0, .int .i64 0, .slice none 0 0], .iface 191 (.pointer (some s))]) (by simp [results, Tryz.results89, go_sem, c4, c5, c6]) rfl ⟨rfl, ?_⟩
  exact (((HB1.out.setCell (by simp) _).setCell (by simp) _).setCell (by simp) _).drew

theorem wanted_append_run {P : Program} {w : World} {o : Oper} {a : Act} {K : Act → World → Prop} {Q : Exit → Act → World → Prop} {ys : Nat → Option Bool} {L : Prop} (hgd : o.guard = none) (s x : Operand) (t : TypeId)
    (ho : o.op = .call { callee := .builtin .append, args := #[s, x], argTypes := #[t, t] }) (v u r : Value) (w' : World) (hs : a.eval s = v) (hx : a.eval x = u)
    (hr : (Builtin.append_ #[t, t] o.type #[v, u]).run P w = .ok r w') (h : K (a.put o.dst r) w') : if Region.wanted o ys = true then Oper.wp P o a w K Q else L := by
  rw [if_pos (by simp [Region.wanted, hgd])]
  unfold Oper.wp execOp
  simp only [ho, resolve, invoke, builtin, Sem.run_bind, Sem.run_pure, Result.andThen_ok, List.map_toArray, List.map_cons, List.map_nil, hs, hx, hr]
  exact h
theorem kind_ne {w : World} {a b : Nat} {cs ds : Array Value} {t u : TypeId} {f1 f2 : Nat × Nat} (h1 : w.heap[a]? = some (.cells cs t f1)) (h2 : w.heap[b]? = some (.cells ds u f2)) (h : t ≠ u) : a ≠ b := fun e => by
  subst e; rw [h1] at h2; cases h2; exact h rfl
theorem grown_some {w w' : World} (g : Nat) (h : w.grownBy w' none) : w.grownBy w' (some g) := ⟨h.os, h.tape, h.output, h.size, fun k hk _ => h.block k hk (by simp)⟩
theorem grown_keep {w w' : World} {r : Option Nat} {k : Nat} {o : Obj} (h : w.grownBy w' r) (hk : w.heap[k]? = some o) (hne : some k ≠ r) : w'.heap[k]? = some o := (h.block k (Array.getElem?_eq_some_iff.1 hk).1 hne).trans hk

theorem has8_take {w : World} {g cap : Nat} {xs : List F} (h : Has8 w g xs cap) (m : Nat) : Has8 w g (xs.take m) cap := by
  obtain ⟨cur, hg, hs, hl, hm, ht⟩ := h
  refine ⟨cur, hg, hs, by rw [List.length_take]; omega, hm, ?_⟩
  rw [List.map_take, ← ht, List.take_take, List.length_take]
theorem row8_grown {w w' : World} {r : Option Nat} {g : Nat} {xs : List F} (h : Row8 w (some ⟨g, 0, none⟩) xs) (hb : w.grownBy w' r) (hg : g < w.heap.size) (hne : some g ≠ r) : Row8 w' (some ⟨g, 0, none⟩) xs := by
  rcases h with e | ⟨b, off, e, h⟩
  · exact .inl e
  · cases e
    refine .inr ⟨g, 0, rfl, fun j hj => ?_⟩
    rw [← h j hj]
    simp only [World.cell?, hb.block g hg hne]
theorem append8_both {w : World} {g n cap : Nat} {xs ys : List F} {ad : Addr} {m c : Nat} (ty : TypeId) (h : Has8 w g xs cap) (hn : n = xs.length) (hm : m = ys.length) (hb : n + m ≤ 140737488355328)
    (hy : ∀ j, j < ys.length → w.cell? (ad.add j) = some (.int .u8 ((at8 ys j).toNat : Int))) :
    ∃ g' cap' w', (Builtin.append_ #[23, 23] ty #[.slice (some ⟨g, 0, none⟩) n cap, .slice (some ad) m c]).run Tryz.prog w = .ok (.slice (some ⟨g', 0, none⟩) (n + m) cap') w' ∧
      Has8 w' g' (xs ++ ys) cap' ∧ w.grownBy w' (some g) ∧ (g' = g ∨ w.heap.size ≤ g' ∧ w.grownBy w' none) := by
  by_cases hroom : n + m ≤ cap
  · subst hn hm
    obtain ⟨i, hi, h1, h2, h3⟩ := info8
    obtain ⟨cur, hg, hs, hl, hmx, ht⟩ := h
    have hown : w.ownsRow 0 5 1 (.slice (some ⟨g, 0, none⟩) xs.length cap) xs.length (xs.map vf) :=
      ⟨by simp, .inr ⟨g, cap, cur, rfl, Nat.zero_le _, hg, hl, hmx, by omega, by rw [Nat.mul_one]; exact ht⟩⟩
    obtain ⟨w', hrun, ho, hgr⟩ := run_append_fits (P := Tryz.prog) w 0 23 ty 5 i 1 Tryz.underlying23 hi h1 g xs.length cap _ hown ad ys.length c (ys.map vf) (by simp) (fun j v hv => by
        simp only [List.getElem?_map, Option.map_eq_some_iff] at hv
        obtain ⟨x, hx1, rfl⟩ := hv
        have hj : j < ys.length := (List.getElem?_eq_some_iff.1 hx1).1
        have e : at8 ys j = x := by simp [at8, hx1]
        rw [hy j hj, e]; rfl) (fun v hv => by
        simp only [List.mem_map] at hv
        obtain ⟨x, _, rfl⟩ := hv
        rfl) hroom
    rcases ho.2 with ⟨hv, _⟩ | ⟨g', cap', cur', hv, _, hg', hl', hm', hs', ht'⟩
    · cases hv
    · cases hv
      exact ⟨g, cap, w', hrun, ⟨cur', hg', by omega, by simpa using hl', hm', by rw [List.length_append, List.map_append, ← ht', Nat.mul_one]⟩, hgr, .inl rfl⟩
  · obtain ⟨g', cap', w', h1, h2, h3, h4⟩ := append8_grows (cap := cap) (m := m) (c := c) ty (row8_has h) hn hm (by omega) hb hy
    exact ⟨g', cap', w', h1, h2, ⟨h3.os, h3.tape, h3.output, h3.size, fun k hk _ => h3.block k hk (by simp)⟩, .inr ⟨h4, h3⟩⟩
/-- the second list nil -/
theorem append8_nil (w : World) {ys : List F} {ad : Addr} {m c : Nat} (ty : TypeId) (hm : m = ys.length) (h0 : 0 < m) (hb : m ≤ 140737488355328)
    (hy : ∀ j, j < ys.length → w.cell? (ad.add j) = some (.int .u8 ((at8 ys j).toNat : Int))) :
    ∃ g' cap' w', (Builtin.append_ #[23, 23] ty #[.slice none 0 0, .slice (some ad) m c]).run Tryz.prog w = .ok (.slice (some ⟨g', 0, none⟩) m cap') w' ∧
      Has8 w' g' ys cap' ∧ w.grownBy w' none ∧ w.heap.size ≤ g' := by
  subst hm
  obtain ⟨i, hi, h1, h2, h3⟩ := info8
  obtain ⟨v', w', hrun, ho, hgr, hnil, hat⟩ := run_append_own_at (P := Tryz.prog) w w.heap.size 23 ty 5 i _ 1 1 Tryz.underlying23 hi h3 h1 h2 rfl (by decide)
    (.slice none 0 0) 0 [] ⟨rfl, .inl ⟨rfl, rfl⟩⟩ ad ys.length c (ys.map vf) (by simp) (fun j v hv => by
      simp only [List.getElem?_map, Option.map_eq_some_iff] at hv
      obtain ⟨x, hx1, rfl⟩ := hv
      have hj : j < ys.length := (List.getElem?_eq_some_iff.1 hx1).1
      have e : at8 ys j = x := by simp [at8, hx1]
      rw [hy j hj, e]; rfl) (fun v hv => by
      simp only [List.mem_map] at hv
      obtain ⟨x, _, rfl⟩ := hv
      rfl) (by simp only [maxLen]; omega) (by omega) (Nat.le_refl _)
  rcases ho.2 with ⟨hv, hn⟩ | ⟨g', cap', cur', hv, hg, hg', hl', hm', hs', ht'⟩
  · have := (hnil.1 hv).2
    omega
  · subst hv
    refine ⟨g', cap', w', by rw [hrun, Nat.zero_add], ⟨cur', hg', by omega, by simpa using hl', hm', ?_⟩, hgr, hg⟩
    rw [← List.nil_append (ys.map vf), ← ht', Nat.mul_one, Nat.zero_add]
set_option maxHeartbeats 1000000 in
theorem rrow_some (r c i b off l cap : Nat) (xs : List F) (w : World) (hr : r ≤ 64) (hc : c ≤ 64) (hi : i < r) (hl : l = r * c) (hx : xs.length = r * c) (hcap : l ≤ cap) (hX : Row8 w (some ⟨b, off, none⟩) xs) :
    Calls Tryz.prog 53 #[.agg #[.int .i64 r, .int .i64 c, .slice (some ⟨b, off, none⟩) l cap], .int .i64 i] w fun e w' => ∃ g cap', e = .returned (.slice (some ⟨g, 0, none⟩) c cap') ∧ w.heap.size ≤ g ∧ Has8 w' g (rowAt c xs i) cap' ∧ Below w.heap.size w w' := by
  obtain ⟨m0, m1⟩ := mul_small (r := i) (c := c) (by omega) hc
  have m5 : i * c + c ≤ l := by
    have := Nat.mul_le_mul_right c (show i + 1 ≤ r from hi)
    rw [Nat.succ_mul] at this; omega
  have hl6 : l ≤ 4096 := by have := mul_small hr hc; have e : (r : Int) * (c : Int) = ((r * c : Nat) : Int) := by simp
                            omega
  have m4 : (i : Int) * (c : Int) = ((i * c : Nat) : Int) := by simp
  have m3 : ((i : Int) + 1) * (c : Int) = ((i * c : Nat) : Int) + (c : Int) := by rw [Int.add_mul, Int.one_mul, m4]
  have hrow : Row8 w (some ⟨b, rof off (i * c) cap, none⟩) (rowAt c xs i) := by
    rcases hX with e | ⟨b2, off2, e, h⟩
    · left
      rw [e]; simp [rowAt]
    · cases e
      exact row8_rowAt hx hi (by omega) h
  have hlen := rowAt_len hx hi
  generalize hp : i * c = p at m3 m4 m5 hrow ⊢
  rw [m4] at m0 m1
  have hh := heap_alloc_last (w.alloc (.cells #[.int .i64 r, .int .i64 c, .slice (some ⟨b, off, none⟩) l cap] 73)) (.cells #[] 5)
  obtain ⟨g', cap', w2, h1, h2, h3, h4⟩ := append8_new (g := w.heap.size + 1) (m := c) (c := cap - p) (a := some ⟨b, rof off p cap, none⟩) (ys := rowAt c xs i) 23 (by simpa using hh) hlen.symm (by omega) (row8_alloc (row8_alloc hrow _) _) (fun h => by cases h)
  have HR : Hid _ := h1
  have H2 : Hid _ := h2
  have HB : Hid (Below w.heap.size w w2) := grownBy_below (g := w.heap.size + 1) ((((Below.refl _ _).alloc (Nat.le_refl _) _).alloc (by simp) _)) ⟨h3.os, h3.tape, h3.output, h3.size, fun k hk _ => h3.block k hk (by simp)⟩ (by omega) (by simp; omega)
  have hg : w.heap.size ≤ g' := by
    rcases h4 with rfl | h4
    · omega
    · simp at h4; omega
  clear h1 h2 h3 h4 hh hX hrow hlen hp hl hx
  by_cases h : cap = p
  · subst h
    rw [rof_same] at HR
    have h0 : cap - cap = 0 := Nat.sub_self _
    rw [h0] at HR
    go_enter Tryz.func53, Tryz.ntmps53
    go_wp2_with (at_builtin; refine wpList_append_run rfl _ _ 23 rfl _ _ _ _ rfl ?_ HR.out ?_)
    · simp only [Nat.add_sub_cancel_left]
      rfl
    · go_wp2
      go_ret
      exact ⟨g', cap', rfl, hg, H2.out, HB.out⟩
  · rw [rof_room h] at HR
    go_enter Tryz.func53, Tryz.ntmps53
    go_wp2_with (at_builtin; refine wpList_append_run rfl _ _ 23 rfl _ _ _ _ rfl ?_ HR.out ?_)
    · simp only [Nat.add_sub_cancel_left]
      rfl
    · go_wp2
      go_ret
      exact ⟨g', cap', rfl, hg, H2.out, HB.out⟩

set_option maxHeartbeats 1000000 in
theorem rrow_nil (r i cap : Nat) (a : Option Addr) (w : World) (hi : i < 64) (hnil : a = none → cap = 0) :
    Calls Tryz.prog 53 #[.agg #[.int .i64 r, .int .i64 0, .slice a 0 cap], .int .i64 i] w fun e w' => ∃ g cap', e = .returned (.slice (some ⟨g, 0, none⟩) 0 cap') ∧ w.heap.size ≤ g ∧ Has8 w' g [] cap' ∧ Below w.heap.size w w' := by
  have hh := heap_alloc_last (w.alloc (.cells #[.int .i64 r, .int .i64 0, .slice a 0 cap] 73)) (.cells #[] 5)
  rw [World.size_alloc] at hh
  obtain ⟨g', cap', w2, h1, h2, h3, h4⟩ := append8_new (m := 0) (c := cap) (a := a) (ys := []) 23 hh rfl (by omega) (.inl rfl) hnil
  have HR : Hid _ := h1
  have H2 : Hid _ := h2
  have HB : Hid (Below w.heap.size w w2) := grownBy_below (g := w.heap.size + 1) ((((Below.refl _ _).alloc (Nat.le_refl _) _).alloc (by simp) _)) ⟨h3.os, h3.tape, h3.output, h3.size, fun k hk _ => h3.block k hk (by simp)⟩ (by omega) (by simp; omega)
  have hg : w.heap.size ≤ g' := by
    rcases h4 with rfl | h4
    · omega
    · simp at h4; omega
  have HN : Hid _ := hnil
  clear h1 h2 h3 h4 hh hnil
  by_cases h : cap = 0
  · subst h
    go_enter Tryz.func53, Tryz.ntmps53
    go_wp2_with (at_builtin; refine wpList_append_run rfl _ _ 23 rfl _ _ _ _ rfl rfl HR.out ?_)
    go_wp2
    go_ret
    exact ⟨g', cap', rfl, hg, H2.out, HB.out⟩
  · cases a with
    | none => exact absurd (HN.out rfl) h
    | some ad =>
      obtain ⟨b, off, tg⟩ := ad
      go_enter Tryz.func53, Tryz.ntmps53
      go_wp2_with (at_builtin; refine wpList_append_run rfl _ _ 23 rfl _ _ _ _ rfl rfl HR.out ?_)
      go_wp2
      go_ret
      exact ⟨g', cap', rfl, hg, H2.out, HB.out⟩
/-- of every matrix in form, every row that is there -/
theorem rrow_F (r c i l cap : Nat) (a : Option Addr) (xs : List F) (w : World) (hr : r ≤ 64) (hc : c ≤ 64) (hi : i < r) (hl : l = r * c) (hx : xs.length = r * c) (hcap : l ≤ cap) (hX : Row8 w a xs) (hnil : a = none → cap = 0) :
    Calls Tryz.prog 53 #[.agg #[.int .i64 r, .int .i64 c, .slice a l cap], .int .i64 i] w fun e w' => ∃ g cap', e = .returned (.slice (some ⟨g, 0, none⟩) c cap') ∧ w.heap.size ≤ g ∧ Has8 w' g (rowAt c xs i) cap' ∧ Below w.heap.size w w' := by
  rcases hX with e | ⟨b, off, rfl, h⟩
  · have h0 : r * c = 0 := by rw [← hx, e]; rfl
    have hc0 : c = 0 := by
      rcases Nat.mul_eq_zero.1 h0 with h | h
      · omega
      · exact h
    subst hc0
    obtain rfl : l = 0 := by omega
    refine (rrow_nil r i cap a w (by omega) hnil).mono fun e' w' ⟨g, cap', h⟩ => ⟨g, cap', ?_⟩
    have e0 : rowAt 0 xs i = [] := List.eq_nil_of_length_eq_zero (rowAt_len hx hi)
    rw [e0]
    exact h
  · exact rrow_some r c i b off l cap xs w hr hc hi hl hx hcap (.inr ⟨b, off, rfl, h⟩)
end Go.Proofs.YtkoakingmnjdoaaGreatDoor

/- Plain algebra of stage 10: what a straight-line program makes of sums of inputs, and what its meaning says of all inputs; no program is spoken of. -/
namespace Go.Proofs.YtkoakingmnjdoaaGreatDoor
open Gf
set_option linter.unusedVariables false
set_option maxRecDepth 20000
def gaR (R S : Regs) : Regs := fun d b => ga (R d b) (S d b)
theorem ga4 (a b c d : F) : ga (ga a b) (ga c d) = ga (ga a c) (ga b d) := by
  rw [F.add_assoc, F.add_assoc, F.add_left_comm b c d]
theorem doR_1 {X : Int → Nat → F} {s : Stp} {R : Regs} (h : s.op = 1) : doR X s R = setR R s.dst (X s.src) := by rw [doR, if_pos h]
theorem doR_2 {X : Int → Nat → F} {s : Stp} {R : Regs} (h : s.op = 2) : doR X s R = setR R s.dst (fun _ => 0) := by rw [doR, if_neg (by omega), if_pos h]
theorem doR_3 {X : Int → Nat → F} {s : Stp} {R : Regs} (h : s.op = 3) : doR X s R = setR R s.dst (fun b => gm s.c (R s.dst b)) := by rw [doR, if_neg (by omega), if_neg (by omega), if_pos h]
theorem doR_4 {X : Int → Nat → F} {s : Stp} {R : Regs} (h : s.op = 4) : doR X s R = setR R s.dst (fun b => ga (R s.dst b) (gm s.c (R s.src b))) := by rw [doR, if_neg (by omega), if_neg (by omega), if_neg (by omega), if_pos h]
theorem doR_n {X : Int → Nat → F} {s : Stp} {R : Regs} (h1 : s.op ≠ 1) (h2 : s.op ≠ 2) (h3 : s.op ≠ 3) (h4 : s.op ≠ 4) : doR X s R = R := by rw [doR, if_neg h1, if_neg h2, if_neg h3, if_neg h4]
theorem gaR_setR (R S : Regs) (d : Int) (v u : Nat → F) : gaR (setR R d v) (setR S d u) = setR (gaR R S) d (fun b => ga (v b) (u b)) := by
  funext r b
  by_cases e : r = d
  · subst e; simp only [gaR, setR_same]
  · simp only [gaR, setR_other e]
theorem doR_add (X Y : Int → Nat → F) (s : Stp) (R S : Regs) : doR (gaR X Y) s (gaR R S) = gaR (doR X s R) (doR Y s S) := by
  by_cases h1 : s.op = 1
  · rw [doR_1 h1, doR_1 h1, doR_1 h1, gaR_setR]; rfl
  by_cases h2 : s.op = 2
  · rw [doR_2 h2, doR_2 h2, doR_2 h2, gaR_setR]; simp only [F.add_self]
  by_cases h3 : s.op = 3
  · rw [doR_3 h3, doR_3 h3, doR_3 h3, gaR_setR]; simp only [gaR, F.mul_add]
  by_cases h4 : s.op = 4
  · rw [doR_4 h4, doR_4 h4, doR_4 h4, gaR_setR]; simp only [gaR, F.mul_add]; congr 1; funext b; exact ga4 _ _ _ _
  · rw [doR_n h1 h2 h3 h4, doR_n h1 h2 h3 h4, doR_n h1 h2 h3 h4]
theorem doO_add (s : Stp) (R S O P : Regs) : doO s (gaR R S) (gaR O P) = gaR (doO s R O) (doO s S P) := by
  unfold doO
  by_cases h5 : s.op = 5
  · rw [if_pos h5, if_pos h5, if_pos h5, gaR_setR]; rfl
  · rw [if_neg h5, if_neg h5, if_neg h5]
theorem runO_add (X Y : Int → Nat → F) : ∀ (l : List Stp) (R S O P : Regs), runO (gaR X Y) l (gaR R S) (gaR O P) = gaR (runO X l R O) (runO Y l S P)
  | [], R, S, O, P => rfl
  | s :: l, R, S, O, P => by rw [runO, runO, runO, doR_add, doO_add]; exact runO_add X Y l _ _ _ _
def noR : Regs := fun _ _ => 0
theorem gaR_no : gaR noR noR = noR := by funext r b; exact F.add_self _
/-- of sums of inputs the sums of outputs -/
theorem run_sum (X Y : Int → Nat → F) (l : List Stp) : runO (gaR X Y) l noR noR = gaR (runO X l noR noR) (runO Y l noR noR) := by
  have := runO_add X Y l noR noR noR noR
  rwa [gaR_no] at this
/-- inputs that are alike where they are loaded make alike outputs -/
theorem run_alike {X Y : Int → Nat → F} {b : Nat} : ∀ {l : List Stp}, (∀ s ∈ l, s.op = 1 → X s.src b = Y s.src b) → ∀ (R S O P : Regs), (∀ r, R r b = S r b) → (∀ r, O r b = P r b) → ∀ r, runO X l R O r b = runO Y l S P r b
  | [], h, R, S, O, P, hR, hO, r => hO r
  | s :: l, h, R, S, O, P, hR, hO, r => by
    rw [runO, runO]
    refine run_alike (fun t ht => h t (List.mem_cons_of_mem _ ht)) _ _ _ _ (fun q => ?_) (fun q => ?_) r
    · have h1' := h s (List.mem_cons_self ..)
      by_cases h1 : s.op = 1
      · rw [doR_1 h1, doR_1 h1]
        by_cases e : q = s.dst
        · subst e; rw [setR_same, setR_same]; exact h1' h1
        · rw [setR_other e, setR_other e]; exact hR q
      by_cases h2 : s.op = 2
      · rw [doR_2 h2, doR_2 h2]
        by_cases e : q = s.dst
        · subst e; rw [setR_same, setR_same]
        · rw [setR_other e, setR_other e]; exact hR q
      by_cases h3 : s.op = 3
      · rw [doR_3 h3, doR_3 h3]
        by_cases e : q = s.dst
        · subst e; rw [setR_same, setR_same, hR]
        · rw [setR_other e, setR_other e]; exact hR q
      by_cases h4 : s.op = 4
      · rw [doR_4 h4, doR_4 h4]
        by_cases e : q = s.dst
        · subst e; rw [setR_same, setR_same, hR, hR]
        · rw [setR_other e, setR_other e]; exact hR q
      · rw [doR_n h1 h2 h3 h4, doR_n h1 h2 h3 h4]; exact hR q
    · unfold doO
      by_cases h5 : s.op = 5
      · rw [if_pos h5, if_pos h5]
        by_cases e : q = s.dst
        · subst e; rw [setR_same, setR_same]; exact hR _
        · rw [setR_other e, setR_other e]; exact hO q
      · rw [if_neg h5, if_neg h5]; exact hO q
/-- what a state is of the inputs, told by what it is of unit columns -/
def MeanR (X : Int → Nat → F) (n b : Nat) (R U : Regs) : Prop := ∀ r, R r b = sumF (fun i => gm (U r i) (X (i : Int) b)) n
theorem meanR_do {X : Int → Nat → F} {n b : Nat} {R U : Regs} {s : Stp} (h : MeanR X n b R U) (hs : s.op = 1 → 0 ≤ s.src ∧ s.src < n) : MeanR X n b (doR X s R) (doR unX s U) := by
  intro r
  by_cases h1 : s.op = 1
  · rw [doR_1 h1, doR_1 h1]
    by_cases e : r = s.dst
    · subst e
      rw [setR_same]
      simp only [setR_same]
      obtain ⟨ha, hb⟩ := hs h1
      obtain ⟨k, hk⟩ := Int.eq_ofNat_of_zero_le ha
      rw [sumF_pick (fun i => gm (unX s.src i) (X (i : Int) b)) k n (by omega) (fun l _ hl => by
        simp only [unX]; rw [if_neg (by omega), F.zero_mul])]
      simp only [unX]; rw [if_pos (by omega), F.one_mul, hk]
    · rw [setR_other e]; simp only [setR_other e]; exact h r
  by_cases h2 : s.op = 2
  · rw [doR_2 h2, doR_2 h2]
    by_cases e : r = s.dst
    · subst e; rw [setR_same]; simp only [setR_same]; exact (sumF_none fun l _ => F.zero_mul _).symm
    · rw [setR_other e]; simp only [setR_other e]; exact h r
  by_cases h3 : s.op = 3
  · rw [doR_3 h3, doR_3 h3]
    by_cases e : r = s.dst
    · subst e; rw [setR_same]; simp only [setR_same]; rw [h s.dst, sumF_mul_left]; exact sumF_congr fun l _ => (F.mul_assoc _ _ _).symm
    · rw [setR_other e]; simp only [setR_other e]; exact h r
  by_cases h4 : s.op = 4
  · rw [doR_4 h4, doR_4 h4]
    by_cases e : r = s.dst
    · subst e; rw [setR_same]; simp only [setR_same]; rw [h s.dst, h s.src, sumF_mul_left, ← sumF_add]; exact sumF_congr fun l _ => by rw [F.add_mul, F.mul_assoc]
    · rw [setR_other e]; simp only [setR_other e]; exact h r
  · rw [doR_n h1 h2 h3 h4, doR_n h1 h2 h3 h4]; exact h r
theorem meanO_do {X : Int → Nat → F} {n b : Nat} {R U O V : Regs} {s : Stp} (h : MeanR X n b R U) (k : MeanR X n b O V) : MeanR X n b (doO s R O) (doO s U V) := by
  intro r
  unfold doO
  by_cases h5 : s.op = 5
  · rw [if_pos h5, if_pos h5]
    by_cases e : r = s.dst
    · subst e; rw [setR_same]; simp only [setR_same]; exact h _
    · rw [setR_other e]; simp only [setR_other e]; exact k r
  · rw [if_neg h5, if_neg h5]; exact k r
theorem meanR_run {X : Int → Nat → F} {n b : Nat} : ∀ {l : List Stp}, (∀ s ∈ l, s.op = 1 → 0 ≤ s.src ∧ s.src < n) → ∀ {R U O V : Regs}, MeanR X n b R U → MeanR X n b O V → MeanR X n b (runO X l R O) (runO unX l U V)
  | [], _, R, U, O, V, h, k => k
  | s :: l, hs, R, U, O, V, h, k => by
    rw [runO, runO]
    exact meanR_run (fun t ht => hs t (List.mem_cons_of_mem _ ht)) (meanR_do h (hs s (List.mem_cons_self ..))) (meanO_do h k)
theorem meanR_no (X : Int → Nat → F) (n b : Nat) : MeanR X n b noR noR := fun r => (sumF_none fun l _ => F.zero_mul _).symm
/-- the outputs are the meaning's rows times the inputs -/
theorem run_mean (X : Int → Nat → F) (n b : Nat) {l : List Stp} (hs : ∀ s ∈ l, s.op = 1 → 0 ≤ s.src ∧ s.src < n) (d : Int) : runO X l noR noR d b = sumF (fun i => gm (runO unX l noR noR d i) (X (i : Int) b)) n := meanR_run hs (meanR_no X n b) (meanR_no X n b) d
end Go.Proofs.YtkoakingmnjdoaaGreatDoor

/- What stepsFit and Check of package prog answer, of all programs. -/
namespace Go.Proofs.YtkoakingmnjdoaaGreatDoor
open Go.RowKit Gf
set_option linter.unusedVariables false
set_option maxRecDepth 20000
set_option linter.unusedSimpArgs false
/-- a program in memory -/
structure PrgW (w : World) (ia oa sa : Option Addr) (il ic ol oc sl sc : Nat) (ins outs : List Int) (ss : List Stp) : Prop where
  eil : il = ins.length
  eol : ol = outs.length
  esl : sl = ss.length
  i9 : il ≤ 4611686018427387904
  o9 : ol ≤ 4611686018427387904
  s9 : sl ≤ 4611686018427387904
  cil : il ≤ ic
  col : ol ≤ oc
  csl : sl ≤ sc
  inil : ia = none → ic = 0
  onil : oa = none → oc = 0
  snil : sa = none → sc = 0
  I : RowI w ia ins
  O : RowI w oa outs
  S : StpW w sa ss
theorem PrgW.below {w w' : World} {ia oa sa : Option Addr} {il ic ol oc sl sc : Nat} {ins outs : List Int} {ss : List Stp} (h : PrgW w ia oa sa il ic ol oc sl sc ins outs ss) (hb : Below w.heap.size w w') : PrgW w' ia oa sa il ic ol oc sl sc ins outs ss :=
  { h with I := rowI_below h.I hb, O := rowI_below h.O hb, S := stpW_below h.S hb }
/-- all steps fit, each output is made once -/
def FitA (ni no : Nat) (rg : Int) (ss : List Stp) : Prop := (∀ s ∈ ss, OkS ni no rg s) ∧ ∀ d : Nat, d < no → cntO ss d = 1
noncomputable def fitB (ni no : Nat) (rg : Int) (ss : List Stp) : Bool := @decide (FitA ni no rg ss) (Classical.propDecidable _)
theorem fitB_yes {ni no : Nat} {rg : Int} {ss : List Stp} (h : FitA ni no rg ss) : fitB ni no rg ss = true := @decide_eq_true _ (Classical.propDecidable _) h
theorem fitB_no {ni no : Nat} {rg : Int} {ss : List Stp} (h : ¬ FitA ni no rg ss) : fitB ni no rg ss = false := @decide_eq_false _ (Classical.propDecidable _) h
def mdL (no : Nat) (ss : List Stp) : List Bool := (List.range no).map fun d => decide (1 ≤ cntO ss d)
theorem mdL_len (no : Nat) (ss : List Stp) : (mdL no ss).length = no := by simp [mdL]
theorem mdL_nil (no : Nat) : mdL no [] = List.replicate no false := by
  apply List.ext_getElem?
  intro i
  by_cases h : i < no <;> simp [mdL, cntO, h]
theorem mdL_get {no d : Nat} {ss : List Stp} (h : d < no) : (mdL no ss)[d]? = some (decide (1 ≤ cntO ss d)) := by simp [mdL, h]
theorem cnt_not {ss : List Stp} {s : Stp} {d : Nat} (h : s.op ≠ 5) : cntO (ss ++ [s]) d = cntO ss d := by
  have : (s.op == 5) = false := by simpa using h
  simp [cntO, List.countP_append, this]
theorem cnt_out {ss : List Stp} {s : Stp} {d : Nat} (h : s.op = 5) (hd : s.dst = d) : cntO (ss ++ [s]) d = cntO ss d + 1 := by
  simp [cntO, List.countP_append, h, hd]
theorem cnt_other {ss : List Stp} {s : Stp} {d : Nat} (hd : s.dst ≠ d) : cntO (ss ++ [s]) d = cntO ss d := by
  have : (s.dst == (d : Int)) = false := by simpa using hd
  simp [cntO, List.countP_append, this]
theorem cnt_take (ss : List Stp) (j d : Nat) : cntO (ss.take j) d ≤ cntO ss d := by
  conv => rhs; rw [← List.take_append_drop j ss]
  unfold cntO
  rw [List.countP_append]
  omega
theorem mdL_not {no : Nat} {ss : List Stp} {s : Stp} (h : s.op ≠ 5) : mdL no (ss ++ [s]) = mdL no ss := by
  unfold mdL
  apply List.map_congr_left
  intro d _
  rw [cnt_not h]
theorem mdL_out {no d : Nat} {ss : List Stp} {s : Stp} (h : s.op = 5) (hd : s.dst = d) : (mdL no ss).set d true = mdL no (ss ++ [s]) := by
  apply List.ext_getElem?
  intro i
  rw [List.getElem?_set]
  by_cases hi : i < no
  · rw [mdL_get hi, mdL_len]
    by_cases e : d = i
    · subst e
      rw [if_pos rfl, if_pos hi, mdL_get hi, cnt_out h hd]
      simp
    · rw [if_neg e, mdL_get hi, cnt_other (by omega)]
  · rw [List.getElem?_eq_none (by rw [mdL_len]; omega), List.getElem?_eq_none (by rw [mdL_len]; omega)]
    split
    · rw [if_neg (by rw [mdL_len]; omega)]
    · rfl
theorem mdL_all {no : Nat} {ss : List Stp} : false ∈ mdL no ss ↔ ∃ d, d < no ∧ cntO ss d = 0 := by
  simp only [mdL, List.mem_map, List.mem_range, decide_eq_false_iff_not, Nat.not_le]
  constructor
  · rintro ⟨d, h1, h2⟩; exact ⟨d, h1, by omega⟩
  · rintro ⟨d, h1, h2⟩; exact ⟨d, h1, by omega⟩
set_option maxRecDepth 100000 in
set_option maxHeartbeats 8000000 in
theorem stepsFit_F (ia oa sa : Option Addr) (il ic ol oc sl sc : Nat) (ins outs : List Int) (rg : Int) (ss : List Stp) (w : World) (hP : PrgW w ia oa sa il ic ol oc sl sc ins outs ss) (hol : ol ≤ 32) (hsl : sl ≤ 4096) :
    Calls Tryz.prog 108 #[.agg #[.slice ia il ic, .slice oa ol oc, .int .i64 rg, .slice sa sl sc]] w fun e w' => e = .returned (.bool (fitB il ol rg ss)) ∧ Below w.heap.size w w' := by
  obtain ⟨d, hd⟩ : ∃ d, d = fitB il ol rg ss := ⟨_, rfl⟩
  have HY : Hid (FitA il ol rg ss → d = true) := fun h => hd.trans (fitB_yes h)
  have HN : Hid (¬ FitA il ol rg ss → d = false) := fun h => hd.trans (fitB_no h)
  rw [← hd]
  clear hd
  have HSL : Hid (sl = ss.length) := hP.esl
  have HS : Hid (StpW w sa ss) := hP.S
  have hsc := hP.csl
  clear hP
  have hmk := fun u : World => run_makeB9 ol (by omega) u
  have HA : Holds (((w.alloc (.cells #[.slice ia il ic, .slice oa ol oc, .int .i64 rg, .slice sa sl sc] 30)).alloc (.cells #[.int .i64 il, .int .i64 ol, .int .i64 rg] 159)).alloc (.cells (visB (List.replicate ol false)) 4)) [(w.heap.size + 1 + 1, .cells (visB (List.replicate ol false)) 4), (w.heap.size + 1, .cells #[.int .i64 il, .int .i64 ol, .int .i64 rg] 159), (w.heap.size, .cells #[.slice ia il ic, .slice oa ol oc, .int .i64 rg, .slice sa sl sc] 30)] := by
    have h := holds_new (holds_new (holds_new (holds_nil w) #[.slice ia il ic, .slice oa ol oc, .int .i64 rg, .slice sa sl sc] 30) #[.int .i64 il, .int .i64 ol, .int .i64 rg] 159) (visB (List.replicate ol false)) 4
    simp only [World.size_alloc] at h
    exact h
  have HB0 : Hid (Below w.heap.size w (((w.alloc (.cells #[.slice ia il ic, .slice oa ol oc, .int .i64 rg, .slice sa sl sc] 30)).alloc (.cells #[.int .i64 il, .int .i64 ol, .int .i64 rg] 159)).alloc (.cells (visB (List.replicate ol false)) 4))) := (((Below.refl _ w).alloc (Nat.le_refl _) _).alloc (by simp) _).alloc (by simp; omega) _
  have HA0 : Hid _ := HA
  clear HA
  go_enter Tryz.func108, Tryz.ntmps108
  go_wp2
  clear hmk
  go_loopw [25] (fun i wr => ∃ j : Nat, j ≤ sl ∧ i = .int .i64 j ∧ Below w.heap.size w wr ∧ Holds wr [(w.heap.size + 1 + 1, .cells (visB (mdL ol (ss.take j))) 4), (w.heap.size + 1, .cells #[.int .i64 il, .int .i64 ol, .int .i64 rg] 159), (w.heap.size, .cells #[.slice ia il ic, .slice oa ol oc, .int .i64 rg, .slice sa sl sc] 30)] ∧
    (∀ s ∈ ss.take j, OkS il ol rg s) ∧ ∀ d : Nat, d < ol → cntO (ss.take j) d ≤ 1) (fun i _ => sl - (intOf i).toNat)
  case atStart => exact ⟨0, by omega, rfl, HB0.out, by rw [List.take_zero, mdL_nil]; exact HA0.out, fun s h => (by rw [List.take_zero] at h; cases h), fun d _ => by rw [List.take_zero]; exact Nat.zero_le _⟩
  case round =>
    obtain ⟨j, hj, rfl, hb, hh, hok, hcnt⟩ := hrel
    have HB : Hid (Below w.heap.size w wr) := hb
    have HH : Hid _ := hh
    have HOK : Hid (∀ s ∈ ss.take j, OkS il ol rg s) := hok
    have HCN : Hid (∀ d : Nat, d < ol → cntO (ss.take j) d ≤ 1) := hcnt
    clear hb hh hok hcnt
    by_cases hlt : j < sl
    · have hjs : j < ss.length := by rw [← HSL.out]; exact hlt
      obtain ⟨b, off, rfl, hc⟩ := stpW_get (stpW_below HS.out HB.out) hjs
      obtain ⟨c0, c1, c2, c3⟩ := hc j hjs
      obtain ⟨⟨op, dst, src, c⟩, hs⟩ : ∃ s, ss[j] = s := ⟨_, rfl⟩
      rw [hs] at c0 c1 c2 c3
      simp only at c0 c1 c2 c3
      have hget : ss[j]? = some ⟨op, dst, src, c⟩ := by rw [List.getElem?_eq_getElem hjs, hs]
      have htk : ss.take (j + 1) = ss.take j ++ [⟨op, dst, src, c⟩] := by rw [List.take_add_one, hget]; rfl
      have HTK : Hid (ss.take (j + 1) = ss.take j ++ [⟨op, dst, src, c⟩]) := htk
      have HMEM : Hid (⟨op, dst, src, c⟩ ∈ ss) := List.mem_of_getElem? hget
      clear hc hs hget htk hjs
      obtain ⟨cv, hcv⟩ : ∃ cv : Int, cv = (c.toNat : Int) := ⟨_, rfl⟩
      rw [← hcv] at c3
      have HCV : Hid (cv = (c.toNat : Int)) := hcv
      clear hcv
      have HB1 : Hid _ := HB.out.alloc HB.out.size (.cells #[.int .i64 op, .int .i64 dst, .int .i64 src, .int .u8 cv] 105)
      have HH1 : Hid _ := holds_new HH.out #[.int .i64 op, .int .i64 dst, .int .i64 src, .int .u8 cv] 105
      by_cases hop : 1 ≤ op ∧ op ≤ 5
      rotate_left
      · have HF : Hid (d = false) := HN.out (fun h => hop (by have := h.1 _ HMEM.out; unfold OkS at this; simp only at this; omega))
        have HO0 : Hid (okN op = false) := decide_eq_false hop
        have HO1 : Hid (opcN op = #[.string ⟨#[]⟩, .bool false, .bool false, .bool false, .bool false, .bool false, .nilFunc, .nilFunc]) := by
          show _ = _
          unfold opcN; rw [if_neg (by omega), if_neg (by omega), if_neg (by omega), if_neg (by omega), if_neg (by omega)]; rfl
        clear hop
        go_wp2_with fail
        refine Calls.mono (find_F op _) ?_
        rw [HO0.out, HO1.out]
        rintro e w2 ⟨rfl, hb2⟩
        have HB2 : Hid (Below w.heap.size w w2) := HB1.out.trans (hb2.mono HB1.out.size)
        clear hb2
        go_wp2
        go_ret
        exact ⟨by rw [HF.out]; rfl, HB2.out.alloc HB2.out.size _⟩
      obtain ⟨s, f, so, an, as9, ou, n, m, hO, hmm⟩ := op_some hop
      clear hmm
      have HO0 : Hid (okN op = true) := decide_eq_true hop
      have HO1 : Hid _ := hO.cells
      have HOU : Hid (ou = decide (op = 5)) := hO.ou
      have HFT : Hid _ := hO.fits il ol rg dst src c
      have hen := hO.en
      obtain ⟨k, hk⟩ : ∃ k, k = okSB il ol rg ⟨op, dst, src, c⟩ := ⟨_, rfl⟩
      have HK : Hid (k = okSB il ol rg ⟨op, dst, src, c⟩) := hk
      rw [← hk, ← HCV.out] at HFT
      clear hO hk
      go_wp2_with fail
      refine Calls.mono (find_F op _) ?_
      rw [HO0.out, HO1.out]
      rintro e w2 ⟨rfl, hb2⟩
      have HB2 : Hid (Below w.heap.size w w2) := HB1.out.trans (hb2.mono HB1.out.size)
      have HH2 : Hid _ := holds_later HH1.out hb2
      have hz2 : wr.heap.size < w2.heap.size := ltHeap (holds_at HH2.out 0 rfl)
      have HH3 : Hid _ := holds_new HH2.out #[.string s, .bool f, .bool so, .bool an, .bool as9, .bool ou, .func (.func n) #[] #[], .func (.func m) #[] #[]] 164
      have e0 := cellAt (holds_at HH3.out 3 rfl) 0 _ rfl
      have e1 := cellAt (holds_at HH3.out 3 rfl) 1 _ rfl
      have e2 := cellAt (holds_at HH3.out 3 rfl) 2 _ rfl
      have s0 := cellAt (holds_at HH3.out 1 rfl) 0 _ rfl
      have s1 := cellAt (holds_at HH3.out 1 rfl) 1 _ rfl
      have s2 := cellAt (holds_at HH3.out 1 rfl) 2 _ rfl
      have s3 := cellAt (holds_at HH3.out 1 rfl) 3 _ rfl
      clear hb2
      go_wp2_with fail
      refine Calls.mono (HFT.out _) ?_
      clear hen
      rintro e w3 ⟨rfl, hb3⟩
      have HB3 : Hid (Below w.heap.size w w3) := (HB2.out.alloc HB2.out.size _).trans (hb3.mono (by have := HB2.out.size; simp; omega))
      have HH4 : Hid _ := holds_later HH3.out hb3
      have hz3 : w2.heap.size < w3.heap.size := ltHeap (holds_at HH4.out 0 rfl)
      clear hb3 e0 e1 e2 s0 s1 s2 s3
      have o5 := cellAt (holds_at HH4.out 0 rfl) 5 _ rfl
      have s1 := cellAt (holds_at HH4.out 1 rfl) 1 _ rfl
      cases k
      · have HF : Hid (d = false) := HN.out (fun h => by
          have := h.1 _ HMEM.out
          rw [okSB_yes this] at HK
          exact absurd HK.out (by decide))
        go_wp2
        go_ret
        exact ⟨by rw [HF.out]; rfl, HB3.out⟩
      have HOKS : Hid (OkS il ol rg ⟨op, dst, src, c⟩) := by
        by_cases h : OkS il ol rg ⟨op, dst, src, c⟩
        · exact h
        · rw [okSB_no h] at HK; exact absurd HK.out (by decide)
      have HNX : Hid (∀ s ∈ ss.take (j + 1), OkS il ol rg s) := fun s hm => by
        rw [HTK.out, List.mem_append] at hm
        rcases hm with hm | hm
        · exact HOK.out s hm
        · rw [List.mem_singleton] at hm; subst hm; exact HOKS.out
      by_cases hop5 : op = 5
      rotate_left
      · have e5 : ou = false := by rw [HOU.out]; exact decide_eq_false hop5
        subst e5
        have HM9 : Hid (mdL ol (ss.take (j + 1)) = mdL ol (ss.take j)) := by show _ = _; rw [HTK.out, mdL_not hop5]
        have HC9 : Hid (∀ d : Nat, d < ol → cntO (ss.take (j + 1)) d ≤ 1) := fun q hq => by rw [HTK.out, cnt_not hop5]; exact HCN.out q hq
        clear hop5
        go_wp2
        exact ⟨⟨j + 1, by omega, by go_num, HB3.out, by rw [HM9.out]; exact fun i p hi => HH4.out (i + 2) p hi, HNX.out, HC9.out⟩, by simp [intOf]; omega⟩
      have e5 : ou = true := by rw [HOU.out]; exact decide_eq_true hop5
      subst e5
      have hdst : 0 ≤ dst ∧ dst < ol := by have := HOKS.out; unfold OkS at this; simp only at this; omega
      obtain ⟨q, rfl⟩ := Int.eq_ofNat_of_zero_le hdst.1
      have hq : q < ol := by omega
      have hmd := cellAt (holds_at HH4.out 2 rfl) q _ (visB_get (mdL_get hq))
      have hfz : w3.frozen? ⟨w.heap.size + 1 + 1, q, none⟩ = false := frozen_of_row _ _ _ _ _ (holds_at HH4.out 2 rfl)
      have HC5 : Hid (cntO (ss.take (j + 1)) q = cntO (ss.take j) q + 1) := by show _ = _; rw [HTK.out, cnt_out hop5 rfl]
      by_cases hc1 : 1 ≤ cntO (ss.take j) q
      · rw [decide_eq_true hc1] at hmd
        have HF : Hid (d = false) := HN.out (fun h => by
          have h1 := h.2 q hq
          have h2 := cnt_take ss (j + 1) q
          have h3 := HC5.out
          omega)
        clear hc1 hop5 hdst
        go_wp2
        go_ret
        exact ⟨by rw [HF.out]; rfl, HB3.out⟩
      · rw [decide_eq_false hc1] at hmd
        have HC9 : Hid (∀ d : Nat, d < ol → cntO (ss.take (j + 1)) d ≤ 1) := fun x hx => by
          by_cases e : x = q
          · subst e; rw [HC5.out]; omega
          · rw [HTK.out, cnt_other (by simp only; omega)]; exact HCN.out x hx
        have HS4 : Hid ((w3.setCell ⟨w.heap.size + 1 + 1, q, none⟩ (.bool true)).heap[w.heap.size + 1 + 1]? = some (.cells (visB (mdL ol (ss.take (j + 1)))) 4 (0, 0))) := by
          show _ = _
          rw [HTK.out, ← mdL_out hop5 rfl, ← visB_set]
          exact heap_setCell_same _ _ _ _ _ _ (holds_at HH4.out 2 rfl)
        have HS5 : Hid _ := (heap_setCell_other w3 ⟨w.heap.size + 1 + 1, q, none⟩ (w.heap.size + 1) (.bool true) (by show w.heap.size + 1 ≠ w.heap.size + 1 + 1; omega)).trans (holds_at HH4.out 3 rfl)
        have HS6 : Hid _ := (heap_setCell_other w3 ⟨w.heap.size + 1 + 1, q, none⟩ (w.heap.size) (.bool true) (by show w.heap.size ≠ w.heap.size + 1 + 1; omega)).trans (holds_at HH4.out 4 rfl)
        have HB6 : Hid _ := HB3.out.setCell (p := ⟨w.heap.size + 1 + 1, q, none⟩) (by show w.heap.size ≤ w.heap.size + 1 + 1; omega) (.bool true)
        clear hc1 hop5 hdst
        go_wp2
        exact ⟨⟨j + 1, by omega, by go_num, HB6.out, holds_cons (holds_cons (holds_cons (holds_nil _) HS6.out) HS5.out) HS4.out, HNX.out, HC9.out⟩, by simp [intOf]; omega⟩
    · obtain rfl : j = sl := by omega
      have hfull : ss.take j = ss := by rw [HSL.out, List.take_length]
      have hok := HOK.out
      have hcn := HCN.out
      have hh := HH.out
      rw [hfull] at hok hcn hh
      have HC : Hid _ := containsB_F (w.heap.size + 1 + 1) ol (mdL ol ss) wr (mdL_len _ _).symm (by omega) (holds_at hh 0 rfl)
      have HD : Hid (d = !decide (false ∈ mdL ol ss)) := by
        show _ = _
        by_cases hz : false ∈ mdL ol ss
        · rw [decide_eq_true hz]
          obtain ⟨q, hq, h0⟩ := mdL_all.1 hz
          exact HN.out (fun h => by have := h.2 q hq; omega)
        · rw [decide_eq_false hz]
          exact HY.out ⟨hok, fun q hq => by
            have h1 := hcn q hq
            rcases Nat.lt_or_ge (cntO ss q) 1 with h2 | h2
            · exact absurd (mdL_all.2 ⟨q, hq, by omega⟩) hz
            · omega⟩
      clear hfull hok hcn hh
      go_wp2_with fail
      refine Calls.mono HC.out ?_
      rintro e w2 ⟨rfl, rfl⟩
      go_wp2
      go_ret
      exact ⟨by rw [HD.out]; rfl, HB.out⟩
end Go.Proofs.YtkoakingmnjdoaaGreatDoor

/- What Check of package prog answers, of all programs. -/
namespace Go.Proofs.YtkoakingmnjdoaaGreatDoor
open Go.RowKit Gf
set_option linter.unusedVariables false
set_option maxRecDepth 20000
set_option linter.unusedSimpArgs false
theorem inF_iff {ins outs : List Int} {rg : Int} {ss : List Stp} (h1 : GoodH 32 ins) (h2 : GoodH 32 outs) (h3 : 0 ≤ rg ∧ rg ≤ 64) (h4 : ss.length ≤ 4096) : InF ins outs rg ss ↔ FitA ins.length outs.length rg ss :=
  ⟨fun h => ⟨h.2.2.2.2.1, h.2.2.2.2.2⟩, fun h => ⟨h1, h2, h3, h4, h.1, h.2⟩⟩
set_option maxRecDepth 100000 in
set_option maxHeartbeats 8000000 in
theorem pcheck_F (ia oa sa : Option Addr) (il ic ol oc sl sc : Nat) (ins outs : List Int) (rg : Int) (ss : List Stp) (w : World) (s : Addr) (hP : PrgW w ia oa sa il ic ol oc sl sc ins outs ss) (hs : w.cell? ⟨7, 0, none⟩ = some (errAt s)) :
    Calls Tryz.prog 78 #[.agg #[.slice ia il ic, .slice oa ol oc, .int .i64 rg, .slice sa sl sc]] w fun e w' => ((InF ins outs rg ss ∧ e = .returned .nilIface) ∨ (¬ InF ins outs rg ss ∧ e = .returned (errAt s))) ∧ Below w.heap.size w w' := by
  have HP0 : Hid _ := hP
  have hI := hP.eil
  have hO := hP.eol
  have hS := hP.esl
  have hi9 := hP.i9; have ho9 := hP.o9; have hs9 := hP.s9
  have hcil := hP.cil; have hcol := hP.col; have hcsl := hP.csl
  have HIL : Hid (il = ins.length) := hI
  have HOL : Hid (ol = outs.length) := hO
  have HSL : Hid (sl = ss.length) := hS
  have HP : Hid (PrgW (w.alloc (.cells #[.slice ia il ic, .slice oa ol oc, .int .i64 rg, .slice sa sl sc] 30)) ia oa sa il ic ol oc sl sc ins outs ss) := hP.below ((Below.refl _ _).alloc (Nat.le_refl _) _)
  have HA0 : Hid (Below w.heap.size w (w.alloc (.cells #[.slice ia il ic, .slice oa ol oc, .int .i64 rg, .slice sa sl sc] 30))) := (Below.refl w.heap.size w).alloc (Nat.le_refl _) _
  have hs1 := cell?_alloc_old (.cells #[.slice ia il ic, .slice oa ol oc, .int .i64 rg, .slice sa sl sc] 30) hs
  unfold errAt at hs1
  have k0 := heap_alloc_last w (.cells #[.slice ia il ic, .slice oa ol oc, .int .i64 rg, .slice sa sl sc] 30)
  have HK0 : Hid _ := k0
  have HS1 : Hid _ := hs1
  clear hP hs hI hO hS HP0 k0
  go_enter Tryz.func78, Tryz.ntmps78
  go_wp2_with fail
  refine Calls.mono (halves_F il ic ia ins _ HIL.out (by omega) hcil HP.out.I) ?_
  by_cases h1 : GoodH 32 ins
  rotate_left
  · have HF : Hid (¬ InF ins outs rg ss) := fun h => h1 h.1
    rw [Prg.goodB_no h1]
    rintro e w1 ⟨rfl, rfl⟩
    clear h1
    go_wp2
    go_ret
    exact ⟨.inr ⟨HF.out, rfl⟩, HA0.out⟩
  rw [Prg.goodB_yes h1]
  rintro e w1 ⟨rfl, rfl⟩
  have H1 : Hid (GoodH 32 ins) := h1
  clear h1
  go_wp2_with fail
  refine Calls.mono (halves_F ol oc oa outs _ HOL.out (by omega) hcol HP.out.O) ?_
  by_cases h2 : GoodH 32 outs
  rotate_left
  · have HF : Hid (¬ InF ins outs rg ss) := fun h => h2 h.2.1
    rw [Prg.goodB_no h2]
    rintro e w1 ⟨rfl, rfl⟩
    clear h2
    go_wp2
    go_ret
    exact ⟨.inr ⟨HF.out, rfl⟩, HA0.out⟩
  rw [Prg.goodB_yes h2]
  rintro e w1 ⟨rfl, rfl⟩
  have H2 : Hid (GoodH 32 outs) := h2
  have hol32 : ol ≤ 32 := by rw [HOL.out]; exact goodH_len h2
  clear h2
  go_wp2_with fail
  refine Calls.mono (pthere_F rg 65 _) ?_
  by_cases h3 : 0 ≤ rg ∧ rg < 65
  rotate_left
  · have HF : Hid (¬ InF ins outs rg ss) := fun h => h3 (by have := h.2.2.1; omega)
    rw [decide_eq_false h3]
    rintro e w1 ⟨rfl, rfl⟩
    clear h3
    go_wp2
    go_ret
    exact ⟨.inr ⟨HF.out, rfl⟩, HA0.out⟩
  rw [decide_eq_true h3]
  rintro e w1 ⟨rfl, rfl⟩
  by_cases n3 : 4096 < sl
  · have HF : Hid (¬ InF ins outs rg ss) := fun h => by have := h.2.2.2.1; rw [← HSL.out] at this; omega
    go_wp2
    go_ret
    exact ⟨.inr ⟨HF.out, rfl⟩, HA0.out⟩
  have HEQ : Hid (InF ins outs rg ss ↔ FitA il ol rg ss) := by
    rw [HIL.out, HOL.out]; exact inF_iff H1.out H2.out (by omega) (by rw [← HSL.out]; omega)
  have h3a : 0 ≤ rg := h3.1
  clear h3
  go_wp2_with fail
  refine Calls.mono (stepsFit_F ia oa sa il ic ol oc sl sc ins outs rg ss _ HP.out hol32 (by omega)) ?_
  rintro e w2 ⟨rfl, hb2⟩
  have HB2 : Hid (Below w.heap.size w w2) := HA0.out.trans (hb2.mono (by simp))
  have hs2 := cell_later hb2 HS1.out
  clear hb2
  by_cases hf : FitA il ol rg ss
  · rw [fitB_yes hf]
    have HF : Hid (InF ins outs rg ss) := HEQ.out.2 hf
    clear hf
    go_wp2
    go_ret
    exact ⟨.inl ⟨HF.out, rfl⟩, HB2.out⟩
  · rw [fitB_no hf]
    have HF : Hid (¬ InF ins outs rg ss) := fun h => hf (HEQ.out.1 h)
    clear hf
    go_wp2
    go_ret
    exact ⟨.inr ⟨HF.out, rfl⟩, HB2.out⟩
theorem pcheck_ok (ia oa sa : Option Addr) (il ic ol oc sl sc : Nat) (ins outs : List Int) (rg : Int) (ss : List Stp) (w : World) (s : Addr) (hP : PrgW w ia oa sa il ic ol oc sl sc ins outs ss) (hs : w.cell? ⟨7, 0, none⟩ = some (errAt s)) (h : InF ins outs rg ss) :
    Calls Tryz.prog 78 #[.agg #[.slice ia il ic, .slice oa ol oc, .int .i64 rg, .slice sa sl sc]] w fun e w' => e = .returned .nilIface ∧ Below w.heap.size w w' :=
  (pcheck_F ia oa sa il ic ol oc sl sc ins outs rg ss w s hP hs).mono fun e w' ⟨h1, h2⟩ => ⟨h1.elim (fun q => q.2) (fun q => absurd h q.1), h2⟩
theorem pcheck_bad (ia oa sa : Option Addr) (il ic ol oc sl sc : Nat) (ins outs : List Int) (rg : Int) (ss : List Stp) (w : World) (s : Addr) (hP : PrgW w ia oa sa il ic ol oc sl sc ins outs ss) (hs : w.cell? ⟨7, 0, none⟩ = some (errAt s)) (h : ¬ InF ins outs rg ss) :
    Calls Tryz.prog 78 #[.agg #[.slice ia il ic, .slice oa ol oc, .int .i64 rg, .slice sa sl sc]] w fun e w' => e = .returned (errAt s) ∧ Below w.heap.size w w' :=
  (pcheck_F ia oa sa il ic ol oc sl sc ins outs rg ss w s hP hs).mono fun e w' ⟨h1, h2⟩ => ⟨h1.elim (fun q => absurd q.1 h) (fun q => q.2), h2⟩
end Go.Proofs.YtkoakingmnjdoaaGreatDoor

/- What Meaning of package prog answers of programs in form. -/
namespace Go.Proofs.YtkoakingmnjdoaaGreatDoor
open Go.RowKit Gf
set_option linter.unusedVariables false
set_option maxRecDepth 20000
set_option linter.unusedSimpArgs false
/-- outputs, from the first step on, as registers of unit columns -/
def meanR (ss : List Stp) (d : Int) : Nat → F := runO unX ss (fun _ _ => 0) (fun _ _ => 0) d
def meanRows (n no : Nat) (ss : List Stp) : List (List F) := (List.range no).map fun (d : Nat) => rowF n (meanR ss (d : Int))
def meanL (n no : Nat) (ss : List Stp) : List F := (meanRows n no ss).flatten
theorem meanRows_len (n no : Nat) (ss : List Stp) : (meanRows n no ss).length = no := by simp [meanRows]
theorem meanL_len (n no : Nat) (ss : List Stp) : (meanL n no ss).length = no * n := by
  rw [meanL, flat_len (c := n) (fun xs h => by obtain ⟨d, _, rfl⟩ := List.mem_map.1 h; exact rowF_len _ _), meanRows_len]
theorem run_makeN (n c : Nat) (hn : n ≤ 64) (w : World) :
    (Instr.makeSlice 49 (.int .i64 (n : Int)) (.int .i64 (n : Int))).run Tryz.prog w = .ok (.slice (some ⟨w.heap.size, 0, none⟩) n n) (w.alloc (.cells (slO n c (fun _ => none)) 23)) := by
  obtain ⟨i, hi, h1, h2, h3⟩ := infoS
  have := run_make (P := Tryz.prog) w 49 23 i _ Tryz.underlying49 hi h3 .i64 .i64 n n (by omega) (by omega) (by rw [h2]; omega) (by omega)
  have e : madeCells (Value.slice none 0 0).cells n = slO n c (fun _ => none) := by
    apply Array.ext_getElem?
    intro i
    by_cases h : i < n <;> simp [madeCells, slO, svO, Value.cells, h, Nat.mod_one]
  rw [this, h1]
  simp only [Int.toNat_natCast, Nat.mul_one, e]
/-- what a step does, whichever it is -/
theorem does_F (B cb M Q n rg no : Nat) (f : Nat → Option Addr × Nat) (g : Nat → Option (Option Addr × Nat)) (R O : Regs) (s : Stp) (m : Nat) (w : World) (hn : n ≤ 64) (hrg : rg ≤ 64) (hno : no ≤ 64) (hBw : B ≤ w.heap.size) (h : CmbW B w cb M Q n rg no f g R O)
    (hok : OkS n no rg s) (hm : m = (if s.op = 1 then 140 else if s.op = 2 then 142 else if s.op = 3 then 144 else if s.op = 4 then 146 else 148)) :
    Calls Tryz.prog m #[.pointer (some ⟨cb, 0, none⟩), .agg #[.int .i64 s.op, .int .i64 s.dst, .int .i64 s.src, .int .u8 (s.c.toNat : Int)]] w fun e w' => e = .returned (.tuple #[]) ∧ (∃ f' g', CmbW B w' cb M Q n rg no f' g' (doR unX s R) (doO s R O) ∧ ∀ d, (g' d).isSome = ((g d).isSome || (s.op == 5 && s.dst == (d : Int)))) ∧ Below B w w' := by
  obtain ⟨op, dst, src, c⟩ := s
  unfold OkS at hok
  simp only at hok hm ⊢
  rcases hok with ⟨rfl, h1, h2, h3⟩ | ⟨rfl, h1, h2, h3⟩ | ⟨rfl, h1, h2⟩ | ⟨rfl, h1, h2⟩ | ⟨rfl, h1, h2, h3⟩
  · obtain ⟨dst, rfl⟩ := Int.eq_ofNat_of_zero_le h1.1
    obtain ⟨src, rfl⟩ := Int.eq_ofNat_of_zero_le h2.1
    subst hm
    exact (does_load B cb M Q n rg no f g R O 1 dst src c.toNat (by omega) (by omega) w hn hrg hno hBw h).mono fun e w' ⟨a, ⟨f', g', k, hg⟩, b⟩ => ⟨a, ⟨f', g', k, fun d => by rw [hg]; simp⟩, b⟩
  · obtain ⟨dst, rfl⟩ := Int.eq_ofNat_of_zero_le h1.1
    subst hm
    exact (does_zero B cb M Q n rg no f g R O 2 dst src c.toNat (by omega) w hn hrg hno hBw h).mono fun e w' ⟨a, ⟨f', g', k, hg⟩, b⟩ => ⟨a, ⟨f', g', k, fun d => by rw [hg]; simp⟩, b⟩
  · obtain ⟨dst, rfl⟩ := Int.eq_ofNat_of_zero_le h1.1
    subst hm
    exact (does_mul B cb M Q n rg no f g R O 3 dst src c (by omega) w hn hrg hno hBw h).mono fun e w' ⟨a, ⟨f', g', k, hg⟩, b⟩ => ⟨a, ⟨f', g', k, fun d => by rw [hg]; simp⟩, b⟩
  · obtain ⟨dst, rfl⟩ := Int.eq_ofNat_of_zero_le h1.1
    obtain ⟨src, rfl⟩ := Int.eq_ofNat_of_zero_le h2.1
    subst hm
    exact (does_add B cb M Q n rg no f g R O 4 dst src c (by omega) (by omega) w hn hrg hno hBw h).mono fun e w' ⟨a, ⟨f', g', k, hg⟩, b⟩ => ⟨a, ⟨f', g', k, fun d => by rw [hg]; simp⟩, b⟩
  · obtain ⟨dst, rfl⟩ := Int.eq_ofNat_of_zero_le h1.1
    obtain ⟨src, rfl⟩ := Int.eq_ofNat_of_zero_le h2.1
    subst hm
    exact (does_out B cb M Q n rg no f g R O 5 dst src c.toNat (by omega) (by omega) w hn hrg hno hBw h).mono fun e w' ⟨a, ⟨f', g', k, hg⟩, b⟩ => ⟨a, ⟨f', g', k, fun d => by
      rw [hg]
      by_cases e : d = dst
      · subst e; simp
      · simp [e, show ¬ (dst : Int) = (d : Int) by omega]⟩, b⟩
/-- the machine while its registers are laid -/
structure IniW (B : Nat) (w : World) (cb M Q n rg no k : Nat) (g : Nat → Option (Option Addr × Nat)) : Prop where
  blk : w.heap[cb]? = some (.cells #[.int .i64 n, .slice (some ⟨M, 0, none⟩) rg rg, .slice (some ⟨Q, 0, none⟩) no no] 190 (0, 0))
  regs : w.heap[M]? = some (.cells (slO rg n g) 23 (0, 0))
  outs : w.heap[Q]? = some (.cells (slO no n (fun _ => none)) 23 (0, 0))
  row : ∀ x, x < k → ∃ p, g x = some p ∧ Row8T w p.1 (rowF n (fun _ => 0)) ∧ n ≤ p.2 ∧ (p.1 = none → p.2 = 0)
  hb : B ≤ cb
  hM : B ≤ M
  hQ : B ≤ Q
  hMQ : M ≠ Q
  hcM : cb ≠ M
  hcQ : cb ≠ Q
theorem IniW.below {B : Nat} {w w' : World} {cb M Q n rg no k : Nat} {g : Nat → Option (Option Addr × Nat)} (h : IniW B w cb M Q n rg no k g) (hb : Below w.heap.size w w') : IniW B w' cb M Q n rg no k g :=
  { h with blk := heap_later h.blk hb, regs := heap_later h.regs hb, outs := heap_later h.outs hb, row := fun x hx => by obtain ⟨p, h1, h2, h3⟩ := h.row x hx; exact ⟨p, h1, row8T_below h2 hb, h3⟩ }
theorem IniW.drew {B : Nat} {w : World} {cb M Q n rg no k : Nat} {g : Nat → Option (Option Addr × Nat)} (h : IniW B w cb M Q n rg no k g) : IniW B w.drew cb M Q n rg no k g :=
  { h with blk := h.blk, regs := h.regs, outs := h.outs, row := h.row }
theorem IniW.put {B : Nat} {w : World} {cb M Q n rg no k : Nat} {g : Nat → Option (Option Addr × Nat)} (h : IniW B w cb M Q n rg no k g) (hk : k < rg) {a : Option Addr} {m : Nat} (ha : Row8T w a (rowF n (fun _ => 0))) (hm : n ≤ m) (hn : a = none → m = 0) :
    IniW B (w.setCell ⟨M, k, none⟩ (.slice a n m)) cb M Q n rg no (k + 1) (fun x => if x = k then some (a, m) else g x) := by
  have hg : w.grownBy (w.setCell ⟨M, k, none⟩ (.slice a n m)) (some M) := grownBy_setCell (World.grownBy.refl _ _) _
  have hne : NoElems w (some M) := noElems_some h.regs (by decide)
  refine { h with blk := ?_, regs := ?_, outs := ?_, row := fun x hx => ?_ }
  · exact (heap_setCell_other _ _ _ _ h.hcM).trans h.blk
  · rw [heap_setCell_same _ _ _ _ _ _ h.regs, slO_set (a, m) hk]
  · exact (heap_setCell_other _ _ _ _ (fun e => h.hMQ e.symm)).trans h.outs
  · by_cases e : x = k
    · exact ⟨(a, m), by simp [e], row8T_grown ha hg hne, hm, hn⟩
    · obtain ⟨p, h1, h2, h3⟩ := h.row x (by omega)
      exact ⟨p, by simp [e, h1], row8T_grown h2 hg hne, h3⟩
theorem IniW.done {B : Nat} {w : World} {cb M Q n rg no : Nat} {g : Nat → Option (Option Addr × Nat)} (h : IniW B w cb M Q n rg no rg g) : CmbW B w cb M Q n rg no (fun x => (g x).getD (none, 0)) (fun _ => none) (fun _ _ => 0) (fun _ _ => 0) := by
  refine { h with blk := h.blk, regs := ⟨?_, fun x hx => ?_, fun x hx => ?_, fun x hx => ?_⟩, outs := h.outs, out := fun d hd p hp => by cases hp }
  · rw [h.regs]
    congr 2
    apply Array.ext_getElem?
    intro i
    by_cases hi : i < rg
    · obtain ⟨p, h1, _⟩ := h.row i hi
      rw [slO_at hi, slF_at hi, svO, h1]; rfl
    · rw [Array.getElem?_eq_none (by rw [slO_size]; omega), Array.getElem?_eq_none (by rw [slF_size]; omega)]
  · obtain ⟨p, h1, h2, h3⟩ := h.row x hx
    simp only [h1, Option.getD_some]; exact h2
  · obtain ⟨p, h1, h2, h3⟩ := h.row x hx
    simp only [h1, Option.getD_some]; exact h3.1
  · obtain ⟨p, h1, h2, h3⟩ := h.row x hx
    simp only [h1, Option.getD_some]; exact h3.2
theorem outs_rows8 {B : Nat} {w : World} {cb M Q n rg no : Nat} {f : Nat → Option Addr × Nat} {g : Nat → Option (Option Addr × Nat)} {R O : Regs} (h : CmbW B w cb M Q n rg no f g R O) (hg : ∀ d, d < no → (g d).isSome = true) : Rows8 w (some ⟨Q, 0, none⟩) ((List.range no).map fun (d : Nat) => rowF n (O (d : Int))) := by
  refine .inr ⟨Q, 0, rfl, fun j x hx => ?_⟩
  simp only [List.getElem?_map, Option.map_eq_some_iff] at hx
  obtain ⟨i, hi, rfl⟩ := hx
  obtain ⟨hjk, hi2⟩ := List.getElem?_eq_some_iff.1 hi
  simp only [List.length_range] at hjk
  simp only [List.getElem_range] at hi2
  subst hi2
  obtain ⟨p, hp⟩ := Option.isSome_iff_exists.1 (hg j hjk)
  refine ⟨p.1, p.2, ?_, (h.out j hjk p hp).1.row8⟩
  rw [Nat.zero_add, rowF_len]
  have := cellAt h.outs j _ (slO_at hjk)
  rwa [svO, hp] at this
end Go.Proofs.YtkoakingmnjdoaaGreatDoor

/- Copies of lists of bytes in blocks of one's own; nothing of the program is proved here. -/
namespace Go.Proofs.YtkoakingmnjdoaaGreatDoor
open Go.RowKit Gf
set_option linter.unusedVariables false
set_option maxRecDepth 20000
theorem has8_laterE {w w' : World} {g cap : Nat} {xs : List F} (h : Has8 w g xs cap) (hb : Below w.heap.size w w') : Has8 w' g xs cap := by
  obtain ⟨cur, h1, h2⟩ := h
  exact ⟨cur, heap_later h1 hb, h2⟩
theorem has8_set_otherE {w : World} {g cap M j : Nat} {xs : List F} {v : Value} (h : Has8 w g xs cap) (hne : g ≠ M) : Has8 (w.setCell ⟨M, j, none⟩ v) g xs cap := by
  obtain ⟨cur, h1, h2⟩ := h
  exact ⟨cur, (heap_setCell_other _ _ _ _ hne).trans h1, h2⟩
theorem append8_zeroE (w : World) (p : Addr) (a : Option Addr) (ca : Nat) (ty : TypeId) :
    (Builtin.append_ #[23, 23] ty #[.slice (some p) 0 0, .slice a 0 ca]).run Tryz.prog w = .ok (.slice (some p) 0 0) w := by
  obtain ⟨i, hi, h1, h2, h3⟩ := info8
  cases a <;> simp [Builtin.append_, run_underlying Tryz.underlying23, sizeOf, typeInfo, hi, Builtin.lenOf, Builtin.firstCells, loadCells, loadCellsFrom, storeCells]
/-- a copy in a block of one's own -/
theorem copy8E {w : World} {a : Option Addr} {la ca : Nat} {xs : List F} (ty : TypeId) (hla : la = xs.length) (hl : la ≤ 140737488355328) (hx : Row8 w a xs) :
    ∃ g cap w', (Builtin.append_ #[23, 23] ty #[.slice (some ⟨w.heap.size, 0, none⟩) 0 0, .slice a la ca]).run Tryz.prog (w.alloc (.cells #[] 5)) = .ok (.slice (some ⟨g, 0, none⟩) la cap) w' ∧
      Has8 w' g xs cap ∧ w.heap.size ≤ g ∧ Below w.heap.size w w' := by
  have hB : Below w.heap.size w (w.alloc (.cells #[] 5)) := (Below.refl _ _).alloc (Nat.le_refl _) _
  by_cases h0 : la = 0
  · subst h0
    obtain rfl : xs = [] := List.eq_nil_of_length_eq_zero hla.symm
    exact ⟨w.heap.size, 0, _, append8_zeroE _ _ _ _ _, has8_full (xs := []) (heap_alloc_last w _) (by simp [maxLen]), Nat.le_refl _, hB⟩
  · have hx' := row8_below hx hB
    obtain ⟨b, off, rfl, _, hc⟩ := row8_get hx' (show 0 < xs.length by omega)
    obtain ⟨g', cap', w', h1, h2, h3, h4⟩ := append8_grows (w := w.alloc (.cells #[] 5)) (g := w.heap.size) (n := 0) (cap := 0) (xs := []) (ys := xs) (ad := ⟨b, off, none⟩) (m := la) (c := ca) ty (.inl rfl) rfl hla (by omega) (by omega) (fun j hj => by
      have : (⟨b, off, none⟩ : Addr).add j = ⟨b, off + j, none⟩ := by unfold Addr.add; split <;> simp_all
      rw [this]; exact hc j hj)
    refine ⟨g', cap', w', by rw [h1]; simp, by simpa using h2, by simp at h4; omega, ?_⟩
    exact hB.trans ⟨h3.os, h3.tape, h3.output, h3.size, fun k hk => h3.block k (by simp; omega) (by simp)⟩
theorem own_set9E {w : World} {B n g : Nat} {v u : Value} {xs : List Value} {e : TypeId} {size i : Nat} (ho : w.ownsRow B e size v n xs) (hg : g < B) : (w.setCell ⟨g, i, none⟩ u).ownsRow B e size v n xs :=
  ⟨ho.1, ho.2.imp id fun ⟨g', cap, cur, h1, h2, h3, h4⟩ => ⟨g', cap, cur, h1, h2, (heap_setCell_other _ _ _ _ (by show g' ≠ g; omega)).trans h3, h4⟩⟩
theorem own_mono9E {w : World} {B B' size n : Nat} {v : Value} {e : TypeId} {xs : List Value} (h : w.ownsRow B e size v n xs) (hb : B' ≤ B) : w.ownsRow B' e size v n xs :=
  ⟨h.1, h.2.imp id fun ⟨g, cap, cur, h1, h2, h3⟩ => ⟨g, cap, cur, h1, Nat.le_trans hb h2, h3⟩⟩
end Go.Proofs.YtkoakingmnjdoaaGreatDoor

/- The registers and outputs of the document's own Run in memory. -/
namespace Go.Proofs.YtkoakingmnjdoaaGreatDoor
open Go.RowKit Gf
set_option linter.unusedVariables false
set_option maxRecDepth 20000
/-- the inputs as columns -/
def inX (L : List (List F)) : Int → Nat → F := fun i j => at8 (L.getD i.toNat []) j
theorem inX_at {L : List (List F)} {i : Nat} {xs : List F} (h : L[i]? = some xs) (j : Nat) : inX L (i : Int) j = at8 xs j := by
  simp [inX, List.getD_eq_getElem?_getD, h]
def madeX (X : Int → Nat → F) (ss : List Stp) (no h : Nat) : List (List F) := (List.range no).map fun (d : Nat) => rowF h (runO X ss noR noR (d : Int))
theorem madeL_len (X : Int → Nat → F) (ss : List Stp) (no h : Nat) : (madeX X ss no h).length = no := by simp [madeX]
theorem madeL_at {X : Int → Nat → F} {ss : List Stp} {no h d : Nat} (hd : d < no) : (madeX X ss no h)[d]? = some (rowF h (runO X ss noR noR (d : Int))) := by simp [madeX, hd]
/-- a step done for the first b bytes alone -/
def upTo (X : Int → Nat → F) (s : Stp) (R : Regs) (b : Nat) : Regs := fun r j => if j < b then doR X s R r j else R r j
theorem upTo_zero (X : Int → Nat → F) (s : Stp) (R : Regs) : upTo X s R 0 = R := by funext r j; simp [upTo]
theorem upTo_idle {X : Int → Nat → F} {s : Stp} {R : Regs} {b : Nat} (h : s.op = 5) : upTo X s R b = R := by
  funext r j
  show (if j < b then doR X s R r j else R r j) = R r j
  rw [doR_n (by omega) (by omega) (by omega) (by omega), ite_self]
/-- one cell of one register put -/
def pokeR (R : Regs) (k b : Nat) (x : F) : Regs := fun r j => if r = (k : Int) ∧ j = b then x else R r j
theorem upTo_next {X : Int → Nat → F} {s : Stp} {R : Regs} {b k : Nat} {x : F} (hk : s.dst = (k : Int)) (h5 : s.op ≠ 5) (hx : doR X s R (k : Int) b = x) : upTo X s R (b + 1) = pokeR (upTo X s R b) k b x := by
  funext r j
  show (if j < b + 1 then doR X s R r j else R r j) = (if r = (k : Int) ∧ j = b then x else (if j < b then doR X s R r j else R r j))
  by_cases e : j = b
  · subst e
    rw [if_pos (Nat.lt_succ_self _)]
    by_cases e2 : r = (k : Int)
    · rw [if_pos ⟨e2, rfl⟩, ← hx, e2]
    · rw [if_neg (fun h => e2 h.1), if_neg (Nat.lt_irrefl _)]
      have e3 : r ≠ s.dst := by rw [hk]; exact e2
      by_cases h1 : s.op = 1
      · rw [doR_1 h1, setR_other e3]
      by_cases h2 : s.op = 2
      · rw [doR_2 h2, setR_other e3]
      by_cases h3 : s.op = 3
      · rw [doR_3 h3, setR_other e3]
      by_cases h4 : s.op = 4
      · rw [doR_4 h4, setR_other e3]
      · rw [doR_n h1 h2 h3 h4]
  · rw [if_neg (c := r = (k : Int) ∧ j = b) (fun h => e h.2)]
    by_cases e3 : j < b
    · rw [if_pos (by omega), if_pos e3]
    · rw [if_neg (by omega), if_neg e3]
theorem upTo_at {X : Int → Nat → F} {s : Stp} {R : Regs} {b : Nat} (r : Int) : upTo X s R b r b = R r b := by unfold upTo; rw [if_neg (Nat.lt_irrefl b)]
structure RunW (B : Nat) (w : World) (M F0 Q rg no h : Nat) (g : Nat → Option (Nat × Nat)) (R O : Regs) : Prop where
  regs : w.heap[M]? = some (.cells (slF rg h (fun k => (some ⟨F0 + k, 0, none⟩, h))) 23 (0, 0))
  row : ∀ k, k < rg → w.heap[F0 + k]? = some (.cells (vfs (rowF h (R (k : Int)))) 5 (0, 0))
  outs : w.heap[Q]? = some (.cells (slO no h (fun d => (g d).map fun p => (some ⟨p.1, 0, none⟩, p.2))) 23 (0, 0))
  out : ∀ d, d < no → ∀ p, g d = some p → Has8 w p.1 (rowF h (O (d : Int))) p.2 ∧ Q < p.1
  hM : B ≤ M
  hMF : M < F0
  hFQ : F0 + rg ≤ Q
theorem RunW.below {B : Nat} {w w' : World} {M F0 Q rg no h : Nat} {g : Nat → Option (Nat × Nat)} {R O : Regs} (hr : RunW B w M F0 Q rg no h g R O) (hb : Below w.heap.size w w') : RunW B w' M F0 Q rg no h g R O :=
  { hr with regs := heap_later hr.regs hb, row := fun k hk => heap_later (hr.row k hk) hb, outs := heap_later hr.outs hb, out := fun d hd p hp => ⟨has8_below (hr.out d hd p hp).1 hb, (hr.out d hd p hp).2⟩ }
theorem RunW.drew {B : Nat} {w : World} {M F0 Q rg no h : Nat} {g : Nat → Option (Nat × Nat)} {R O : Regs} (hr : RunW B w M F0 Q rg no h g R O) : RunW B w.drew M F0 Q rg no h g R O :=
  { hr with regs := hr.regs, row := hr.row, outs := hr.outs, out := hr.out }
theorem RunW.poke {B : Nat} {w : World} {M F0 Q rg no h : Nat} {g : Nat → Option (Nat × Nat)} {R O : Regs} (hr : RunW B w M F0 Q rg no h g R O) {k b : Nat} (hk : k < rg) (hb : b < h) (x : F) : RunW B (w.setCell ⟨F0 + k, b, none⟩ (.int .u8 (x.toNat : Int))) M F0 Q rg no h g (pokeR R k b x) O := by
  have h1 := hr.hMF
  have h2 := hr.hFQ
  refine { hr with regs := ?_, row := fun j hj => ?_, outs := ?_, out := fun d hd p hp => ?_ }
  · exact (heap_setCell_other _ _ _ _ (by show M ≠ F0 + k; omega)).trans hr.regs
  · by_cases e : j = k
    · subst e
      rw [heap_setCell_same _ _ _ _ _ _ (hr.row j hj)]
      have e9 := vfs_set (rowF h (R (j : Int))) b x
      have : (vfs (rowF h (R (j : Int)))).setIfInBounds b (.int .u8 (x.toNat : Int)) = vfs (rowF h (pokeR R j b x (j : Int))) := by
        rw [e9, rowF_set]
        congr 1
        exact rowF_congr fun i hi => by simp [pokeR]
      rw [this]
    · rw [heap_setCell_other _ _ _ _ (by show F0 + j ≠ F0 + k; omega), hr.row j hj]
      congr 3
      exact rowF_congr fun i hi => by simp only [pokeR]; rw [if_neg (fun hh => e (by omega))]
  · exact (heap_setCell_other _ _ _ _ (by show Q ≠ F0 + k; omega)).trans hr.outs
  · obtain ⟨h3, h4⟩ := hr.out d hd p hp
    exact ⟨has8_set_otherE h3 (by omega), h4⟩
theorem RunW.congr {B : Nat} {w : World} {M F0 Q rg no h : Nat} {g : Nat → Option (Nat × Nat)} {R R' O : Regs} (hr : RunW B w M F0 Q rg no h g R O) (e : ∀ r : Nat, r < rg → ∀ j, j < h → R (r : Int) j = R' (r : Int) j) : RunW B w M F0 Q rg no h g R' O :=
  { hr with row := fun k hk => by rw [hr.row k hk, rowF_congr (e k hk)] }
theorem RunW.full {B : Nat} {w : World} {M F0 Q rg no h : Nat} {g : Nat → Option (Nat × Nat)} {X : Int → Nat → F} {s : Stp} {R O : Regs} (hr : RunW B w M F0 Q rg no h g (upTo X s R h) O) : RunW B w M F0 Q rg no h g (doR X s R) O :=
  hr.congr fun r _ j hj => by unfold upTo; rw [if_pos hj]
/-- an output made -/
theorem RunW.putO {B : Nat} {w : World} {M F0 Q rg no h q c d k : Nat} {g : Nat → Option (Nat × Nat)} {R O : Regs} (hr : RunW B w M F0 Q rg no h g R O) (hd : d < no) (h8 : Has8 w q (rowF h (R (k : Int))) c) (hq : Q < q) :
    RunW B (w.setCell ⟨Q, d, none⟩ (.slice (some ⟨q, 0, none⟩) h c)) M F0 Q rg no h (fun x => if x = d then some (q, c) else g x) R (setR O d (R k)) := by
  have h1 := hr.hMF
  have h2 := hr.hFQ
  refine { hr with regs := ?_, row := fun j hj => ?_, outs := ?_, out := fun x hx p hp => ?_ }
  · exact (heap_setCell_other _ _ _ _ (by show M ≠ Q; omega)).trans hr.regs
  · exact (heap_setCell_other _ _ _ _ (by show F0 + j ≠ Q; omega)).trans (hr.row j hj)
  · rw [heap_setCell_same _ _ _ _ _ _ hr.outs, slO_set (some ⟨q, 0, none⟩, c) hd]
    congr 3
    funext x
    by_cases e : x = d <;> simp [e]
  · by_cases e : x = d
    · subst e
      simp only [if_true, Option.some.injEq] at hp
      subst hp
      rw [setR_same]
      exact ⟨has8_set_otherE h8 (by show q ≠ Q; omega), hq⟩
    · simp only [e, if_false] at hp
      rw [setR_other (show (x : Int) ≠ (d : Int) by omega)]
      obtain ⟨h3, h4⟩ := hr.out x hx p hp
      exact ⟨has8_set_otherE h3 (by show p.1 ≠ Q; omega), h4⟩
/-- while the registers are laid -/
structure RunI (B : Nat) (w : World) (M F0 rg h k : Nat) : Prop where
  regs : w.heap[M]? = some (.cells (slO rg h (fun j => if j < k then some (some ⟨F0 + j, 0, none⟩, h) else none)) 23 (0, 0))
  row : ∀ j, j < k → w.heap[F0 + j]? = some (.cells (vfs (zeros h)) 5 (0, 0))
  size : w.heap.size = F0 + k
  hM : B ≤ M
  hMF : M < F0
theorem RunI.next {B : Nat} {w : World} {M F0 rg h k : Nat} (hr : RunI B w M F0 rg h k) (hk : k < rg) : RunI B ((w.alloc (.cells (vfs (zeros h)) 5)).setCell ⟨M, k, none⟩ (.slice (some ⟨w.heap.size, 0, none⟩) h h)) M F0 rg h (k + 1) := by
  have hb : Below w.heap.size w (w.alloc (.cells (vfs (zeros h)) 5)) := (Below.refl _ _).alloc (Nat.le_refl _) _
  have h1 := hr.hMF
  have h2 := hr.size
  refine { hr with regs := ?_, row := fun j hj => ?_, size := ?_ }
  · rw [heap_setCell_same _ _ _ _ _ _ (heap_later hr.regs hb), slO_set (some ⟨w.heap.size, 0, none⟩, h) hk]
    congr 3
    funext x
    by_cases e : x = k
    · subst e; simp [h2]
    · by_cases e2 : x < k
      · rw [if_neg e, if_pos e2, if_pos (by omega)]
      · rw [if_neg e, if_neg e2, if_neg (by omega)]
  · rw [heap_setCell_other _ _ _ _ (by show F0 + j ≠ M; omega)]
    by_cases e : j = k
    · subst e; rw [← h2]; exact heap_alloc_last _ _
    · exact heap_later (hr.row j (by omega)) hb
  · simp [h2]; omega
theorem RunI.done {B : Nat} {w : World} {M F0 rg no h : Nat} (hr : RunI B w M F0 rg h rg) : RunW B (w.alloc (.cells (slO no h (fun _ => none)) 23)) M F0 w.heap.size rg no h (fun _ => none) noR noR := by
  have hb : Below w.heap.size w (w.alloc (.cells (slO no h (fun _ => none)) 23)) := (Below.refl _ _).alloc (Nat.le_refl _) _
  refine { hM := hr.hM, hMF := hr.hMF, hFQ := by rw [hr.size]; exact Nat.le_refl _, regs := ?_, row := fun k hk => ?_, outs := heap_alloc_last _ _, out := fun d hd p hp => by cases hp }
  · rw [heap_later hr.regs hb]
    congr 2
    apply Array.ext_getElem?
    intro i
    by_cases hi : i < rg
    · rw [slO_at hi, slF_at hi, svO, if_pos hi]
    · rw [Array.getElem?_eq_none (by rw [slO_size]; omega), Array.getElem?_eq_none (by rw [slF_size]; omega)]
  · rw [heap_later (hr.row k hk) hb, zeros_rowF]; rfl
theorem has8_U {w : World} {g cap : Nat} {xs : List F} (h : Has8 w g xs cap) : Row8T w (some ⟨g, 0, none⟩) xs := by
  have h2 := row8_has h
  obtain ⟨cur, hg, _⟩ := h
  rcases h2 with e | ⟨b, off, e, h2⟩
  · exact .inl e
  · cases e
    exact .inr ⟨g, 0, _, _, rfl, hg, h2⟩
/-- what is made, row by row -/
def OutsW (w : World) (Q ol h : Nat) (X : Int → Nat → F) (ss : List Stp) : Prop := ∀ d, d < ol → ∃ q c, w.cell? ⟨Q, d, none⟩ = some (.slice (some ⟨q, 0, none⟩) h c) ∧ Row8 w (some ⟨q, 0, none⟩) (rowF h (runO X ss noR noR (d : Int)))
theorem OutsW.below {w w' : World} {Q ol h : Nat} {X : Int → Nat → F} {ss : List Stp} (ho : OutsW w Q ol h X ss) (hb : Below w.heap.size w w') : OutsW w' Q ol h X ss := fun d hd => by
  obtain ⟨q, c, h1, h2⟩ := ho d hd
  exact ⟨q, c, cell_later hb h1, row8_below h2 hb⟩
theorem OutsW.rows {w : World} {Q ol h : Nat} {X : Int → Nat → F} {ss : List Stp} (ho : OutsW w Q ol h X ss) : Rows8 w (some ⟨Q, 0, none⟩) (madeX X ss ol h) := by
  refine .inr ⟨Q, 0, rfl, fun j x hx => ?_⟩
  have hj : j < ol := by have := (List.getElem?_eq_some_iff.1 hx).1; rwa [madeL_len] at this
  rw [madeL_at hj] at hx
  obtain rfl := Option.some.inj hx
  obtain ⟨q, c, h1, h2⟩ := ho j hj
  exact ⟨_, c, by rw [Nat.zero_add, rowF_len]; exact h1, h2⟩
theorem RunW.made {B : Nat} {w : World} {M F0 Q rg no h : Nat} {g : Nat → Option (Nat × Nat)} {X : Int → Nat → F} {ss : List Stp} {R : Regs} (hr : RunW B w M F0 Q rg no h g R (runO X ss noR noR)) (hg : ∀ d, d < no → (g d).isSome = true) : OutsW w Q no h X ss := fun j hj => by
  obtain ⟨p, hp⟩ := Option.isSome_iff_exists.1 (hg j hj)
  refine ⟨p.1, p.2, ?_, (has8_U (hr.out j hj p hp).1).row8⟩
  have := cellAt hr.outs j _ (slO_at hj)
  simp only [svO, hp, Option.map_some] at this
  exact this
end Go.Proofs.YtkoakingmnjdoaaGreatDoor

/- What the document's own Run makes of inputs, of programs in form. -/
namespace Go.Proofs.YtkoakingmnjdoaaGreatDoor
open Go.RowKit Gf
set_option linter.unusedVariables false
set_option maxRecDepth 20000
set_option linter.unusedSimpArgs false
theorem cell_lt9 {w : World} {b o : Nat} {v : Value} (h : w.cell? ⟨b, o, none⟩ = some v) : b < w.heap.size := by
  by_cases hb : b < w.heap.size
  · exact hb
  · rw [World.cell?, Array.getElem?_eq_none (by show w.heap.size ≤ b; omega)] at h
    cases h
theorem cell_grown9 {w u : World} {r b o : Nat} {v : Value} (hu : w.grownBy u (some r)) (h : w.cell? ⟨b, o, none⟩ = some v) (hne : b ≠ r) : u.cell? ⟨b, o, none⟩ = some v := by
  have hb := hu.block b (cell_lt9 h) (fun e => hne (Option.some.inj e))
  rw [World.cell?] at h ⊢
  rw [hb]
  exact h
set_option maxRecDepth 100000 in
set_option maxHeartbeats 16000000 in
theorem rrun_F (ia oa sa xa : Option Addr) (il ic ol oc sl sc rg n nc h : Nat) (ins outs : List Int) (ss : List Stp) (L : List (List F)) (w : World) (hP : PrgW w ia oa sa il ic ol oc sl sc ins outs ss) (hF : InF ins outs rg ss) (hn : n = L.length) (hil : il ≤ n) (hn9 : n ≤ 4611686018427387904) (hh : h ≤ 64) (hX : Rows8 w xa L) (hL : ∀ i xs, i < il → L[i]? = some xs → h ≤ xs.length) :
    Calls Tryz.prog 65 #[.agg #[.slice ia il ic, .slice oa ol oc, .int .i64 rg, .slice sa sl sc], .slice xa n nc, .int .i64 h] w fun e w' => ∃ Q, e = .returned (.slice (some ⟨Q, 0, none⟩) ol ol) ∧ w.heap.size ≤ Q ∧ OutsW w' Q ol h (inX L) ss ∧ Below w.heap.size w w' := by
  have hol32 : ol ≤ 32 := by rw [hP.eol]; exact goodH_len hF.2.1
  have hrgn : rg ≤ 64 := by have := hF.2.2.1.2; omega
  have hsl9 : sl ≤ 4096 := by rw [hP.esl]; exact hF.2.2.2.1
  have hcsl := hP.csl
  have HP : Hid _ := hP
  have HF : Hid (InF ins outs rg ss) := hF
  have HIL : Hid (il = ins.length) := hP.eil
  have HOL : Hid (ol = outs.length) := hP.eol
  have HSL : Hid (sl = ss.length) := hP.esl
  have HX : Hid (Rows8 w xa L) := hX
  have HLL : Hid (∀ i xs, i < il → L[i]? = some xs → h ≤ xs.length) := hL
  have HN : Hid (n = L.length) := hn
  have mk1 := fun u : World => run_makeN rg h hrgn u
  have hA : Holds ((w.alloc (.cells #[.slice ia il ic, .slice oa ol oc, .int .i64 rg, .slice sa sl sc] 30)).alloc (.cells (slO rg h (fun _ => none)) 23)) [(w.heap.size + 1, .cells (slO rg h (fun _ => none)) 23), (w.heap.size, .cells #[.slice ia il ic, .slice oa ol oc, .int .i64 rg, .slice sa sl sc] 30)] := by
    have h := holds_new (holds_new (holds_nil w) #[.slice ia il ic, .slice oa ol oc, .int .i64 rg, .slice sa sl sc] 30) (slO rg h (fun _ => none)) 23
    simp only [World.size_alloc] at h
    exact h
  have HI0 : Hid (RunI w.heap.size ((w.alloc (.cells #[.slice ia il ic, .slice oa ol oc, .int .i64 rg, .slice sa sl sc] 30)).alloc (.cells (slO rg h (fun _ => none)) 23)) (w.heap.size + 1) (w.heap.size + 1 + 1) rg h 0) :=
    { regs := by simp only [Nat.not_lt_zero, if_false]; exact holds_at hA 0 rfl, row := fun j hj => absurd hj (Nat.not_lt_zero _), size := by simp, hM := by omega, hMF := by omega }
  have HB0 : Hid (Below w.heap.size w ((w.alloc (.cells #[.slice ia il ic, .slice oa ol oc, .int .i64 rg, .slice sa sl sc] 30)).alloc (.cells (slO rg h (fun _ => none)) 23))) := ((Below.refl _ w).alloc (Nat.le_refl _) _).alloc (by simp) _
  have HX0 : Hid _ := holds_at hA 1 rfl
  clear hP hF hn hX hL hA
  go_enter Tryz.func65, Tryz.ntmps65
  go_wp2
  clear mk1
  go_loopw [18] (fun i wr => ∃ k : Nat, k ≤ rg ∧ i = .int .i64 k ∧ Below w.heap.size w wr ∧ RunI w.heap.size wr (w.heap.size + 1) (w.heap.size + 1 + 1) rg h k ∧ wr.heap[w.heap.size]? = some (.cells #[.slice ia il ic, .slice oa ol oc, .int .i64 rg, .slice sa sl sc] 30 (0, 0))) (fun i _ => rg - (intOf i).toNat)
  case atStart => exact ⟨0, Nat.zero_le _, rfl, HB0.out, HI0.out, HX0.out⟩
  case round =>
    obtain ⟨k, hk, rfl, hb, hi, hx⟩ := hrel
    have HB : Hid (Below w.heap.size w wr) := hb
    have HI : Hid (RunI w.heap.size wr (w.heap.size + 1) (w.heap.size + 1 + 1) rg h k) := hi
    have HXB : Hid (wr.heap[w.heap.size]? = some (.cells #[.slice ia il ic, .slice oa ol oc, .int .i64 rg, .slice sa sl sc] 30 (0, 0))) := hx
    clear hb hi hx HB0 HI0 HX0
    by_cases hlt : k < rg
    · have mk3 := fun u : World => run_make8 h (by omega) u
      have hba : Below wr.heap.size wr (wr.alloc (.cells (vfs (zeros h)) 5)) := (Below.refl _ _).alloc (Nat.le_refl _) _
      have k1 : (wr.alloc (.cells (vfs (zeros h)) 5)).cell? ⟨w.heap.size + 1, k, none⟩ = some (.slice none 0 0) := by
        have := cellAt (heap_later HI.out.regs hba) k _ (slO_at hlt)
        rw [svO, if_neg (Nat.lt_irrefl k)] at this
        exact this
      have k2 : (wr.alloc (.cells (vfs (zeros h)) 5)).frozen? ⟨w.heap.size + 1, k, none⟩ = false := frozen_of_row _ _ _ _ _ (heap_later HI.out.regs hba)
      have HIN : Hid _ := HI.out.next hlt
      have HBN : Hid (Below w.heap.size w ((wr.alloc (.cells (vfs (zeros h)) 5)).setCell ⟨w.heap.size + 1, k, none⟩ (.slice (some ⟨wr.heap.size, 0, none⟩) h h))) := (HB.out.alloc HB.out.size _).setCell (p := ⟨w.heap.size + 1, k, none⟩) (by show w.heap.size ≤ w.heap.size + 1; omega) _
      have HXN : Hid (((wr.alloc (.cells (vfs (zeros h)) 5)).setCell ⟨w.heap.size + 1, k, none⟩ (.slice (some ⟨wr.heap.size, 0, none⟩) h h)).heap[w.heap.size]? = some (.cells #[.slice ia il ic, .slice oa ol oc, .int .i64 rg, .slice sa sl sc] 30 (0, 0))) := (heap_setCell_other _ _ _ _ (by show w.heap.size ≠ w.heap.size + 1; omega)).trans (heap_later HXB.out hba)
      clear hba
      go_wp2
      exact ⟨⟨k + 1, by omega, by go_num, HBN.out, HIN.out, HXN.out⟩, by simp [intOf]; omega⟩
    · obtain rfl : k = rg := by omega
      have mk2 := fun u : World => run_makeN ol h (by omega) u
      obtain ⟨M, hM⟩ : ∃ M, M = w.heap.size + 1 := ⟨_, rfl⟩
      obtain ⟨F0, hF0⟩ : ∃ F0, F0 = w.heap.size + 1 + 1 := ⟨_, rfl⟩
      obtain ⟨Q, hQ⟩ : ∃ Q, Q = wr.heap.size := ⟨_, rfl⟩
      have hi : RunI w.heap.size wr M F0 k h k := by rw [hM, hF0]; exact HI.out
      have hr0 := hi.done (no := ol)
      rw [← hQ] at hr0
      have hba : Below wr.heap.size wr (wr.alloc (.cells (slO ol h (fun _ => none)) 23)) := (Below.refl _ _).alloc (Nat.le_refl _) _
      have HR0 : Hid _ := hr0
      have HBQ : Hid (Below w.heap.size w (wr.alloc (.cells (slO ol h (fun _ => none)) 23))) := HB.out.alloc HB.out.size _
      have k1 := cellAt HXB.out 1 _ rfl
      have k3 := cellAt (heap_later HXB.out hba) 3 _ rfl
      have HMB : Hid (w.heap.size < F0) := by show _ < _; omega
      have HME : Hid (M = w.heap.size + 1) := hM
      have HQE : Hid (Q = wr.heap.size) := hQ
      clear hM hF0 hQ hi hr0 hba HI HXB HB
      go_wp2
      rw [← HME.out, ← HQE.out]
      clear k1 k3 mk2 HME HQE
      go_loopw [34] (fun i wr => ∃ (j : Nat) (g : Nat → Option (Nat × Nat)), j ≤ sl ∧ i = .int .i64 j ∧ Below w.heap.size w wr ∧ RunW w.heap.size wr M F0 Q k ol h g (runR (inX L) (ss.take j) noR) (runO (inX L) (ss.take j) noR noR) ∧ ∀ d : Nat, (g d).isSome = decide (1 ≤ cntO (ss.take j) d)) (fun i _ => sl - (intOf i).toNat)
      case atStart => exact ⟨0, _, Nat.zero_le _, rfl, HBQ.out, by rw [List.take_zero]; exact HR0.out, fun d => by rw [List.take_zero]; rfl⟩
      case round =>
        obtain ⟨j, g, hj, rfl, hbr, hrr, hgs⟩ := hrel
        have HBO : Hid (Below w.heap.size w wr) := hbr
        obtain ⟨R9, hR9⟩ : ∃ R9, R9 = runR (inX L) (ss.take j) noR := ⟨_, rfl⟩
        obtain ⟨O9, hO9⟩ : ∃ O9, O9 = runO (inX L) (ss.take j) noR noR := ⟨_, rfl⟩
        rw [← hR9, ← hO9] at hrr
        have HRO : Hid (RunW w.heap.size wr M F0 Q k ol h g R9 O9) := hrr
        have HGS : Hid (∀ d : Nat, (g d).isSome = decide (1 ≤ cntO (ss.take j) d)) := hgs
        have HRE9 : Hid (R9 = runR (inX L) (ss.take j) noR) := hR9
        have HOE9 : Hid (O9 = runO (inX L) (ss.take j) noR noR) := hO9
        clear hbr hrr hgs hR9 hO9 HR0 HBQ
        by_cases hlj : j < sl
        · have hjs : j < ss.length := by rw [← HSL.out]; exact hlj
          obtain ⟨b0, off, hsa, hc⟩ := stpW_get (stpW_below HP.out.S HBO.out) hjs
          obtain ⟨c0, c1, c2, c3⟩ := hc j hjs
          obtain ⟨⟨op, dst, src, c⟩, hs⟩ : ∃ s, ss[j] = s := ⟨_, rfl⟩
          rw [hs] at c0 c1 c2 c3
          simp only at c0 c1 c2 c3
          have hget : ss[j]? = some ⟨op, dst, src, c⟩ := by rw [List.getElem?_eq_getElem hjs, hs]
          have HTK : Hid (ss.take (j + 1) = ss.take j ++ [⟨op, dst, src, c⟩]) := by show _ = _; rw [List.take_add_one, hget]; rfl
          have hok : OkS il ol k ⟨op, dst, src, c⟩ := by rw [HIL.out, HOL.out]; exact HF.out.2.2.2.2.1 _ (List.mem_of_getElem? hget)
          have HOK : Hid (OkS il ol k ⟨op, dst, src, c⟩) := hok
          have HR1 : Hid (runR (inX L) (ss.take (j + 1)) noR = doR (inX L) ⟨op, dst, src, c⟩ R9) := by show _ = _; rw [HTK.out, runR_app, ← HRE9.out]; rfl
          have HO1 : Hid (runO (inX L) (ss.take (j + 1)) noR noR = doO ⟨op, dst, src, c⟩ R9 O9) := by show _ = _; rw [HTK.out, runO_app, ← HRE9.out, ← HOE9.out]; rfl
          subst hsa
          clear hc hs hget hjs hok
          generalize wr = wo at *
          have hba : Below wo.heap.size wo (wo.alloc (.cells #[.int .i64 op, .int .i64 dst, .int .i64 src, .int .u8 (c.toNat : Int)] 105)) := (Below.refl _ _).alloc (Nat.le_refl _) _
          have HB1 : Hid (Below w.heap.size w (wo.alloc (.cells #[.int .i64 op, .int .i64 dst, .int .i64 src, .int .u8 (c.toNat : Int)] 105))) := HBO.out.alloc HBO.out.size _
          have HS1 : Hid ((wo.alloc (.cells #[.int .i64 op, .int .i64 dst, .int .i64 src, .int .u8 (c.toNat : Int)] 105)).heap[wo.heap.size]? = some (.cells #[.int .i64 op, .int .i64 dst, .int .i64 src, .int .u8 (c.toNat : Int)] 105 (0, 0))) := heap_alloc_last wo _
          have HR2 : Hid (RunW w.heap.size (wo.alloc (.cells #[.int .i64 op, .int .i64 dst, .int .i64 src, .int .u8 (c.toNat : Int)] 105)) M F0 Q k ol h g (upTo (inX L) ⟨op, dst, src, c⟩ R9 0) O9) := by show RunW ..; rw [upTo_zero]; exact HRO.out.below hba
          have HSQ : Hid (wo.heap.size ≠ Q) := by show _ ≠ _; have := ltHeap HRO.out.outs; omega
          have HSN : Hid (∀ x, x < k → wo.heap.size ≠ F0 + x) := fun x hx => by have := ltHeap (HRO.out.row x hx); omega
          clear hba
          go_wp2
          clear c0 c1 c2 c3
          go_loopw [12] (fun i wr => ∃ b : Nat, b ≤ h ∧ i = .int .i64 b ∧ Below w.heap.size w wr ∧ RunW w.heap.size wr M F0 Q k ol h g (upTo (inX L) ⟨op, dst, src, c⟩ R9 b) O9 ∧ wr.heap[wo.heap.size]? = some (.cells #[.int .i64 op, .int .i64 dst, .int .i64 src, .int .u8 (c.toNat : Int)] 105 (0, 0))) (fun i _ => h - (intOf i).toNat)
          case atStart => exact ⟨0, Nat.zero_le _, rfl, HB1.out, HR2.out, HS1.out⟩
          case round =>
            obtain ⟨b, hb, rfl, hbr, hrr, hsr⟩ := hrel
            have HB : Hid (Below w.heap.size w wr) := hbr
            have HR : Hid (RunW w.heap.size wr M F0 Q k ol h g (upTo (inX L) ⟨op, dst, src, c⟩ R9 b) O9) := hrr
            have HS : Hid (wr.heap[wo.heap.size]? = some (.cells #[.int .i64 op, .int .i64 dst, .int .i64 src, .int .u8 (c.toNat : Int)] 105 (0, 0))) := hsr
            have g0 := cellAt hsr 0 _ rfl
            clear hbr hrr hsr HB1 HR2 HS1
            have hok := HOK.out
            unfold OkS at hok
            simp only at hok
            by_cases hbh : b < h
            · rcases hok with ⟨rfl, ⟨hd0, hd1⟩, ⟨hs0, hs1⟩, hz1⟩ | ⟨rfl, ⟨hd0, hd1⟩, hz1, hz2⟩ | ⟨rfl, ⟨hd0, hd1⟩, hz1⟩ | ⟨rfl, ⟨hd0, hd1⟩, hs0, hs1⟩ | ⟨rfl, hz1⟩
              · obtain ⟨dq, rfl⟩ := Int.eq_ofNat_of_zero_le hd0
                obtain ⟨sq, rfl⟩ := Int.eq_ofNat_of_zero_le hs0
                have hdq : dq < k := by omega
                have hsq : sq < il := by omega
                have hsn : sq < n := by omega
                obtain ⟨xs, hxs⟩ : ∃ xs, L[sq]? = some xs := ⟨_, List.getElem?_eq_getElem (by rw [← HN.out]; exact hsn)⟩
                have HXS : Hid (L[sq]? = some xs) := hxs
                have hlen := HLL.out sq xs hsq hxs
                have hbx : b < xs.length := by omega
                obtain ⟨ib, ioff, rb, ro, rc, rfl, HIC, HRB⟩ : ∃ ib ioff rb ro rc, xa = some ⟨ib, ioff, none⟩ ∧ Hid (w.cell? ⟨ib, ioff + sq, none⟩ = some (.slice (some ⟨rb, ro, none⟩) xs.length rc)) ∧ Hid (∀ i, i < xs.length → w.cell? ⟨rb, ro + i, none⟩ = some (.int .u8 ((at8 xs i).toNat : Int))) := by
                  rcases HX.out with rfl | ⟨ib, ioff, e, hc⟩
                  · cases hxs
                  · obtain ⟨a', cap', h1, h2⟩ := hc sq xs hxs
                    rcases h2 with rfl | ⟨rb, ro, rfl, h3⟩
                    · exact absurd hbx (Nat.not_lt_zero _)
                    · exact ⟨ib, ioff, rb, ro, cap', e, h1, h3⟩
                clear hxs hd0 hd1 hs0 hs1 hz1
                go_wp2
                have P1 : Hid (∀ u, wr.grownBy u (some (F0 + dq)) → u.cell? ⟨wo.heap.size, 1, none⟩ = some (.int .i64 (dq : Int))) := fun u hu => cellAt ((hu.block _ (ltHeap HS.out) (fun e => HSN.out dq hdq (Option.some.inj e))).trans HS.out) 1 _ rfl
                have P2 : Hid (∀ u, wr.grownBy u (some (F0 + dq)) → u.cell? ⟨wo.heap.size, 2, none⟩ = some (.int .i64 (sq : Int))) := fun u hu => cellAt ((hu.block _ (ltHeap HS.out) (fun e => HSN.out dq hdq (Option.some.inj e))).trans HS.out) 2 _ rfl
                have PM : Hid (∀ u, wr.grownBy u (some (F0 + dq)) → u.cell? ⟨M, dq, none⟩ = some (.slice (some ⟨F0 + dq, 0, none⟩) h h)) := fun u hu => cellAt ((hu.block _ (ltHeap HR.out.regs) (fun e => by have := Option.some.inj e; have := HR.out.hMF; omega)).trans HR.out.regs) dq _ (slF_at (by assumption))
                have PI : Hid (∀ u, wr.grownBy u (some (F0 + dq)) → u.cell? ⟨ib, ioff + sq, none⟩ = some (.slice (some ⟨rb, ro, none⟩) xs.length rc)) := fun u hu => cell_grown9 hu (cell_later HB.out HIC.out) (by have := cell_lt9 HIC.out; have := HMB.out; omega)
                have PB : Hid (∀ u, wr.grownBy u (some (F0 + dq)) → u.cell? ⟨rb, ro + b, none⟩ = some (.int .u8 ((at8 xs b).toNat : Int))) := fun u hu => cell_grown9 hu (cell_later HB.out (HRB.out b hbx)) (by have := cell_lt9 (HRB.out b hbx); have := HMB.out; omega)
                refine wp_region_noPanic ?_
                refine wp_region_held_drew (S := fun u => wr.grownBy u (some (F0 + dq))) (by kernel_rfl) ?_ (fun hHeld => ?_)
                · exact grownBy_drew (World.grownBy.refl _ _)
                obtain ⟨X, hX⟩ : ∃ X, X = wr.drew := ⟨_, rfl⟩
                have GX : wr.grownBy X (some (F0 + dq)) := by rw [hX]; exact grownBy_drew (World.grownBy.refl _ _)
                have HRX : Hid (RunW w.heap.size X M F0 Q k ol h g (upTo (inX L) ⟨1, (dq : Int), (sq : Int), c⟩ R9 b) O9) := by show RunW ..; rw [hX]; exact HR.out.drew
                have HBX : Hid (Below w.heap.size w X) := by show Below ..; rw [hX]; exact HB.out.drew
                have HSX : Hid (X.heap[wo.heap.size]? = some (.cells #[.int .i64 1, .int .i64 (dq : Int), .int .i64 (sq : Int), .int .u8 (c.toNat : Int)] 105 (0, 0))) := by show _ = _; rw [hX]; exact HS.out
                rw [← hX] at hHeld ⊢
                clear hX
                refine wpAnyH_take (i := 0) (oi := { dst := some 47, op := Op.move (Operand.tmp 7), type := 49, pos := "ref.go:68", after := #[], guard := none }) (v := ?_) rfl (by kernel_rfl) (by kernel_rfl) (by kernel_rfl) (fun _ _ _ h => h) (Or.inl ⟨by rfl, ?_⟩) hHeld ?_
                rotate_left
                · intro u hSw
                  go_simp
                  try with_reducible rfl
                try simp only [Act.put, List.setIfInBounds_toArray, List.set_cons_zero, List.set_cons_succ]
                refine wpAnyH_take (i := 1) (oi := { dst := some 48, op := Op.fieldAddr 105 (Operand.tmp 11) 1, type := 0, pos := "ref.go:68", after := #[], guard := none }) (v := ?_) rfl (by kernel_rfl) (by kernel_rfl) (by kernel_rfl) (fun _ _ _ h => h) (Or.inl ⟨by rfl, ?_⟩) hHeld ?_
                rotate_left
                · intro u hSw
                  go_simp
                  try with_reducible rfl
                try simp only [Act.put, List.setIfInBounds_toArray, List.set_cons_zero, List.set_cons_succ]
                refine wpAnyH_take (i := 2) (oi := { dst := some 49, op := Op.load 3 (Operand.tmp 48), type := 3, pos := "ref.go:68", after := #[{ on := 1, ground := Ground.data }], guard := none }) (v := ?_) rfl (by kernel_rfl) (by kernel_rfl) (by kernel_rfl) (fun _ _ _ h => h) (Or.inl ⟨by rfl, ?_⟩) hHeld ?_
                rotate_left
                · intro u hSw
                  have k9 := P1.out u hSw
                  go_simp
                  try with_reducible rfl
                try simp only [Act.put, List.setIfInBounds_toArray, List.set_cons_zero, List.set_cons_succ]
                refine wpAnyH_take (i := 3) (oi := { dst := some 50, op := Op.indexAddr 49 (Operand.tmp 47) (Operand.tmp 49), type := 0, pos := "ref.go:68", after := #[{ on := 0, ground := Ground.data }, { on := 2, ground := Ground.data }], guard := none }) (v := ?_) rfl (by kernel_rfl) (by kernel_rfl) (by kernel_rfl) (fun _ _ _ h => h) (Or.inl ⟨by rfl, ?_⟩) hHeld ?_
                rotate_left
                · intro u hSw
                  go_simp
                  try with_reducible rfl
                try simp only [Act.put, List.setIfInBounds_toArray, List.set_cons_zero, List.set_cons_succ]
                refine wpAnyH_take (i := 4) (oi := { dst := some 51, op := Op.load 23 (Operand.tmp 50), type := 23, pos := "ref.go:68", after := #[{ on := 3, ground := Ground.data }], guard := none }) (v := ?_) rfl (by kernel_rfl) (by kernel_rfl) (by kernel_rfl) (fun _ _ _ h => h) (Or.inl ⟨by rfl, ?_⟩) hHeld ?_
                rotate_left
                · intro u hSw
                  have k9 := PM.out u hSw
                  go_simp
                  try with_reducible rfl
                try simp only [Act.put, List.setIfInBounds_toArray, List.set_cons_zero, List.set_cons_succ]
                refine wpAnyH_take (i := 5) (oi := { dst := some 52, op := Op.move (Operand.tmp 12), type := 3, pos := "ref.go:68", after := #[], guard := none }) (v := ?_) rfl (by kernel_rfl) (by kernel_rfl) (by kernel_rfl) (fun _ _ _ h => h) (Or.inl ⟨by rfl, ?_⟩) hHeld ?_
                rotate_left
                · intro u hSw
                  go_simp
                  try with_reducible rfl
                try simp only [Act.put, List.setIfInBounds_toArray, List.set_cons_zero, List.set_cons_succ]
                refine wpAnyH_take (i := 6) (oi := { dst := some 53, op := Op.move (Operand.tmp 1), type := 49, pos := "ref.go:68", after := #[], guard := none }) (v := ?_) rfl (by kernel_rfl) (by kernel_rfl) (by kernel_rfl) (fun _ _ _ h => h) (Or.inl ⟨by rfl, ?_⟩) hHeld ?_
                rotate_left
                · intro u hSw
                  go_simp
                  try with_reducible rfl
                try simp only [Act.put, List.setIfInBounds_toArray, List.set_cons_zero, List.set_cons_succ]
                refine wpAnyH_take (i := 7) (oi := { dst := some 54, op := Op.fieldAddr 105 (Operand.tmp 11) 2, type := 0, pos := "ref.go:68", after := #[], guard := none }) (v := ?_) rfl (by kernel_rfl) (by kernel_rfl) (by kernel_rfl) (fun _ _ _ h => h) (Or.inl ⟨by rfl, ?_⟩) hHeld ?_
                rotate_left
                · intro u hSw
                  go_simp
                  try with_reducible rfl
                try simp only [Act.put, List.setIfInBounds_toArray, List.set_cons_zero, List.set_cons_succ]
                refine wpAnyH_take (i := 8) (oi := { dst := some 55, op := Op.load 3 (Operand.tmp 54), type := 3, pos := "ref.go:68", after := #[{ on := 7, ground := Ground.data }], guard := none }) (v := ?_) rfl (by kernel_rfl) (by kernel_rfl) (by kernel_rfl) (fun _ _ _ h => h) (Or.inl ⟨by rfl, ?_⟩) hHeld ?_
                rotate_left
                · intro u hSw
                  have k9 := P2.out u hSw
                  go_simp
                  try with_reducible rfl
                try simp only [Act.put, List.setIfInBounds_toArray, List.set_cons_zero, List.set_cons_succ]
                refine wpAnyH_take (i := 9) (oi := { dst := some 56, op := Op.indexAddr 49 (Operand.tmp 53) (Operand.tmp 55), type := 0, pos := "ref.go:68", after := #[{ on := 6, ground := Ground.data }, { on := 8, ground := Ground.data }], guard := none }) (v := ?_) rfl (by kernel_rfl) (by kernel_rfl) (by kernel_rfl) (fun _ _ _ h => h) (Or.inl ⟨by rfl, ?_⟩) hHeld ?_
                rotate_left
                · intro u hSw
                  go_simp
                  try with_reducible rfl
                try simp only [Act.put, List.setIfInBounds_toArray, List.set_cons_zero, List.set_cons_succ]
                refine wpAnyH_take (i := 10) (oi := { dst := some 57, op := Op.load 23 (Operand.tmp 56), type := 23, pos := "ref.go:68", after := #[{ on := 9, ground := Ground.data }], guard := none }) (v := ?_) rfl (by kernel_rfl) (by kernel_rfl) (by kernel_rfl) (fun _ _ _ h => h) (Or.inl ⟨by rfl, ?_⟩) hHeld ?_
                rotate_left
                · intro u hSw
                  have k9 := PI.out u hSw
                  go_simp
                  try with_reducible rfl
                try simp only [Act.put, List.setIfInBounds_toArray, List.set_cons_zero, List.set_cons_succ]
                refine wpAnyH_take (i := 11) (oi := { dst := some 58, op := Op.move (Operand.tmp 12), type := 3, pos := "ref.go:68", after := #[], guard := none }) (v := ?_) rfl (by kernel_rfl) (by kernel_rfl) (by kernel_rfl) (fun _ _ _ h => h) (Or.inl ⟨by rfl, ?_⟩) hHeld ?_
                rotate_left
                · intro u hSw
                  go_simp
                  try with_reducible rfl
                try simp only [Act.put, List.setIfInBounds_toArray, List.set_cons_zero, List.set_cons_succ]
                refine wpAnyH_take (i := 12) (oi := { dst := some 59, op := Op.indexAddr 23 (Operand.tmp 57) (Operand.tmp 58), type := 0, pos := "ref.go:68", after := #[{ on := 10, ground := Ground.data }, { on := 11, ground := Ground.data }], guard := none }) (v := ?_) rfl (by kernel_rfl) (by kernel_rfl) (by kernel_rfl) (fun _ _ _ h => h) (Or.inl ⟨by rfl, ?_⟩) hHeld ?_
                rotate_left
                · intro u hSw
                  go_simp
                  try with_reducible rfl
                try simp only [Act.put, List.setIfInBounds_toArray, List.set_cons_zero, List.set_cons_succ]
                refine wpAnyH_take (i := 13) (oi := { dst := some 60, op := Op.load 5 (Operand.tmp 59), type := 5, pos := "ref.go:68", after := #[{ on := 12, ground := Ground.data }], guard := none }) (v := ?_) rfl (by kernel_rfl) (by kernel_rfl) (by kernel_rfl) (fun _ _ _ h => h) (Or.inl ⟨by rfl, ?_⟩) hHeld ?_
                rotate_left
                · intro u hSw
                  have k9 := PB.out u hSw
                  go_simp
                  try with_reducible rfl
                try simp only [Act.put, List.setIfInBounds_toArray, List.set_cons_zero, List.set_cons_succ]
                refine wpAnyH_take (i := 14) (oi := { dst := some 61, op := Op.indexAddr 23 (Operand.tmp 51) (Operand.tmp 52), type := 0, pos := "ref.go:68", after := #[{ on := 4, ground := Ground.data }, { on := 5, ground := Ground.data }, { on := 0, ground := Ground.phase }, { on := 1, ground := Ground.phase }, { on := 2, ground := Ground.phase }, { on := 3, ground := Ground.phase }, { on := 4, ground := Ground.phase }, { on := 5, ground := Ground.phase }, { on := 6, ground := Ground.phase }, { on := 7, ground := Ground.phase }, { on := 8, ground := Ground.phase }, { on := 9, ground := Ground.phase }, { on := 10, ground := Ground.phase }, { on := 11, ground := Ground.phase }, { on := 12, ground := Ground.phase }, { on := 13, ground := Ground.phase }], guard := none }) (v := ?_) rfl (by kernel_rfl) (by kernel_rfl) (by kernel_rfl) (fun _ _ _ h => h) (Or.inl ⟨by rfl, ?_⟩) hHeld ?_
                rotate_left
                · intro u hSw
                  go_simp
                  try with_reducible rfl
                try simp only [Act.put, List.setIfInBounds_toArray, List.set_cons_zero, List.set_cons_succ]
                refine wpAnyH_ready (rs := [15]) (by kernel_rfl) (by simp) ?_
                refine (AllReadyH.cons (o := { dst := none, op := Op.store 5 (Operand.tmp 61) (Operand.tmp 60), type := 0, pos := "ref.go:68", after := #[{ on := 14, ground := Ground.data }, { on := 13, ground := Ground.data }, { on := 0, ground := Ground.phase }, { on := 1, ground := Ground.phase }, { on := 2, ground := Ground.phase }, { on := 3, ground := Ground.phase }, { on := 4, ground := Ground.phase }, { on := 5, ground := Ground.phase }, { on := 6, ground := Ground.phase }, { on := 7, ground := Ground.phase }, { on := 8, ground := Ground.phase }, { on := 9, ground := Ground.phase }, { on := 10, ground := Ground.phase }, { on := 11, ground := Ground.phase }, { on := 12, ground := Ground.phase }, { on := 13, ground := Ground.phase }], guard := none }) rfl (fun K hK => ?_) AllReadyH.nil)
                have q0 := cellAt (HRX.out.row dq (by assumption)) b _ (vfs_get _ b (by rw [rowF_len]; exact hbh))
                have q1 : X.frozen? ⟨F0 + dq, b, none⟩ = false := frozen_of_row _ _ _ _ _ (HRX.out.row dq (by assumption))
                go_simp
                refine hK.out _ _ ?_ (fun hHeld => ?_)
                · exact grownBy_setCell GX _
                clear hK K
                try simp only [Act.put, List.setIfInBounds_toArray, List.set_cons_zero, List.set_cons_succ]
                refine wpAnyH_done (by kernel_rfl) ?_ _
                refine NoPanic.normal ?_
                obtain ⟨Z, hZ⟩ : ∃ Z, Z = X.setCell ⟨F0 + dq, b, none⟩ (.int .u8 ((at8 xs b).toNat : Int)) := ⟨_, rfl⟩
                have HZR : Hid (RunW w.heap.size Z M F0 Q k ol h g (upTo (inX L) ⟨1, (dq : Int), (sq : Int), c⟩ R9 (b + 1)) O9) := by
                  show RunW ..
                  rw [hZ, upTo_next (k := dq) (x := at8 xs b) rfl (fun h => absurd (show (1 : Int) = 5 from h) (by decide)) (by rw [doR_1 rfl]; exact (congrFun setR_same b).trans (inX_at HXS.out b))]
                  exact HRX.out.poke (by assumption) hbh _
                have HZB : Hid (Below w.heap.size w Z) := by show Below ..; rw [hZ]; exact HBX.out.setCell (p := ⟨F0 + dq, b, none⟩) (by show w.heap.size ≤ F0 + dq; have := HMB.out; omega) _
                have HZS : Hid (Z.heap[wo.heap.size]? = some (.cells #[.int .i64 1, .int .i64 (dq : Int), .int .i64 (sq : Int), .int .u8 (c.toNat : Int)] 105 (0, 0))) := by show _ = _; rw [hZ]; exact (heap_setCell_other _ _ _ _ (HSN.out dq hdq)).trans HSX.out
                rw [← hZ]
                clear hZ
                go_wp2
                exact ⟨⟨b + 1, by omega, by go_num, HZB.out, HZR.out, HZS.out⟩, by simp [intOf]; omega⟩
              · obtain ⟨dq, rfl⟩ := Int.eq_ofNat_of_zero_le hd0
                have hdq : dq < k := by omega
                clear hd0 hd1 hz1 hz2
                have p1 := cellAt HS.out 1 _ rfl
                have pm := cellAt HR.out.regs dq _ (slF_at hdq)
                have q0 := cellAt (HR.out.row dq hdq) b _ (vfs_get _ b (by rw [rowF_len]; exact hbh))
                have q1 : wr.frozen? ⟨F0 + dq, b, none⟩ = false := frozen_of_row _ _ _ _ _ (HR.out.row dq hdq)
                have HZR : Hid (RunW w.heap.size (wr.setCell ⟨F0 + dq, b, none⟩ (.int .u8 0)) M F0 Q k ol h g (upTo (inX L) ⟨2, (dq : Int), src, c⟩ R9 (b + 1)) O9) := by
                  show RunW ..
                  rw [upTo_next (k := dq) (x := 0) rfl (fun h => absurd (show (2 : Int) = 5 from h) (by decide)) (by rw [doR_2 rfl]; exact congrFun setR_same b)]
                  exact HR.out.poke hdq hbh 0
                have HZB : Hid (Below w.heap.size w (wr.setCell ⟨F0 + dq, b, none⟩ (.int .u8 0))) := HB.out.setCell (p := ⟨F0 + dq, b, none⟩) (by show w.heap.size ≤ F0 + dq; have := HMB.out; omega) _
                have HZS : Hid ((wr.setCell ⟨F0 + dq, b, none⟩ (.int .u8 0)).heap[wo.heap.size]? = some (.cells #[.int .i64 2, .int .i64 (dq : Int), .int .i64 src, .int .u8 (c.toNat : Int)] 105 (0, 0))) := (heap_setCell_other _ _ _ _ (HSN.out dq hdq)).trans HS.out
                go_wp2
                exact ⟨⟨b + 1, by omega, by go_num, HZB.out, HZR.out, HZS.out⟩, by simp [intOf]; omega⟩
              · obtain ⟨dq, rfl⟩ := Int.eq_ofNat_of_zero_le hd0
                have hdq : dq < k := by omega
                clear hd0 hd1 hz1
                go_wp2
                have P1 : Hid (∀ u, wr.grownBy u (some (F0 + dq)) → u.cell? ⟨wo.heap.size, 1, none⟩ = some (.int .i64 (dq : Int))) := fun u hu => cellAt ((hu.block _ (ltHeap HS.out) (fun e => HSN.out dq hdq (Option.some.inj e))).trans HS.out) 1 _ rfl
                have P3 : Hid (∀ u, wr.grownBy u (some (F0 + dq)) → u.cell? ⟨wo.heap.size, 3, none⟩ = some (.int .u8 (c.toNat : Int))) := fun u hu => cellAt ((hu.block _ (ltHeap HS.out) (fun e => HSN.out dq hdq (Option.some.inj e))).trans HS.out) 3 _ rfl
                have PM : Hid (∀ u, wr.grownBy u (some (F0 + dq)) → u.cell? ⟨M, dq, none⟩ = some (.slice (some ⟨F0 + dq, 0, none⟩) h h)) := fun u hu => cellAt ((hu.block _ (ltHeap HR.out.regs) (fun e => by have := Option.some.inj e; have := HR.out.hMF; omega)).trans HR.out.regs) dq _ (slF_at (by assumption))
                refine wp_region_noPanic ?_
                refine wp_region_held_drew (S := fun u => wr.grownBy u (some (F0 + dq))) (by kernel_rfl) ?_ (fun hHeld => ?_)
                · exact grownBy_drew (World.grownBy.refl _ _)
                obtain ⟨X, hX⟩ : ∃ X, X = wr.drew := ⟨_, rfl⟩
                have GX : wr.grownBy X (some (F0 + dq)) := by rw [hX]; exact grownBy_drew (World.grownBy.refl _ _)
                have HRX : Hid (RunW w.heap.size X M F0 Q k ol h g (upTo (inX L) ⟨3, (dq : Int), src, c⟩ R9 b) O9) := by show RunW ..; rw [hX]; exact HR.out.drew
                have HBX : Hid (Below w.heap.size w X) := by show Below ..; rw [hX]; exact HB.out.drew
                have HSX : Hid (X.heap[wo.heap.size]? = some (.cells #[.int .i64 3, .int .i64 (dq : Int), .int .i64 src, .int .u8 (c.toNat : Int)] 105 (0, 0))) := by show _ = _; rw [hX]; exact HS.out
                rw [← hX] at hHeld ⊢
                clear hX
                refine wpAnyH_take (i := 0) (oi := { dst := some 73, op := Op.move (Operand.tmp 7), type := 49, pos := "ref.go:72", after := #[], guard := none }) (v := ?_) rfl (by kernel_rfl) (by kernel_rfl) (by kernel_rfl) (fun _ _ _ h => h) (Or.inl ⟨by rfl, ?_⟩) hHeld ?_
                rotate_left
                · intro u hSw
                  go_simp
                  try with_reducible rfl
                try simp only [Act.put, List.setIfInBounds_toArray, List.set_cons_zero, List.set_cons_succ]
                refine wpAnyH_take (i := 1) (oi := { dst := some 74, op := Op.fieldAddr 105 (Operand.tmp 11) 1, type := 0, pos := "ref.go:72", after := #[], guard := none }) (v := ?_) rfl (by kernel_rfl) (by kernel_rfl) (by kernel_rfl) (fun _ _ _ h => h) (Or.inl ⟨by rfl, ?_⟩) hHeld ?_
                rotate_left
                · intro u hSw
                  go_simp
                  try with_reducible rfl
                try simp only [Act.put, List.setIfInBounds_toArray, List.set_cons_zero, List.set_cons_succ]
                refine wpAnyH_take (i := 2) (oi := { dst := some 75, op := Op.load 3 (Operand.tmp 74), type := 3, pos := "ref.go:72", after := #[{ on := 1, ground := Ground.data }], guard := none }) (v := ?_) rfl (by kernel_rfl) (by kernel_rfl) (by kernel_rfl) (fun _ _ _ h => h) (Or.inl ⟨by rfl, ?_⟩) hHeld ?_
                rotate_left
                · intro u hSw
                  have k9 := P1.out u hSw
                  go_simp
                  try with_reducible rfl
                try simp only [Act.put, List.setIfInBounds_toArray, List.set_cons_zero, List.set_cons_succ]
                refine wpAnyH_take (i := 3) (oi := { dst := some 76, op := Op.indexAddr 49 (Operand.tmp 73) (Operand.tmp 75), type := 0, pos := "ref.go:72", after := #[{ on := 0, ground := Ground.data }, { on := 2, ground := Ground.data }], guard := none }) (v := ?_) rfl (by kernel_rfl) (by kernel_rfl) (by kernel_rfl) (fun _ _ _ h => h) (Or.inl ⟨by rfl, ?_⟩) hHeld ?_
                rotate_left
                · intro u hSw
                  go_simp
                  try with_reducible rfl
                try simp only [Act.put, List.setIfInBounds_toArray, List.set_cons_zero, List.set_cons_succ]
                refine wpAnyH_take (i := 4) (oi := { dst := some 77, op := Op.load 23 (Operand.tmp 76), type := 23, pos := "ref.go:72", after := #[{ on := 3, ground := Ground.data }], guard := none }) (v := ?_) rfl (by kernel_rfl) (by kernel_rfl) (by kernel_rfl) (fun _ _ _ h => h) (Or.inl ⟨by rfl, ?_⟩) hHeld ?_
                rotate_left
                · intro u hSw
                  have k9 := PM.out u hSw
                  go_simp
                  try with_reducible rfl
                try simp only [Act.put, List.setIfInBounds_toArray, List.set_cons_zero, List.set_cons_succ]
                refine wpAnyH_take (i := 5) (oi := { dst := some 78, op := Op.move (Operand.tmp 12), type := 3, pos := "ref.go:72", after := #[], guard := none }) (v := ?_) rfl (by kernel_rfl) (by kernel_rfl) (by kernel_rfl) (fun _ _ _ h => h) (Or.inl ⟨by rfl, ?_⟩) hHeld ?_
                rotate_left
                · intro u hSw
                  go_simp
                  try with_reducible rfl
                try simp only [Act.put, List.setIfInBounds_toArray, List.set_cons_zero, List.set_cons_succ]
                refine wpAnyH_take (i := 6) (oi := { dst := some 79, op := Op.fieldAddr 105 (Operand.tmp 11) 3, type := 0, pos := "ref.go:72", after := #[], guard := none }) (v := ?_) rfl (by kernel_rfl) (by kernel_rfl) (by kernel_rfl) (fun _ _ _ h => h) (Or.inl ⟨by rfl, ?_⟩) hHeld ?_
                rotate_left
                · intro u hSw
                  go_simp
                  try with_reducible rfl
                try simp only [Act.put, List.setIfInBounds_toArray, List.set_cons_zero, List.set_cons_succ]
                refine wpAnyH_take (i := 7) (oi := { dst := some 80, op := Op.load 5 (Operand.tmp 79), type := 5, pos := "ref.go:72", after := #[{ on := 6, ground := Ground.data }], guard := none }) (v := ?_) rfl (by kernel_rfl) (by kernel_rfl) (by kernel_rfl) (fun _ _ _ h => h) (Or.inl ⟨by rfl, ?_⟩) hHeld ?_
                rotate_left
                · intro u hSw
                  have k9 := P3.out u hSw
                  go_simp
                  try with_reducible rfl
                try simp only [Act.put, List.setIfInBounds_toArray, List.set_cons_zero, List.set_cons_succ]
                refine wpAnyH_take (i := 8) (oi := { dst := some 81, op := Op.move (Operand.tmp 7), type := 49, pos := "ref.go:72", after := #[], guard := none }) (v := ?_) rfl (by kernel_rfl) (by kernel_rfl) (by kernel_rfl) (fun _ _ _ h => h) (Or.inl ⟨by rfl, ?_⟩) hHeld ?_
                rotate_left
                · intro u hSw
                  go_simp
                  try with_reducible rfl
                try simp only [Act.put, List.setIfInBounds_toArray, List.set_cons_zero, List.set_cons_succ]
                refine wpAnyH_take (i := 9) (oi := { dst := some 82, op := Op.fieldAddr 105 (Operand.tmp 11) 1, type := 0, pos := "ref.go:72", after := #[], guard := none }) (v := ?_) rfl (by kernel_rfl) (by kernel_rfl) (by kernel_rfl) (fun _ _ _ h => h) (Or.inl ⟨by rfl, ?_⟩) hHeld ?_
                rotate_left
                · intro u hSw
                  go_simp
                  try with_reducible rfl
                try simp only [Act.put, List.setIfInBounds_toArray, List.set_cons_zero, List.set_cons_succ]
                refine wpAnyH_take (i := 10) (oi := { dst := some 83, op := Op.load 3 (Operand.tmp 82), type := 3, pos := "ref.go:72", after := #[{ on := 9, ground := Ground.data }], guard := none }) (v := ?_) rfl (by kernel_rfl) (by kernel_rfl) (by kernel_rfl) (fun _ _ _ h => h) (Or.inl ⟨by rfl, ?_⟩) hHeld ?_
                rotate_left
                · intro u hSw
                  have k9 := P1.out u hSw
                  go_simp
                  try with_reducible rfl
                try simp only [Act.put, List.setIfInBounds_toArray, List.set_cons_zero, List.set_cons_succ]
                refine wpAnyH_take (i := 11) (oi := { dst := some 84, op := Op.indexAddr 49 (Operand.tmp 81) (Operand.tmp 83), type := 0, pos := "ref.go:72", after := #[{ on := 8, ground := Ground.data }, { on := 10, ground := Ground.data }], guard := none }) (v := ?_) rfl (by kernel_rfl) (by kernel_rfl) (by kernel_rfl) (fun _ _ _ h => h) (Or.inl ⟨by rfl, ?_⟩) hHeld ?_
                rotate_left
                · intro u hSw
                  go_simp
                  try with_reducible rfl
                try simp only [Act.put, List.setIfInBounds_toArray, List.set_cons_zero, List.set_cons_succ]
                refine wpAnyH_take (i := 12) (oi := { dst := some 85, op := Op.load 23 (Operand.tmp 84), type := 23, pos := "ref.go:72", after := #[{ on := 11, ground := Ground.data }], guard := none }) (v := ?_) rfl (by kernel_rfl) (by kernel_rfl) (by kernel_rfl) (fun _ _ _ h => h) (Or.inl ⟨by rfl, ?_⟩) hHeld ?_
                rotate_left
                · intro u hSw
                  have k9 := PM.out u hSw
                  go_simp
                  try with_reducible rfl
                try simp only [Act.put, List.setIfInBounds_toArray, List.set_cons_zero, List.set_cons_succ]
                refine wpAnyH_take (i := 13) (oi := { dst := some 86, op := Op.move (Operand.tmp 12), type := 3, pos := "ref.go:72", after := #[], guard := none }) (v := ?_) rfl (by kernel_rfl) (by kernel_rfl) (by kernel_rfl) (fun _ _ _ h => h) (Or.inl ⟨by rfl, ?_⟩) hHeld ?_
                rotate_left
                · intro u hSw
                  go_simp
                  try with_reducible rfl
                try simp only [Act.put, List.setIfInBounds_toArray, List.set_cons_zero, List.set_cons_succ]
                refine wpAnyH_take (i := 14) (oi := { dst := some 87, op := Op.indexAddr 23 (Operand.tmp 85) (Operand.tmp 86), type := 0, pos := "ref.go:72", after := #[{ on := 12, ground := Ground.data }, { on := 13, ground := Ground.data }], guard := none }) (v := ?_) rfl (by kernel_rfl) (by kernel_rfl) (by kernel_rfl) (fun _ _ _ h => h) (Or.inl ⟨by rfl, ?_⟩) hHeld ?_
                rotate_left
                · intro u hSw
                  go_simp
                  try with_reducible rfl
                try simp only [Act.put, List.setIfInBounds_toArray, List.set_cons_zero, List.set_cons_succ]
                refine wpAnyH_ready (rs := [15]) (by kernel_rfl) (by simp) ?_
                refine (AllReadyH.cons (o := { dst := some 88, op := Op.load 5 (Operand.tmp 87), type := 5, pos := "ref.go:72", after := #[{ on := 14, ground := Ground.data }], guard := none }) rfl (fun K hK => ?_) AllReadyH.nil)
                have q9 := cellAt (HRX.out.row dq (by assumption)) b _ (vfs_get _ b (by rw [rowF_len]; exact hbh))
                rw [at8_rowF hbh, upTo_at] at q9
                go_simp
                refine hK.out _ _ ?_ (fun hHeld => ?_)
                · exact GX
                clear hK K
                try simp only [Act.put, List.setIfInBounds_toArray, List.set_cons_zero, List.set_cons_succ]
                refine wpAnyH_ready (rs := [16]) (by kernel_rfl) (by simp) ?_
                refine (AllReadyH.cons (o := { dst := some 89, op := Op.call { callee := Callee.value (Operand.func 64), args := #[Operand.tmp 80, Operand.tmp 88], argTypes := #[5, 5] }, type := 5, pos := "ref.go:72", after := #[{ on := 7, ground := Ground.data }, { on := 15, ground := Ground.data }], guard := none }) rfl (fun K hK => ?_) AllReadyH.nil)
                go_simp
                refine (rmul_F c (R9 (dq : Int) b) _).mono ?_
                rintro e w9 ⟨rfl, rfl⟩
                go_wp2_with fail
                refine hK.out _ _ ?_ (fun hHeld => ?_)
                · exact GX
                clear hK K
                try simp only [Act.put, List.setIfInBounds_toArray, List.set_cons_zero, List.set_cons_succ]
                refine wpAnyH_take (i := 17) (oi := { dst := some 90, op := Op.indexAddr 23 (Operand.tmp 77) (Operand.tmp 78), type := 0, pos := "ref.go:72", after := #[{ on := 4, ground := Ground.data }, { on := 5, ground := Ground.data }, { on := 0, ground := Ground.phase }, { on := 1, ground := Ground.phase }, { on := 2, ground := Ground.phase }, { on := 3, ground := Ground.phase }, { on := 4, ground := Ground.phase }, { on := 5, ground := Ground.phase }, { on := 6, ground := Ground.phase }, { on := 7, ground := Ground.phase }, { on := 8, ground := Ground.phase }, { on := 9, ground := Ground.phase }, { on := 10, ground := Ground.phase }, { on := 11, ground := Ground.phase }, { on := 12, ground := Ground.phase }, { on := 13, ground := Ground.phase }, { on := 14, ground := Ground.phase }, { on := 15, ground := Ground.phase }, { on := 16, ground := Ground.phase }], guard := none }) (v := ?_) rfl (by kernel_rfl) (by kernel_rfl) (by kernel_rfl) (fun _ _ _ h => h) (Or.inl ⟨by rfl, ?_⟩) hHeld ?_
                rotate_left
                · intro u hSw
                  go_simp
                  try with_reducible rfl
                try simp only [Act.put, List.setIfInBounds_toArray, List.set_cons_zero, List.set_cons_succ]
                refine wpAnyH_ready (rs := [18]) (by kernel_rfl) (by simp) ?_
                refine (AllReadyH.cons (o := { dst := none, op := Op.store 5 (Operand.tmp 90) (Operand.tmp 89), type := 0, pos := "ref.go:72", after := #[{ on := 17, ground := Ground.data }, { on := 16, ground := Ground.data }, { on := 16, ground := Ground.chain }, { on := 0, ground := Ground.phase }, { on := 1, ground := Ground.phase }, { on := 2, ground := Ground.phase }, { on := 3, ground := Ground.phase }, { on := 4, ground := Ground.phase }, { on := 5, ground := Ground.phase }, { on := 6, ground := Ground.phase }, { on := 7, ground := Ground.phase }, { on := 8, ground := Ground.phase }, { on := 9, ground := Ground.phase }, { on := 10, ground := Ground.phase }, { on := 11, ground := Ground.phase }, { on := 12, ground := Ground.phase }, { on := 13, ground := Ground.phase }, { on := 14, ground := Ground.phase }, { on := 15, ground := Ground.phase }, { on := 16, ground := Ground.phase }], guard := none }) rfl (fun K hK => ?_) AllReadyH.nil)
                have q0 := cellAt (HRX.out.row dq (by assumption)) b _ (vfs_get _ b (by rw [rowF_len]; exact hbh))
                have q1 : X.frozen? ⟨F0 + dq, b, none⟩ = false := frozen_of_row _ _ _ _ _ (HRX.out.row dq (by assumption))
                go_simp
                refine hK.out _ _ ?_ (fun hHeld => ?_)
                · exact grownBy_setCell GX _
                clear hK K
                try simp only [Act.put, List.setIfInBounds_toArray, List.set_cons_zero, List.set_cons_succ]
                refine wpAnyH_done (by kernel_rfl) ?_ _
                refine NoPanic.normal ?_
                obtain ⟨Z, hZ⟩ : ∃ Z, Z = X.setCell ⟨F0 + dq, b, none⟩ (.int .u8 ((gm c (R9 (dq : Int) b)).toNat : Int)) := ⟨_, rfl⟩
                have HZR : Hid (RunW w.heap.size Z M F0 Q k ol h g (upTo (inX L) ⟨3, (dq : Int), src, c⟩ R9 (b + 1)) O9) := by
                  show RunW ..
                  rw [hZ, upTo_next (k := dq) (x := gm c (R9 (dq : Int) b)) rfl (fun h => absurd (show (3 : Int) = 5 from h) (by decide)) (by rw [doR_3 rfl]; exact congrFun setR_same b)]
                  exact HRX.out.poke (by assumption) hbh _
                have HZB : Hid (Below w.heap.size w Z) := by show Below ..; rw [hZ]; exact HBX.out.setCell (p := ⟨F0 + dq, b, none⟩) (by show w.heap.size ≤ F0 + dq; have := HMB.out; omega) _
                have HZS : Hid (Z.heap[wo.heap.size]? = some (.cells #[.int .i64 3, .int .i64 (dq : Int), .int .i64 src, .int .u8 (c.toNat : Int)] 105 (0, 0))) := by show _ = _; rw [hZ]; exact (heap_setCell_other _ _ _ _ (HSN.out dq hdq)).trans HSX.out
                rw [← hZ]
                clear hZ
                go_wp2
                exact ⟨⟨b + 1, by omega, by go_num, HZB.out, HZR.out, HZS.out⟩, by simp [intOf]; omega⟩
              · obtain ⟨dq, rfl⟩ := Int.eq_ofNat_of_zero_le hd0
                obtain ⟨sq, rfl⟩ := Int.eq_ofNat_of_zero_le hs0
                have hdq : dq < k := by omega
                have hsq : sq < k := by omega
                clear hd0 hd1 hs0 hs1
                go_wp2
                have P1 : Hid (∀ u, wr.grownBy u (some (F0 + dq)) → u.cell? ⟨wo.heap.size, 1, none⟩ = some (.int .i64 (dq : Int))) := fun u hu => cellAt ((hu.block _ (ltHeap HS.out) (fun e => HSN.out dq hdq (Option.some.inj e))).trans HS.out) 1 _ rfl
                have P2 : Hid (∀ u, wr.grownBy u (some (F0 + dq)) → u.cell? ⟨wo.heap.size, 2, none⟩ = some (.int .i64 (sq : Int))) := fun u hu => cellAt ((hu.block _ (ltHeap HS.out) (fun e => HSN.out dq hdq (Option.some.inj e))).trans HS.out) 2 _ rfl
                have P3 : Hid (∀ u, wr.grownBy u (some (F0 + dq)) → u.cell? ⟨wo.heap.size, 3, none⟩ = some (.int .u8 (c.toNat : Int))) := fun u hu => cellAt ((hu.block _ (ltHeap HS.out) (fun e => HSN.out dq hdq (Option.some.inj e))).trans HS.out) 3 _ rfl
                have PM : Hid (∀ u, wr.grownBy u (some (F0 + dq)) → u.cell? ⟨M, dq, none⟩ = some (.slice (some ⟨F0 + dq, 0, none⟩) h h)) := fun u hu => cellAt ((hu.block _ (ltHeap HR.out.regs) (fun e => by have := Option.some.inj e; have := HR.out.hMF; omega)).trans HR.out.regs) dq _ (slF_at (by assumption))
                have PQ : Hid (∀ u, wr.grownBy u (some (F0 + dq)) → u.cell? ⟨M, sq, none⟩ = some (.slice (some ⟨F0 + sq, 0, none⟩) h h)) := fun u hu => cellAt ((hu.block _ (ltHeap HR.out.regs) (fun e => by have := Option.some.inj e; have := HR.out.hMF; omega)).trans HR.out.regs) sq _ (slF_at (by assumption))
                refine wp_region_noPanic ?_
                refine wp_region_held_drew (S := fun u => wr.grownBy u (some (F0 + dq))) (by kernel_rfl) ?_ (fun hHeld => ?_)
                · exact grownBy_drew (World.grownBy.refl _ _)
                obtain ⟨X, hX⟩ : ∃ X, X = wr.drew := ⟨_, rfl⟩
                have GX : wr.grownBy X (some (F0 + dq)) := by rw [hX]; exact grownBy_drew (World.grownBy.refl _ _)
                have HRX : Hid (RunW w.heap.size X M F0 Q k ol h g (upTo (inX L) ⟨4, (dq : Int), (sq : Int), c⟩ R9 b) O9) := by show RunW ..; rw [hX]; exact HR.out.drew
                have HBX : Hid (Below w.heap.size w X) := by show Below ..; rw [hX]; exact HB.out.drew
                have HSX : Hid (X.heap[wo.heap.size]? = some (.cells #[.int .i64 4, .int .i64 (dq : Int), .int .i64 (sq : Int), .int .u8 (c.toNat : Int)] 105 (0, 0))) := by show _ = _; rw [hX]; exact HS.out
                rw [← hX] at hHeld ⊢
                clear hX
                refine wpAnyH_take (i := 0) (oi := { dst := some 93, op := Op.move (Operand.tmp 7), type := 49, pos := "ref.go:74", after := #[], guard := none }) (v := ?_) rfl (by kernel_rfl) (by kernel_rfl) (by kernel_rfl) (fun _ _ _ h => h) (Or.inl ⟨by rfl, ?_⟩) hHeld ?_
                rotate_left
                · intro u hSw
                  go_simp
                  try with_reducible rfl
                try simp only [Act.put, List.setIfInBounds_toArray, List.set_cons_zero, List.set_cons_succ]
                refine wpAnyH_take (i := 1) (oi := { dst := some 94, op := Op.fieldAddr 105 (Operand.tmp 11) 1, type := 0, pos := "ref.go:74", after := #[], guard := none }) (v := ?_) rfl (by kernel_rfl) (by kernel_rfl) (by kernel_rfl) (fun _ _ _ h => h) (Or.inl ⟨by rfl, ?_⟩) hHeld ?_
                rotate_left
                · intro u hSw
                  go_simp
                  try with_reducible rfl
                try simp only [Act.put, List.setIfInBounds_toArray, List.set_cons_zero, List.set_cons_succ]
                refine wpAnyH_take (i := 2) (oi := { dst := some 95, op := Op.load 3 (Operand.tmp 94), type := 3, pos := "ref.go:74", after := #[{ on := 1, ground := Ground.data }], guard := none }) (v := ?_) rfl (by kernel_rfl) (by kernel_rfl) (by kernel_rfl) (fun _ _ _ h => h) (Or.inl ⟨by rfl, ?_⟩) hHeld ?_
                rotate_left
                · intro u hSw
                  have k9 := P1.out u hSw
                  go_simp
                  try with_reducible rfl
                try simp only [Act.put, List.setIfInBounds_toArray, List.set_cons_zero, List.set_cons_succ]
                refine wpAnyH_take (i := 3) (oi := { dst := some 96, op := Op.indexAddr 49 (Operand.tmp 93) (Operand.tmp 95), type := 0, pos := "ref.go:74", after := #[{ on := 0, ground := Ground.data }, { on := 2, ground := Ground.data }], guard := none }) (v := ?_) rfl (by kernel_rfl) (by kernel_rfl) (by kernel_rfl) (fun _ _ _ h => h) (Or.inl ⟨by rfl, ?_⟩) hHeld ?_
                rotate_left
                · intro u hSw
                  go_simp
                  try with_reducible rfl
                try simp only [Act.put, List.setIfInBounds_toArray, List.set_cons_zero, List.set_cons_succ]
                refine wpAnyH_take (i := 4) (oi := { dst := some 97, op := Op.load 23 (Operand.tmp 96), type := 23, pos := "ref.go:74", after := #[{ on := 3, ground := Ground.data }], guard := none }) (v := ?_) rfl (by kernel_rfl) (by kernel_rfl) (by kernel_rfl) (fun _ _ _ h => h) (Or.inl ⟨by rfl, ?_⟩) hHeld ?_
                rotate_left
                · intro u hSw
                  have k9 := PM.out u hSw
                  go_simp
                  try with_reducible rfl
                try simp only [Act.put, List.setIfInBounds_toArray, List.set_cons_zero, List.set_cons_succ]
                refine wpAnyH_take (i := 5) (oi := { dst := some 98, op := Op.move (Operand.tmp 12), type := 3, pos := "ref.go:74", after := #[], guard := none }) (v := ?_) rfl (by kernel_rfl) (by kernel_rfl) (by kernel_rfl) (fun _ _ _ h => h) (Or.inl ⟨by rfl, ?_⟩) hHeld ?_
                rotate_left
                · intro u hSw
                  go_simp
                  try with_reducible rfl
                try simp only [Act.put, List.setIfInBounds_toArray, List.set_cons_zero, List.set_cons_succ]
                refine wpAnyH_take (i := 6) (oi := { dst := some 99, op := Op.indexAddr 23 (Operand.tmp 97) (Operand.tmp 98), type := 0, pos := "ref.go:74", after := #[{ on := 4, ground := Ground.data }, { on := 5, ground := Ground.data }], guard := none }) (v := ?_) rfl (by kernel_rfl) (by kernel_rfl) (by kernel_rfl) (fun _ _ _ h => h) (Or.inl ⟨by rfl, ?_⟩) hHeld ?_
                rotate_left
                · intro u hSw
                  go_simp
                  try with_reducible rfl
                try simp only [Act.put, List.setIfInBounds_toArray, List.set_cons_zero, List.set_cons_succ]
                refine wpAnyH_take (i := 8) (oi := { dst := some 101, op := Op.fieldAddr 105 (Operand.tmp 11) 3, type := 0, pos := "ref.go:74", after := #[], guard := none }) (v := ?_) rfl (by kernel_rfl) (by kernel_rfl) (by kernel_rfl) (fun _ _ _ h => h) (Or.inl ⟨by rfl, ?_⟩) hHeld ?_
                rotate_left
                · intro u hSw
                  go_simp
                  try with_reducible rfl
                try simp only [Act.put, List.setIfInBounds_toArray, List.set_cons_zero, List.set_cons_succ]
                refine wpAnyH_take (i := 9) (oi := { dst := some 102, op := Op.load 5 (Operand.tmp 101), type := 5, pos := "ref.go:74", after := #[{ on := 8, ground := Ground.data }], guard := none }) (v := ?_) rfl (by kernel_rfl) (by kernel_rfl) (by kernel_rfl) (fun _ _ _ h => h) (Or.inl ⟨by rfl, ?_⟩) hHeld ?_
                rotate_left
                · intro u hSw
                  have k9 := P3.out u hSw
                  go_simp
                  try with_reducible rfl
                try simp only [Act.put, List.setIfInBounds_toArray, List.set_cons_zero, List.set_cons_succ]
                refine wpAnyH_take (i := 10) (oi := { dst := some 103, op := Op.move (Operand.tmp 7), type := 49, pos := "ref.go:74", after := #[], guard := none }) (v := ?_) rfl (by kernel_rfl) (by kernel_rfl) (by kernel_rfl) (fun _ _ _ h => h) (Or.inl ⟨by rfl, ?_⟩) hHeld ?_
                rotate_left
                · intro u hSw
                  go_simp
                  try with_reducible rfl
                try simp only [Act.put, List.setIfInBounds_toArray, List.set_cons_zero, List.set_cons_succ]
                refine wpAnyH_take (i := 11) (oi := { dst := some 104, op := Op.fieldAddr 105 (Operand.tmp 11) 2, type := 0, pos := "ref.go:74", after := #[], guard := none }) (v := ?_) rfl (by kernel_rfl) (by kernel_rfl) (by kernel_rfl) (fun _ _ _ h => h) (Or.inl ⟨by rfl, ?_⟩) hHeld ?_
                rotate_left
                · intro u hSw
                  go_simp
                  try with_reducible rfl
                try simp only [Act.put, List.setIfInBounds_toArray, List.set_cons_zero, List.set_cons_succ]
                refine wpAnyH_take (i := 12) (oi := { dst := some 105, op := Op.load 3 (Operand.tmp 104), type := 3, pos := "ref.go:74", after := #[{ on := 11, ground := Ground.data }], guard := none }) (v := ?_) rfl (by kernel_rfl) (by kernel_rfl) (by kernel_rfl) (fun _ _ _ h => h) (Or.inl ⟨by rfl, ?_⟩) hHeld ?_
                rotate_left
                · intro u hSw
                  have k9 := P2.out u hSw
                  go_simp
                  try with_reducible rfl
                try simp only [Act.put, List.setIfInBounds_toArray, List.set_cons_zero, List.set_cons_succ]
                refine wpAnyH_take (i := 13) (oi := { dst := some 106, op := Op.indexAddr 49 (Operand.tmp 103) (Operand.tmp 105), type := 0, pos := "ref.go:74", after := #[{ on := 10, ground := Ground.data }, { on := 12, ground := Ground.data }], guard := none }) (v := ?_) rfl (by kernel_rfl) (by kernel_rfl) (by kernel_rfl) (fun _ _ _ h => h) (Or.inl ⟨by rfl, ?_⟩) hHeld ?_
                rotate_left
                · intro u hSw
                  go_simp
                  try with_reducible rfl
                try simp only [Act.put, List.setIfInBounds_toArray, List.set_cons_zero, List.set_cons_succ]
                refine wpAnyH_take (i := 14) (oi := { dst := some 107, op := Op.load 23 (Operand.tmp 106), type := 23, pos := "ref.go:74", after := #[{ on := 13, ground := Ground.data }], guard := none }) (v := ?_) rfl (by kernel_rfl) (by kernel_rfl) (by kernel_rfl) (fun _ _ _ h => h) (Or.inl ⟨by rfl, ?_⟩) hHeld ?_
                rotate_left
                · intro u hSw
                  have k9 := PQ.out u hSw
                  go_simp
                  try with_reducible rfl
                try simp only [Act.put, List.setIfInBounds_toArray, List.set_cons_zero, List.set_cons_succ]
                refine wpAnyH_take (i := 15) (oi := { dst := some 108, op := Op.move (Operand.tmp 12), type := 3, pos := "ref.go:74", after := #[], guard := none }) (v := ?_) rfl (by kernel_rfl) (by kernel_rfl) (by kernel_rfl) (fun _ _ _ h => h) (Or.inl ⟨by rfl, ?_⟩) hHeld ?_
                rotate_left
                · intro u hSw
                  go_simp
                  try with_reducible rfl
                try simp only [Act.put, List.setIfInBounds_toArray, List.set_cons_zero, List.set_cons_succ]
                refine wpAnyH_take (i := 16) (oi := { dst := some 109, op := Op.indexAddr 23 (Operand.tmp 107) (Operand.tmp 108), type := 0, pos := "ref.go:74", after := #[{ on := 14, ground := Ground.data }, { on := 15, ground := Ground.data }], guard := none }) (v := ?_) rfl (by kernel_rfl) (by kernel_rfl) (by kernel_rfl) (fun _ _ _ h => h) (Or.inl ⟨by rfl, ?_⟩) hHeld ?_
                rotate_left
                · intro u hSw
                  go_simp
                  try with_reducible rfl
                try simp only [Act.put, List.setIfInBounds_toArray, List.set_cons_zero, List.set_cons_succ]
                refine wpAnyH_ready (rs := [7, 17]) (by kernel_rfl) (by simp) ?_
                refine (AllReadyH.cons (o := { dst := some 100, op := Op.load 5 (Operand.tmp 99), type := 5, pos := "ref.go:74", after := #[{ on := 6, ground := Ground.data }], guard := none }) rfl (fun K hK => ?_) (AllReadyH.cons (o := { dst := some 110, op := Op.load 5 (Operand.tmp 109), type := 5, pos := "ref.go:74", after := #[{ on := 16, ground := Ground.data }], guard := none }) rfl (fun K hK => ?_) AllReadyH.nil))
                · have q9 := cellAt (HRX.out.row dq (by assumption)) b _ (vfs_get _ b (by rw [rowF_len]; exact hbh))
                  rw [at8_rowF hbh, upTo_at] at q9
                  go_simp
                  refine hK.out _ _ ?_ (fun hHeld => ?_)
                  · exact GX
                  clear hK K
                  try simp only [Act.put, List.setIfInBounds_toArray, List.set_cons_zero, List.set_cons_succ]
                  refine wpAnyH_ready (rs := [17]) (by kernel_rfl) (by simp) ?_
                  refine (AllReadyH.cons (o := { dst := some 110, op := Op.load 5 (Operand.tmp 109), type := 5, pos := "ref.go:74", after := #[{ on := 16, ground := Ground.data }], guard := none }) rfl (fun K hK => ?_) AllReadyH.nil)
                  have q8 := cellAt (HRX.out.row sq (by assumption)) b _ (vfs_get _ b (by rw [rowF_len]; exact hbh))
                  rw [at8_rowF hbh, upTo_at] at q8
                  go_simp
                  refine hK.out _ _ ?_ (fun hHeld => ?_)
                  · exact GX
                  clear hK K
                  try simp only [Act.put, List.setIfInBounds_toArray, List.set_cons_zero, List.set_cons_succ]
                  refine wpAnyH_ready (rs := [18]) (by kernel_rfl) (by simp) ?_
                  refine (AllReadyH.cons (o := { dst := some 111, op := Op.call { callee := Callee.value (Operand.func 64), args := #[Operand.tmp 102, Operand.tmp 110], argTypes := #[5, 5] }, type := 5, pos := "ref.go:74", after := #[{ on := 9, ground := Ground.data }, { on := 17, ground := Ground.data }], guard := none }) rfl (fun K hK => ?_) AllReadyH.nil)
                  go_simp
                  refine (rmul_F c (R9 (sq : Int) b) _).mono ?_
                  rintro e w9 ⟨rfl, rfl⟩
                  go_wp2_with fail
                  refine hK.out _ _ ?_ (fun hHeld => ?_)
                  · exact GX
                  clear hK K
                  try simp only [Act.put, List.setIfInBounds_toArray, List.set_cons_zero, List.set_cons_succ]
                  refine wpAnyH_take (i := 19) (oi := { dst := some 112, op := Op.binOp BinOp.xor 5 (Operand.tmp 100) (Operand.tmp 111) 5, type := 5, pos := "ref.go:74", after := #[{ on := 7, ground := Ground.data }, { on := 18, ground := Ground.data }], guard := none }) (v := ?_) rfl (by kernel_rfl) (by kernel_rfl) (by kernel_rfl) (fun _ _ _ h => h) (Or.inl ⟨by rfl, ?_⟩) hHeld ?_
                  rotate_left
                  · intro u hSw
                    go_simp
                    try with_reducible rfl
                  try simp only [Act.put, List.setIfInBounds_toArray, List.set_cons_zero, List.set_cons_succ]
                  refine wpAnyH_take (i := 20) (oi := { dst := some 113, op := Op.indexAddr 23 (Operand.tmp 97) (Operand.tmp 98), type := 0, pos := "ref.go:74", after := #[{ on := 4, ground := Ground.data }, { on := 5, ground := Ground.data }, { on := 0, ground := Ground.phase }, { on := 1, ground := Ground.phase }, { on := 2, ground := Ground.phase }, { on := 3, ground := Ground.phase }, { on := 4, ground := Ground.phase }, { on := 5, ground := Ground.phase }, { on := 6, ground := Ground.phase }, { on := 7, ground := Ground.phase }, { on := 8, ground := Ground.phase }, { on := 9, ground := Ground.phase }, { on := 10, ground := Ground.phase }, { on := 11, ground := Ground.phase }, { on := 12, ground := Ground.phase }, { on := 13, ground := Ground.phase }, { on := 14, ground := Ground.phase }, { on := 15, ground := Ground.phase }, { on := 16, ground := Ground.phase }, { on := 17, ground := Ground.phase }, { on := 18, ground := Ground.phase }, { on := 19, ground := Ground.phase }], guard := none }) (v := ?_) rfl (by kernel_rfl) (by kernel_rfl) (by kernel_rfl) (fun _ _ _ h => h) (Or.inl ⟨by rfl, ?_⟩) hHeld ?_
                  rotate_left
                  · intro u hSw
                    go_simp
                    try with_reducible rfl
                  try simp only [Act.put, List.setIfInBounds_toArray, List.set_cons_zero, List.set_cons_succ]
                  refine wpAnyH_ready (rs := [21]) (by kernel_rfl) (by simp) ?_
                  refine (AllReadyH.cons (o := { dst := none, op := Op.store 5 (Operand.tmp 113) (Operand.tmp 112), type := 0, pos := "ref.go:74", after := #[{ on := 20, ground := Ground.data }, { on := 19, ground := Ground.data }, { on := 18, ground := Ground.chain }, { on := 0, ground := Ground.phase }, { on := 1, ground := Ground.phase }, { on := 2, ground := Ground.phase }, { on := 3, ground := Ground.phase }, { on := 4, ground := Ground.phase }, { on := 5, ground := Ground.phase }, { on := 6, ground := Ground.phase }, { on := 7, ground := Ground.phase }, { on := 8, ground := Ground.phase }, { on := 9, ground := Ground.phase }, { on := 10, ground := Ground.phase }, { on := 11, ground := Ground.phase }, { on := 12, ground := Ground.phase }, { on := 13, ground := Ground.phase }, { on := 14, ground := Ground.phase }, { on := 15, ground := Ground.phase }, { on := 16, ground := Ground.phase }, { on := 17, ground := Ground.phase }, { on := 18, ground := Ground.phase }, { on := 19, ground := Ground.phase }], guard := none }) rfl (fun K hK => ?_) AllReadyH.nil)
                  have q0 := cellAt (HRX.out.row dq (by assumption)) b _ (vfs_get _ b (by rw [rowF_len]; exact hbh))
                  have q1 : X.frozen? ⟨F0 + dq, b, none⟩ = false := frozen_of_row _ _ _ _ _ (HRX.out.row dq (by assumption))
                  go_simp
                  refine hK.out _ _ ?_ (fun hHeld => ?_)
                  · exact grownBy_setCell GX _
                  clear hK K
                  try simp only [Act.put, List.setIfInBounds_toArray, List.set_cons_zero, List.set_cons_succ]
                  refine wpAnyH_done (by kernel_rfl) ?_ _
                  refine NoPanic.normal ?_
                  obtain ⟨Z, hZ⟩ : ∃ Z, Z = X.setCell ⟨F0 + dq, b, none⟩ (.int .u8 ((ga (R9 (dq : Int) b) (gm c (R9 (sq : Int) b))).toNat : Int)) := ⟨_, rfl⟩
                  have HZR : Hid (RunW w.heap.size Z M F0 Q k ol h g (upTo (inX L) ⟨4, (dq : Int), (sq : Int), c⟩ R9 (b + 1)) O9) := by
                    show RunW ..
                    rw [hZ, upTo_next (k := dq) (x := ga (R9 (dq : Int) b) (gm c (R9 (sq : Int) b))) rfl (fun h => absurd (show (4 : Int) = 5 from h) (by decide)) (by rw [doR_4 rfl]; exact congrFun setR_same b)]
                    exact HRX.out.poke (by assumption) hbh _
                  have HZB : Hid (Below w.heap.size w Z) := by show Below ..; rw [hZ]; exact HBX.out.setCell (p := ⟨F0 + dq, b, none⟩) (by show w.heap.size ≤ F0 + dq; have := HMB.out; omega) _
                  have HZS : Hid (Z.heap[wo.heap.size]? = some (.cells #[.int .i64 4, .int .i64 (dq : Int), .int .i64 (sq : Int), .int .u8 (c.toNat : Int)] 105 (0, 0))) := by show _ = _; rw [hZ]; exact (heap_setCell_other _ _ _ _ (HSN.out dq hdq)).trans HSX.out
                  rw [xor_val, ← hZ]
                  clear hZ
                  go_wp2
                  exact ⟨⟨b + 1, by omega, by go_num, HZB.out, HZR.out, HZS.out⟩, by simp [intOf]; omega⟩
                · have q8 := cellAt (HRX.out.row sq (by assumption)) b _ (vfs_get _ b (by rw [rowF_len]; exact hbh))
                  rw [at8_rowF hbh, upTo_at] at q8
                  go_simp
                  refine hK.out _ _ ?_ (fun hHeld => ?_)
                  · exact GX
                  clear hK K
                  try simp only [Act.put, List.setIfInBounds_toArray, List.set_cons_zero, List.set_cons_succ]
                  refine wpAnyH_ready (rs := [7, 18]) (by kernel_rfl) (by simp) ?_
                  refine (AllReadyH.cons (o := { dst := some 100, op := Op.load 5 (Operand.tmp 99), type := 5, pos := "ref.go:74", after := #[{ on := 6, ground := Ground.data }], guard := none }) rfl (fun K hK => ?_) (AllReadyH.cons (o := { dst := some 111, op := Op.call { callee := Callee.value (Operand.func 64), args := #[Operand.tmp 102, Operand.tmp 110], argTypes := #[5, 5] }, type := 5, pos := "ref.go:74", after := #[{ on := 9, ground := Ground.data }, { on := 17, ground := Ground.data }], guard := none }) rfl (fun K hK => ?_) AllReadyH.nil))
                  · have q9 := cellAt (HRX.out.row dq (by assumption)) b _ (vfs_get _ b (by rw [rowF_len]; exact hbh))
                    rw [at8_rowF hbh, upTo_at] at q9
                    go_simp
                    refine hK.out _ _ ?_ (fun hHeld => ?_)
                    · exact GX
                    clear hK K
                    try simp only [Act.put, List.setIfInBounds_toArray, List.set_cons_zero, List.set_cons_succ]
                    refine wpAnyH_ready (rs := [18]) (by kernel_rfl) (by simp) ?_
                    refine (AllReadyH.cons (o := { dst := some 111, op := Op.call { callee := Callee.value (Operand.func 64), args := #[Operand.tmp 102, Operand.tmp 110], argTypes := #[5, 5] }, type := 5, pos := "ref.go:74", after := #[{ on := 9, ground := Ground.data }, { on := 17, ground := Ground.data }], guard := none }) rfl (fun K hK => ?_) AllReadyH.nil)
                    go_simp
                    refine (rmul_F c (R9 (sq : Int) b) _).mono ?_
                    rintro e w9 ⟨rfl, rfl⟩
                    go_wp2_with fail
                    refine hK.out _ _ ?_ (fun hHeld => ?_)
                    · exact GX
                    clear hK K
                    try simp only [Act.put, List.setIfInBounds_toArray, List.set_cons_zero, List.set_cons_succ]
                    refine wpAnyH_take (i := 19) (oi := { dst := some 112, op := Op.binOp BinOp.xor 5 (Operand.tmp 100) (Operand.tmp 111) 5, type := 5, pos := "ref.go:74", after := #[{ on := 7, ground := Ground.data }, { on := 18, ground := Ground.data }], guard := none }) (v := ?_) rfl (by kernel_rfl) (by kernel_rfl) (by kernel_rfl) (fun _ _ _ h => h) (Or.inl ⟨by rfl, ?_⟩) hHeld ?_
                    rotate_left
                    · intro u hSw
                      go_simp
                      try with_reducible rfl
                    try simp only [Act.put, List.setIfInBounds_toArray, List.set_cons_zero, List.set_cons_succ]
                    refine wpAnyH_take (i := 20) (oi := { dst := some 113, op := Op.indexAddr 23 (Operand.tmp 97) (Operand.tmp 98), type := 0, pos := "ref.go:74", after := #[{ on := 4, ground := Ground.data }, { on := 5, ground := Ground.data }, { on := 0, ground := Ground.phase }, { on := 1, ground := Ground.phase }, { on := 2, ground := Ground.phase }, { on := 3, ground := Ground.phase }, { on := 4, ground := Ground.phase }, { on := 5, ground := Ground.phase }, { on := 6, ground := Ground.phase }, { on := 7, ground := Ground.phase }, { on := 8, ground := Ground.phase }, { on := 9, ground := Ground.phase }, { on := 10, ground := Ground.phase }, { on := 11, ground := Ground.phase }, { on := 12, ground := Ground.phase }, { on := 13, ground := Ground.phase }, { on := 14, ground := Ground.phase }, { on := 15, ground := Ground.phase }, { on := 16, ground := Ground.phase }, { on := 17, ground := Ground.phase }, { on := 18, ground := Ground.phase }, { on := 19, ground := Ground.phase }], guard := none }) (v := ?_) rfl (by kernel_rfl) (by kernel_rfl) (by kernel_rfl) (fun _ _ _ h => h) (Or.inl ⟨by rfl, ?_⟩) hHeld ?_
                    rotate_left
                    · intro u hSw
                      go_simp
                      try with_reducible rfl
                    try simp only [Act.put, List.setIfInBounds_toArray, List.set_cons_zero, List.set_cons_succ]
                    refine wpAnyH_ready (rs := [21]) (by kernel_rfl) (by simp) ?_
                    refine (AllReadyH.cons (o := { dst := none, op := Op.store 5 (Operand.tmp 113) (Operand.tmp 112), type := 0, pos := "ref.go:74", after := #[{ on := 20, ground := Ground.data }, { on := 19, ground := Ground.data }, { on := 18, ground := Ground.chain }, { on := 0, ground := Ground.phase }, { on := 1, ground := Ground.phase }, { on := 2, ground := Ground.phase }, { on := 3, ground := Ground.phase }, { on := 4, ground := Ground.phase }, { on := 5, ground := Ground.phase }, { on := 6, ground := Ground.phase }, { on := 7, ground := Ground.phase }, { on := 8, ground := Ground.phase }, { on := 9, ground := Ground.phase }, { on := 10, ground := Ground.phase }, { on := 11, ground := Ground.phase }, { on := 12, ground := Ground.phase }, { on := 13, ground := Ground.phase }, { on := 14, ground := Ground.phase }, { on := 15, ground := Ground.phase }, { on := 16, ground := Ground.phase }, { on := 17, ground := Ground.phase }, { on := 18, ground := Ground.phase }, { on := 19, ground := Ground.phase }], guard := none }) rfl (fun K hK => ?_) AllReadyH.nil)
                    have q0 := cellAt (HRX.out.row dq (by assumption)) b _ (vfs_get _ b (by rw [rowF_len]; exact hbh))
                    have q1 : X.frozen? ⟨F0 + dq, b, none⟩ = false := frozen_of_row _ _ _ _ _ (HRX.out.row dq (by assumption))
                    go_simp
                    refine hK.out _ _ ?_ (fun hHeld => ?_)
                    · exact grownBy_setCell GX _
                    clear hK K
                    try simp only [Act.put, List.setIfInBounds_toArray, List.set_cons_zero, List.set_cons_succ]
                    refine wpAnyH_done (by kernel_rfl) ?_ _
                    refine NoPanic.normal ?_
                    obtain ⟨Z, hZ⟩ : ∃ Z, Z = X.setCell ⟨F0 + dq, b, none⟩ (.int .u8 ((ga (R9 (dq : Int) b) (gm c (R9 (sq : Int) b))).toNat : Int)) := ⟨_, rfl⟩
                    have HZR : Hid (RunW w.heap.size Z M F0 Q k ol h g (upTo (inX L) ⟨4, (dq : Int), (sq : Int), c⟩ R9 (b + 1)) O9) := by
                      show RunW ..
                      rw [hZ, upTo_next (k := dq) (x := ga (R9 (dq : Int) b) (gm c (R9 (sq : Int) b))) rfl (fun h => absurd (show (4 : Int) = 5 from h) (by decide)) (by rw [doR_4 rfl]; exact congrFun setR_same b)]
                      exact HRX.out.poke (by assumption) hbh _
                    have HZB : Hid (Below w.heap.size w Z) := by show Below ..; rw [hZ]; exact HBX.out.setCell (p := ⟨F0 + dq, b, none⟩) (by show w.heap.size ≤ F0 + dq; have := HMB.out; omega) _
                    have HZS : Hid (Z.heap[wo.heap.size]? = some (.cells #[.int .i64 4, .int .i64 (dq : Int), .int .i64 (sq : Int), .int .u8 (c.toNat : Int)] 105 (0, 0))) := by show _ = _; rw [hZ]; exact (heap_setCell_other _ _ _ _ (HSN.out dq hdq)).trans HSX.out
                    rw [xor_val, ← hZ]
                    clear hZ
                    go_wp2
                    exact ⟨⟨b + 1, by omega, by go_num, HZB.out, HZR.out, HZS.out⟩, by simp [intOf]; omega⟩
                  · go_simp
                    refine (rmul_F c (R9 (sq : Int) b) _).mono ?_
                    rintro e w9 ⟨rfl, rfl⟩
                    go_wp2_with fail
                    refine hK.out _ _ ?_ (fun hHeld => ?_)
                    · exact GX
                    clear hK K
                    try simp only [Act.put, List.setIfInBounds_toArray, List.set_cons_zero, List.set_cons_succ]
                    refine wpAnyH_ready (rs := [7]) (by kernel_rfl) (by simp) ?_
                    refine (AllReadyH.cons (o := { dst := some 100, op := Op.load 5 (Operand.tmp 99), type := 5, pos := "ref.go:74", after := #[{ on := 6, ground := Ground.data }], guard := none }) rfl (fun K hK => ?_) AllReadyH.nil)
                    have q9 := cellAt (HRX.out.row dq (by assumption)) b _ (vfs_get _ b (by rw [rowF_len]; exact hbh))
                    rw [at8_rowF hbh, upTo_at] at q9
                    go_simp
                    refine hK.out _ _ ?_ (fun hHeld => ?_)
                    · exact GX
                    clear hK K
                    try simp only [Act.put, List.setIfInBounds_toArray, List.set_cons_zero, List.set_cons_succ]
                    refine wpAnyH_take (i := 19) (oi := { dst := some 112, op := Op.binOp BinOp.xor 5 (Operand.tmp 100) (Operand.tmp 111) 5, type := 5, pos := "ref.go:74", after := #[{ on := 7, ground := Ground.data }, { on := 18, ground := Ground.data }], guard := none }) (v := ?_) rfl (by kernel_rfl) (by kernel_rfl) (by kernel_rfl) (fun _ _ _ h => h) (Or.inl ⟨by rfl, ?_⟩) hHeld ?_
                    rotate_left
                    · intro u hSw
                      go_simp
                      try with_reducible rfl
                    try simp only [Act.put, List.setIfInBounds_toArray, List.set_cons_zero, List.set_cons_succ]
                    refine wpAnyH_take (i := 20) (oi := { dst := some 113, op := Op.indexAddr 23 (Operand.tmp 97) (Operand.tmp 98), type := 0, pos := "ref.go:74", after := #[{ on := 4, ground := Ground.data }, { on := 5, ground := Ground.data }, { on := 0, ground := Ground.phase }, { on := 1, ground := Ground.phase }, { on := 2, ground := Ground.phase }, { on := 3, ground := Ground.phase }, { on := 4, ground := Ground.phase }, { on := 5, ground := Ground.phase }, { on := 6, ground := Ground.phase }, { on := 7, ground := Ground.phase }, { on := 8, ground := Ground.phase }, { on := 9, ground := Ground.phase }, { on := 10, ground := Ground.phase }, { on := 11, ground := Ground.phase }, { on := 12, ground := Ground.phase }, { on := 13, ground := Ground.phase }, { on := 14, ground := Ground.phase }, { on := 15, ground := Ground.phase }, { on := 16, ground := Ground.phase }, { on := 17, ground := Ground.phase }, { on := 18, ground := Ground.phase }, { on := 19, ground := Ground.phase }], guard := none }) (v := ?_) rfl (by kernel_rfl) (by kernel_rfl) (by kernel_rfl) (fun _ _ _ h => h) (Or.inl ⟨by rfl, ?_⟩) hHeld ?_
                    rotate_left
                    · intro u hSw
                      go_simp
                      try with_reducible rfl
                    try simp only [Act.put, List.setIfInBounds_toArray, List.set_cons_zero, List.set_cons_succ]
                    refine wpAnyH_ready (rs := [21]) (by kernel_rfl) (by simp) ?_
                    refine (AllReadyH.cons (o := { dst := none, op := Op.store 5 (Operand.tmp 113) (Operand.tmp 112), type := 0, pos := "ref.go:74", after := #[{ on := 20, ground := Ground.data }, { on := 19, ground := Ground.data }, { on := 18, ground := Ground.chain }, { on := 0, ground := Ground.phase }, { on := 1, ground := Ground.phase }, { on := 2, ground := Ground.phase }, { on := 3, ground := Ground.phase }, { on := 4, ground := Ground.phase }, { on := 5, ground := Ground.phase }, { on := 6, ground := Ground.phase }, { on := 7, ground := Ground.phase }, { on := 8, ground := Ground.phase }, { on := 9, ground := Ground.phase }, { on := 10, ground := Ground.phase }, { on := 11, ground := Ground.phase }, { on := 12, ground := Ground.phase }, { on := 13, ground := Ground.phase }, { on := 14, ground := Ground.phase }, { on := 15, ground := Ground.phase }, { on := 16, ground := Ground.phase }, { on := 17, ground := Ground.phase }, { on := 18, ground := Ground.phase }, { on := 19, ground := Ground.phase }], guard := none }) rfl (fun K hK => ?_) AllReadyH.nil)
                    have q0 := cellAt (HRX.out.row dq (by assumption)) b _ (vfs_get _ b (by rw [rowF_len]; exact hbh))
                    have q1 : X.frozen? ⟨F0 + dq, b, none⟩ = false := frozen_of_row _ _ _ _ _ (HRX.out.row dq (by assumption))
                    go_simp
                    refine hK.out _ _ ?_ (fun hHeld => ?_)
                    · exact grownBy_setCell GX _
                    clear hK K
                    try simp only [Act.put, List.setIfInBounds_toArray, List.set_cons_zero, List.set_cons_succ]
                    refine wpAnyH_done (by kernel_rfl) ?_ _
                    refine NoPanic.normal ?_
                    obtain ⟨Z, hZ⟩ : ∃ Z, Z = X.setCell ⟨F0 + dq, b, none⟩ (.int .u8 ((ga (R9 (dq : Int) b) (gm c (R9 (sq : Int) b))).toNat : Int)) := ⟨_, rfl⟩
                    have HZR : Hid (RunW w.heap.size Z M F0 Q k ol h g (upTo (inX L) ⟨4, (dq : Int), (sq : Int), c⟩ R9 (b + 1)) O9) := by
                      show RunW ..
                      rw [hZ, upTo_next (k := dq) (x := ga (R9 (dq : Int) b) (gm c (R9 (sq : Int) b))) rfl (fun h => absurd (show (4 : Int) = 5 from h) (by decide)) (by rw [doR_4 rfl]; exact congrFun setR_same b)]
                      exact HRX.out.poke (by assumption) hbh _
                    have HZB : Hid (Below w.heap.size w Z) := by show Below ..; rw [hZ]; exact HBX.out.setCell (p := ⟨F0 + dq, b, none⟩) (by show w.heap.size ≤ F0 + dq; have := HMB.out; omega) _
                    have HZS : Hid (Z.heap[wo.heap.size]? = some (.cells #[.int .i64 4, .int .i64 (dq : Int), .int .i64 (sq : Int), .int .u8 (c.toNat : Int)] 105 (0, 0))) := by show _ = _; rw [hZ]; exact (heap_setCell_other _ _ _ _ (HSN.out dq hdq)).trans HSX.out
                    rw [xor_val, ← hZ]
                    clear hZ
                    go_wp2
                    exact ⟨⟨b + 1, by omega, by go_num, HZB.out, HZR.out, HZS.out⟩, by simp [intOf]; omega⟩
              · clear hz1
                have HZR : Hid (RunW w.heap.size wr M F0 Q k ol h g (upTo (inX L) ⟨5, dst, src, c⟩ R9 (b + 1)) O9) := by
                  have h9 := HR.out
                  rw [upTo_idle rfl] at h9
                  show RunW ..
                  rw [upTo_idle rfl]
                  exact h9
                go_wp2
                exact ⟨⟨b + 1, by omega, by go_num, HB.out, HZR.out, HS.out⟩, by simp [intOf]; omega⟩
            · obtain rfl : b = h := by omega
              by_cases h5 : op = 5
              · subst h5
                have h9 := HR.out
                rw [upTo_idle rfl] at h9
                replace HR : Hid (RunW w.heap.size wr M F0 Q k ol b g R9 O9) := h9
                have hok5 : (0 ≤ dst ∧ dst < ol) ∧ (0 ≤ src ∧ src < k) := by omega
                obtain ⟨⟨hd0, hd1⟩, hs0, hs1⟩ := hok5
                obtain ⟨dq, rfl⟩ := Int.eq_ofNat_of_zero_le hd0
                obtain ⟨sq, rfl⟩ := Int.eq_ofNat_of_zero_le hs0
                have hdq : dq < ol := by omega
                have hsq : sq < k := by omega
                have HRE : Hid (∀ Z g' O', RunW w.heap.size Z M F0 Q k ol b g' R9 O' → O' = setR O9 (dq : Int) (R9 (sq : Int)) → RunW w.heap.size Z M F0 Q k ol b g' (runR (inX L) (ss.take (j + 1)) noR) (runO (inX L) (ss.take (j + 1)) noR noR)) := fun Z g' O' hz e => by
                  rw [HR1.out, HO1.out, doR_n (fun h => absurd (show (5 : Int) = 1 from h) (by decide)) (fun h => absurd (show (5 : Int) = 2 from h) (by decide)) (fun h => absurd (show (5 : Int) = 3 from h) (by decide)) (fun h => absurd (show (5 : Int) = 4 from h) (by decide)), show doO ⟨5, (dq : Int), (sq : Int), c⟩ R9 O9 = setR O9 (dq : Int) (R9 (sq : Int)) from if_pos rfl, ← e]; exact hz
                have HGE : Hid (∀ (p : Nat × Nat) (d : Nat), (if d = dq then some p else g d).isSome = decide (1 ≤ cntO (ss.take (j + 1)) d)) := fun p d => by
                  rw [HTK.out]
                  by_cases e2 : d = dq
                  · rw [cnt_out rfl (by rw [e2])]; simp [e2]
                  · rw [cnt_other (show (dq : Int) ≠ (d : Int) by omega), if_neg e2, HGS.out]
                clear h9 hok hd0 hd1 hs0 hs1
                go_wp2
                have P1 : Hid (∀ u, wr.grownBy u (some Q) → u.cell? ⟨wo.heap.size, 1, none⟩ = some (.int .i64 (dq : Int))) := fun u hu => cellAt ((hu.block _ (ltHeap HS.out) (fun e => HSQ.out (Option.some.inj e))).trans HS.out) 1 _ rfl
                have P2 : Hid (∀ u, wr.grownBy u (some Q) → u.cell? ⟨wo.heap.size, 2, none⟩ = some (.int .i64 (sq : Int))) := fun u hu => cellAt ((hu.block _ (ltHeap HS.out) (fun e => HSQ.out (Option.some.inj e))).trans HS.out) 2 _ rfl
                have PM : Hid (∀ u, wr.grownBy u (some Q) → u.cell? ⟨M, sq, none⟩ = some (.slice (some ⟨F0 + sq, 0, none⟩) b b)) := fun u hu => cellAt ((hu.block _ (ltHeap HR.out.regs) (fun e => by have := Option.some.inj e; have := HR.out.hMF; have := HR.out.hFQ; omega)).trans HR.out.regs) sq _ (slF_at (by assumption))
                refine wp_region_noPanic ?_
                refine wp_region_held_drew (S := fun u => wr.grownBy u (some Q)) (by kernel_rfl) ?_ (fun hHeld => ?_)
                · exact grownBy_drew (World.grownBy.refl _ _)
                obtain ⟨X, hX⟩ : ∃ X, X = wr.drew := ⟨_, rfl⟩
                have GX : wr.grownBy X (some Q) := by rw [hX]; exact grownBy_drew (World.grownBy.refl _ _)
                have HRX : Hid (RunW w.heap.size X M F0 Q k ol b g R9 O9) := by show RunW ..; rw [hX]; exact HR.out.drew
                have HBX : Hid (Below w.heap.size w X) := by show Below ..; rw [hX]; exact HB.out.drew
                rw [← hX] at hHeld ⊢
                clear hX
                refine wpAnyH_take (i := 0) (oi := { dst := some 117, op := Op.move (Operand.tmp 9), type := 49, pos := "ref.go:78", after := #[], guard := none }) (v := ?_) rfl (by kernel_rfl) (by kernel_rfl) (by kernel_rfl) (fun _ _ _ h => h) (Or.inl ⟨by rfl, ?_⟩) hHeld ?_
                rotate_left
                · intro u hSw
                  go_simp
                  try with_reducible rfl
                try simp only [Act.put, List.setIfInBounds_toArray, List.set_cons_zero, List.set_cons_succ]
                refine wpAnyH_take (i := 1) (oi := { dst := some 118, op := Op.fieldAddr 105 (Operand.tmp 11) 1, type := 0, pos := "ref.go:78", after := #[], guard := none }) (v := ?_) rfl (by kernel_rfl) (by kernel_rfl) (by kernel_rfl) (fun _ _ _ h => h) (Or.inl ⟨by rfl, ?_⟩) hHeld ?_
                rotate_left
                · intro u hSw
                  go_simp
                  try with_reducible rfl
                try simp only [Act.put, List.setIfInBounds_toArray, List.set_cons_zero, List.set_cons_succ]
                refine wpAnyH_take (i := 2) (oi := { dst := some 119, op := Op.load 3 (Operand.tmp 118), type := 3, pos := "ref.go:78", after := #[{ on := 1, ground := Ground.data }], guard := none }) (v := ?_) rfl (by kernel_rfl) (by kernel_rfl) (by kernel_rfl) (fun _ _ _ h => h) (Or.inl ⟨by rfl, ?_⟩) hHeld ?_
                rotate_left
                · intro u hSw
                  have k9 := P1.out u hSw
                  go_simp
                  try with_reducible rfl
                try simp only [Act.put, List.setIfInBounds_toArray, List.set_cons_zero, List.set_cons_succ]
                refine wpAnyH_take (i := 4) (oi := { dst := some 121, op := Op.move (Operand.tmp 7), type := 49, pos := "ref.go:78", after := #[], guard := none }) (v := ?_) rfl (by kernel_rfl) (by kernel_rfl) (by kernel_rfl) (fun _ _ _ h => h) (Or.inl ⟨by rfl, ?_⟩) hHeld ?_
                rotate_left
                · intro u hSw
                  go_simp
                  try with_reducible rfl
                try simp only [Act.put, List.setIfInBounds_toArray, List.set_cons_zero, List.set_cons_succ]
                refine wpAnyH_take (i := 5) (oi := { dst := some 122, op := Op.fieldAddr 105 (Operand.tmp 11) 2, type := 0, pos := "ref.go:78", after := #[], guard := none }) (v := ?_) rfl (by kernel_rfl) (by kernel_rfl) (by kernel_rfl) (fun _ _ _ h => h) (Or.inl ⟨by rfl, ?_⟩) hHeld ?_
                rotate_left
                · intro u hSw
                  go_simp
                  try with_reducible rfl
                try simp only [Act.put, List.setIfInBounds_toArray, List.set_cons_zero, List.set_cons_succ]
                refine wpAnyH_take (i := 6) (oi := { dst := some 123, op := Op.load 3 (Operand.tmp 122), type := 3, pos := "ref.go:78", after := #[{ on := 5, ground := Ground.data }], guard := none }) (v := ?_) rfl (by kernel_rfl) (by kernel_rfl) (by kernel_rfl) (fun _ _ _ h => h) (Or.inl ⟨by rfl, ?_⟩) hHeld ?_
                rotate_left
                · intro u hSw
                  have k9 := P2.out u hSw
                  go_simp
                  try with_reducible rfl
                try simp only [Act.put, List.setIfInBounds_toArray, List.set_cons_zero, List.set_cons_succ]
                refine wpAnyH_take (i := 7) (oi := { dst := some 124, op := Op.indexAddr 49 (Operand.tmp 121) (Operand.tmp 123), type := 0, pos := "ref.go:78", after := #[{ on := 4, ground := Ground.data }, { on := 6, ground := Ground.data }], guard := none }) (v := ?_) rfl (by kernel_rfl) (by kernel_rfl) (by kernel_rfl) (fun _ _ _ h => h) (Or.inl ⟨by rfl, ?_⟩) hHeld ?_
                rotate_left
                · intro u hSw
                  go_simp
                  try with_reducible rfl
                try simp only [Act.put, List.setIfInBounds_toArray, List.set_cons_zero, List.set_cons_succ]
                refine wpAnyH_take (i := 8) (oi := { dst := some 125, op := Op.load 23 (Operand.tmp 124), type := 23, pos := "ref.go:78", after := #[{ on := 7, ground := Ground.data }], guard := none }) (v := ?_) rfl (by kernel_rfl) (by kernel_rfl) (by kernel_rfl) (fun _ _ _ h => h) (Or.inl ⟨by rfl, ?_⟩) hHeld ?_
                rotate_left
                · intro u hSw
                  have k9 := PM.out u hSw
                  go_simp
                  try with_reducible rfl
                try simp only [Act.put, List.setIfInBounds_toArray, List.set_cons_zero, List.set_cons_succ]
                refine wpAnyH_ready (rs := [3]) (by kernel_rfl) (by simp) ?_
                refine (AllReadyH.cons (o := { dst := some 120, op := Op.buildSlice 23 0 #[], type := 23, pos := "ref.go:78", after := #[], guard := none }) rfl (fun K hK => ?_) AllReadyH.nil)
                have hbA : Below X.heap.size X (X.alloc (.cells #[] 5)) := (Below.refl _ _).alloc (Nat.le_refl _) _
                go_simp
                refine hK.out _ _ ?_ (fun hHeld => ?_)
                · exact grown_below GX hbA
                clear hK K
                try simp only [Act.put, List.setIfInBounds_toArray, List.set_cons_zero, List.set_cons_succ]
                refine wpAnyH_ready (rs := [9]) (by kernel_rfl) (by simp) ?_
                refine (AllReadyH.cons (o := { dst := some 126, op := Op.call { callee := Callee.builtin Builtin.append, args := #[Operand.tmp 120, Operand.tmp 125], argTypes := #[23, 23] }, type := 23, pos := "ref.go:78", after := #[{ on := 3, ground := Ground.data }, { on := 8, ground := Ground.data }], guard := none }) rfl (fun K hK => ?_) AllReadyH.nil)
                obtain ⟨q, cq, V, hrun, h8, hq, hbV⟩ := copy8E (w := X) (ca := b) 23 (rowF_len b (R9 (sq : Int))).symm (by omega) (row8T_own (HRX.out.row sq (by assumption))).row8
                have GV : wr.grownBy V (some Q) := grown_below GX hbV
                have HV : Hid _ := HRX.out.below hbV
                refine wanted_append_run rfl _ _ 23 rfl _ _ _ _ rfl rfl hrun ?_
                refine hK.out _ _ ?_ (fun hHeld => ?_)
                · exact GV
                clear hK K
                try simp only [Act.put, List.setIfInBounds_toArray, List.set_cons_zero, List.set_cons_succ]
                refine wpAnyH_take (i := 10) (oi := { dst := some 127, op := Op.indexAddr 49 (Operand.tmp 117) (Operand.tmp 119), type := 0, pos := "ref.go:78", after := #[{ on := 0, ground := Ground.data }, { on := 2, ground := Ground.data }, { on := 0, ground := Ground.phase }, { on := 1, ground := Ground.phase }, { on := 2, ground := Ground.phase }, { on := 3, ground := Ground.phase }, { on := 4, ground := Ground.phase }, { on := 5, ground := Ground.phase }, { on := 6, ground := Ground.phase }, { on := 7, ground := Ground.phase }, { on := 8, ground := Ground.phase }, { on := 9, ground := Ground.phase }], guard := none }) (v := ?_) rfl (by kernel_rfl) (by kernel_rfl) (by kernel_rfl) (fun _ _ _ h => h) (Or.inl ⟨by rfl, ?_⟩) hHeld ?_
                rotate_left
                · intro u hSw
                  go_simp
                  try with_reducible rfl
                try simp only [Act.put, List.setIfInBounds_toArray, List.set_cons_zero, List.set_cons_succ]
                refine wpAnyH_ready (rs := [11]) (by kernel_rfl) (by simp) ?_
                refine (AllReadyH.cons (o := { dst := none, op := Op.store 23 (Operand.tmp 127) (Operand.tmp 126), type := 0, pos := "ref.go:78", after := #[{ on := 10, ground := Ground.data }, { on := 9, ground := Ground.data }, { on := 9, ground := Ground.chain }, { on := 0, ground := Ground.phase }, { on := 1, ground := Ground.phase }, { on := 2, ground := Ground.phase }, { on := 3, ground := Ground.phase }, { on := 4, ground := Ground.phase }, { on := 5, ground := Ground.phase }, { on := 6, ground := Ground.phase }, { on := 7, ground := Ground.phase }, { on := 8, ground := Ground.phase }, { on := 9, ground := Ground.phase }], guard := none }) rfl (fun K hK => ?_) AllReadyH.nil)
                have q0 := cellAt HV.out.outs dq _ (slO_at (by assumption))
                have q1 : V.frozen? ⟨Q, dq, none⟩ = false := frozen_of_row _ _ _ _ _ HV.out.outs
                go_simp
                refine hK.out _ _ ?_ (fun hHeld => ?_)
                · exact grownBy_setCell GV _
                clear hK K
                try simp only [Act.put, List.setIfInBounds_toArray, List.set_cons_zero, List.set_cons_succ]
                refine wpAnyH_done (by kernel_rfl) ?_ _
                refine NoPanic.normal ?_
                obtain ⟨Z, hZ⟩ : ∃ Z, Z = V.setCell ⟨Q, dq, none⟩ (.slice (some ⟨q, 0, none⟩) b cq) := ⟨_, rfl⟩
                have HZR : Hid (RunW w.heap.size Z M F0 Q k ol b (fun x => if x = dq then some (q, cq) else g x) R9 (setR O9 (dq : Int) (R9 (sq : Int)))) := by
                  show RunW ..
                  rw [hZ]
                  exact HV.out.putO (by assumption) h8 (by have := ltHeap HRX.out.outs; omega)
                have HZB : Hid (Below w.heap.size w Z) := by show Below ..; rw [hZ]; exact (HBX.out.trans (hbV.mono HBX.out.size)).setCell (p := ⟨Q, dq, none⟩) (by show w.heap.size ≤ Q; have := HMB.out; have := HR.out.hFQ; omega) _
                rw [← hZ]
                clear hZ h8 hq hbV GV GX q0 q1 hrun hHeld hbA
                go_wp2
                exact ⟨⟨j + 1, _, by omega, by go_num, HZB.out, HRE.out _ _ _ HZR.out rfl, fun d => HGE.out (q, cq) d⟩, by simp [intOf]; omega⟩
              · have v5 : (op == 5) = false := beq_eq_false_iff_ne.2 h5
                have HZR : Hid (RunW w.heap.size wr M F0 Q k ol b g (runR (inX L) (ss.take (j + 1)) noR) (runO (inX L) (ss.take (j + 1)) noR noR)) := by
                  show RunW ..
                  rw [HR1.out, HO1.out, doO, if_neg h5]
                  exact HR.out.full
                have HGE : Hid (∀ d : Nat, (g d).isSome = decide (1 ≤ cntO (ss.take (j + 1)) d)) := fun d => by
                  rw [HTK.out, HGS.out, cnt_not h5]
                clear hok h5
                go_wp2
                exact ⟨⟨j + 1, g, by omega, by go_num, HB.out, HZR.out, HGE.out⟩, by simp [intOf]; omega⟩
        · obtain rfl : j = sl := by omega
          have hfull : ss.take j = ss := by rw [HSL.out, List.take_length]
          have hgs := HGS.out
          have hr := HRO.out
          rw [HRE9.out, HOE9.out, hfull] at hr
          rw [hfull] at hgs
          have HM9 : Hid (OutsW wr Q ol h (inX L) ss) := hr.made (fun d hd => by rw [hgs]; exact decide_eq_true (by have := HF.out.2.2.2.2.2 d (by rw [← HOL.out]; exact hd); omega))
          have HQ9 : Hid (w.heap.size ≤ Q) := by show _ ≤ _; have := hr.hFQ; have := HMB.out; omega
          clear hfull hgs hr
          go_wp2
          go_ret
          exact ⟨Q, rfl, HQ9.out, HM9.out, HBO.out⟩
end Go.Proofs.YtkoakingmnjdoaaGreatDoor
