/- What the document's own Run makes of inputs, of programs in form. -/
import Derived.Test.YtoalbopcapgojabDoorMatV
import Derived.Test.YtoalbopcapgojabDoorMatA
import Derived.Test.YtoalbopcapgojabDoorHolds
import Derived.Test.YtoalbopcapgojabDoorGfRefW
import Derived.Test.YtoalbopcapgojabDoorMatTake
import Derived.Test.YtoalbopcapgojabDoorRegHeld
import Derived.Test.YtoalbopcapgojabDoorNumApart
import Derived.Laws.OwnMore
import Derived.Test.YtoalbopcapgojabDoorMatRow
import Derived.Test.YtoalbopcapgojabDoorExecL
import Derived.Test.YtoalbopcapgojabDoorStepM
import Derived.Test.YtoalbopcapgojabDoorStepC
import Derived.BigRegion
import Derived.Test.YtoalbopcapgojabDoorGfApp
import Derived.Test.YtoalbopcapgojabDoorStepE
import Derived.Deep.DeepCutAuto
/- What Zero of package tesseraref02, and square of the statements, answer; nothing that was there turns. -/
namespace Go.Proofs.YtoalbopcapgojabDoor
open Go.RowKit Gf
set_option linter.unusedVariables false
set_option maxRecDepth 20000
/-- n bytes: those that are there, noughts behind -/
def padTo (n : Nat) (xs : List F) : List F := xs.take n ++ zeros (n - xs.length)
theorem padTo_len (n : Nat) (xs : List F) : (padTo n xs).length = n := by
  rw [padTo, List.length_append, zeros_len, List.length_take]; omega
theorem run_copyPad (g n : Nat) (a : Option Addr) (la ca : Nat) (xs : List F) (w : World) (ty : TypeId) (hla : la = xs.length)
    (hg : w.heap[g]? = some (.cells (vfs (zeros n)) 5 (0, 0))) (hx : Row8 w a xs) :
    (Builtin.copy_ #[26, 26] ty #[.slice (some ⟨g, 0, none⟩) n n, .slice a la ca]).run Tryd.prog w = .ok (goInt ((min xs.length n : Nat) : Int)) (w.setRow g (vfs (padTo n xs))) := by
  have hs : (Tryd.prog.info? 5).map (·.size) = some 1 := by kernel_rfl
  subst hla
  rcases hx with rfl | ⟨b, off, rfl, hx⟩
  · rw [List.length_nil, run_copy_none w _ _ _ _ _ _ _ _ _ _ Tryd.underlying26 hs (by simp)]
    have e : padTo n [] = zeros n := by simp [padTo]
    rw [e, setRow_self w g _ _ _ hg, Nat.zero_min]; rfl
  · have hlen : ((xs.take n).map vf).length = Nat.min xs.length n := by rw [List.length_map, List.length_take]; show min _ _ = min _ _; omega
    have he : (List.take 0 (vfs (zeros n)).toList ++ (xs.take n).map vf ++ List.drop (0 + ((xs.take n).map vf).length) (vfs (zeros n)).toList).toArray = vfs (padTo n xs) := by
      rw [hlen]
      simp only [List.take_zero, List.nil_append, Nat.zero_add, padTo, vfs, List.map_append, List.toList_toArray, zeros, List.map_replicate, List.drop_replicate]
      congr 3
      show n - min _ _ = _
      omega
    rw [run_copy_row (P := Tryd.prog) w 26 26 ty 5 g 0 n n ⟨b, off, none⟩ xs.length ca (vfs (zeros n)) 5 ((xs.take n).map vf) Tryd.underlying26 hs hg hlen
      (fun j v hv => by
        simp only [List.getElem?_map, Option.map_eq_some_iff] at hv
        obtain ⟨x, hx1, rfl⟩ := hv
        have hj' := (List.getElem?_eq_some_iff.1 hx1).1
        rw [List.length_take] at hj'
        have hj : j < xs.length := by omega
        rw [List.getElem?_take_of_lt (by omega)] at hx1
        have e : at8 xs j = x := by simp [at8, hx1]
        have hadd : (⟨b, off, none⟩ : Addr).add j = ⟨b, off + j, none⟩ := by unfold Addr.add; split <;> simp_all
        rw [hadd, hx j hj, e]; rfl)
      (by rw [hlen, vfs_size, zeros_len]; show 0 + min _ _ ≤ _; omega)
      (fun v hv => by
        simp only [List.mem_map] at hv
        obtain ⟨x, _, rfl⟩ := hv
        rfl)]
    rw [he, hlen]
end Go.Proofs.YtoalbopcapgojabDoor

/- What Transpose of package mat answers, of every matrix in form. -/
namespace Go.Proofs.YtoalbopcapgojabDoor
open Go.RowKit Gf
set_option linter.unusedVariables false
set_option maxRecDepth 20000
/-- transposed as far as row i, place j -/
def trP (r c : Nat) (xs : List F) (i j : Nat) : List F := grid r (fun b a => if a < i ∨ a = i ∧ b < j then at8 xs (a * c + b) else 0) c
theorem trP_len (r c : Nat) (xs : List F) (i j : Nat) : (trP r c xs i j).length = c * r := grid_len _ _ _
theorem trP_zero (r c : Nat) (xs : List F) : zeros (c * r) = trP r c xs 0 0 := by
  rw [zeros_grid]; exact grid_congr fun b a _ _ => by rw [if_neg (by omega)]
theorem trP_done (r c : Nat) (xs : List F) : trP r c xs r 0 = trM r c xs := grid_congr fun b a _ h => by rw [if_pos (by omega)]
theorem trP_row (r c : Nat) (xs : List F) (i : Nat) : trP r c xs i c = trP r c xs (i + 1) 0 := grid_congr fun b a h _ => by
  by_cases e : a < i + 1
  · rw [if_pos (by omega), if_pos (by omega)]
  · rw [if_neg (by omega), if_neg (by omega)]
theorem trP_step {r c : Nat} {xs : List F} {i j : Nat} (hi : i < r) (hj : j < c) : (trP r c xs i j).set (j * r + i) (at8 xs (i * c + j)) = trP r c xs i (j + 1) := by
  rw [trP, grid_set hj hi]
  refine grid_congr fun b a hb ha => ?_
  by_cases e : b = j ∧ a = i
  · rw [if_pos e, if_pos (by omega), e.1, e.2]
  · rw [if_neg e]
    by_cases e2 : a < i ∨ a = i ∧ b < j
    · rw [if_pos e2, if_pos (by omega)]
    · rw [if_neg e2, if_neg (by omega)]
end Go.Proofs.YtoalbopcapgojabDoor

/- The chapter's worked answers of package mat hold: the function 'alive' of the statements returns true; and what One answers. -/
namespace Go.Proofs.YtoalbopcapgojabDoor
open Go.RowKit Gf
set_option linter.unusedVariables false
set_option maxRecDepth 20000
theorem lit8 (w : World) (x y : F) : (w.alloc (.cells #[.int .u8 (x.toNat : Int), .int .u8 (y.toNat : Int)] 5)).heap[w.heap.size]? = some (.cells (vfs [x, y]) 5 (0, 0)) := heap_alloc_last w _
/-- the identity, made as far as row k -/
def oneP (n k : Nat) : List F := grid n (fun i j => if i = j ∧ i < k then 1 else 0) n
theorem oneP_len (n k : Nat) : (oneP n k).length = n * n := grid_len _ _ _
theorem oneP_zero (n : Nat) : zeros (n * n) = oneP n 0 := by rw [zeros_grid]; exact grid_congr fun i j _ _ => by rw [if_neg (by omega)]
theorem oneP_done (n : Nat) : oneP n n = oneM n := grid_congr fun i j hi _ => by
  by_cases h : i = j
  · rw [if_pos ⟨h, hi⟩, if_pos h]
  · rw [if_neg (fun e => h e.1), if_neg h]
theorem oneP_step {n k : Nat} (hk : k < n) : (oneP n k).set (k * n + k) 1 = oneP n (k + 1) := by
  rw [oneP, grid_set hk hk]
  refine grid_congr fun a b ha hb => ?_
  by_cases h : a = k ∧ b = k
  · rw [if_pos h, if_pos (by omega)]
  · rw [if_neg h]
    by_cases h2 : a = b ∧ a < k
    · rw [if_pos h2, if_pos (by omega)]
    · rw [if_neg h2, if_neg (by omega)]
end Go.Proofs.YtoalbopcapgojabDoor

/- What the document's own One, Transpose and Product of package mat's chapter answer, of all matrices in form; nothing that was there turns. -/
namespace Go.Proofs.YtoalbopcapgojabDoor
open Go.RowKit Gf
set_option linter.unusedVariables false
set_option maxRecDepth 20000
/-- a grid, made row by row, as far as place j of row i -/
def gridP (c : Nat) (f : Nat → Nat → F) (r i j : Nat) : List F := grid c (fun a b => if a < i ∨ a = i ∧ b < j then f a b else 0) r
theorem gridP_len (c : Nat) (f : Nat → Nat → F) (r i j : Nat) : (gridP c f r i j).length = r * c := grid_len _ _ _
theorem gridP_zero (c : Nat) (f : Nat → Nat → F) (r : Nat) : zeros (r * c) = gridP c f r 0 0 := by rw [zeros_grid]; exact grid_congr fun i j _ _ => by rw [if_neg (by omega)]
theorem gridP_done (c : Nat) (f : Nat → Nat → F) (r : Nat) : gridP c f r r 0 = grid c f r := grid_congr fun a b h _ => by rw [if_pos (by omega)]
theorem gridP_row (c : Nat) (f : Nat → Nat → F) (r i : Nat) : gridP c f r i c = gridP c f r (i + 1) 0 := grid_congr fun a b _ h => by
  by_cases e : a < i + 1
  · rw [if_pos (by omega), if_pos (by omega)]
  · rw [if_neg (by omega), if_neg (by omega)]
theorem gridP_step {c r i j : Nat} {f : Nat → Nat → F} (hi : i < r) (hj : j < c) : (gridP c f r i j).set (i * c + j) (f i j) = gridP c f r i (j + 1) := by
  rw [gridP, grid_set hi hj]
  refine grid_congr fun a b ha hb => ?_
  by_cases e : a = i ∧ b = j
  · rw [if_pos e, if_pos (by omega), e.1, e.2]
  · rw [if_neg e]
    by_cases e2 : a < i ∨ a = i ∧ b < j
    · rw [if_pos e2, if_pos (by omega)]
    · rw [if_neg e2, if_neg (by omega)]
theorem grownBy_drewN {w w' : World} {r : Option Nat} (h : w.grownBy w' r) : ∀ n, w.grownBy (w'.drewN n) r
  | 0 => h
  | n + 1 => grownBy_drew (grownBy_drewN h n)
theorem row8_get {w : World} {a : Option Addr} {xs : List F} {j : Nat} (h : Row8 w a xs) (hj : j < xs.length) : ∃ b off, a = some ⟨b, off, none⟩ ∧ b < w.heap.size ∧ ∀ i, i < xs.length → w.cell? ⟨b, off + i, none⟩ = some (.int .u8 ((at8 xs i).toNat : Int)) := by
  rcases h with e | ⟨b, off, rfl, h⟩
  · rw [e] at hj; simp at hj
  · have := World.block_lt_of_cell? w _ (h j hj)
    exact ⟨b, off, rfl, by simpa using this, h⟩
end Go.Proofs.YtoalbopcapgojabDoor

/- What the document's own Of and Row of package mat's chapter answer; nothing that was there turns. -/
namespace Go.Proofs.YtoalbopcapgojabDoor
open Go.RowKit Gf
set_option linter.unusedVariables false
set_option maxRecDepth 20000
/-- bytes laid behind a list of one's own, whatever they are -/
theorem appendB {w : World} {B n m c : Nat} {v : Value} {zs ys : List F} {a : Option Addr} (ty : TypeId) (ho : w.ownsRow B 5 1 v n (zs.map vf)) (hm : m = ys.length) (hb : n + m ≤ 1000000) (hy : Row8 w a ys) (hnil : a = none → c = 0) (hB : B ≤ w.heap.size) :
    ∃ v' w', (Builtin.append_ #[26, 26] ty #[v, .slice a m c]).run Tryd.prog w = .ok v' w' ∧ w'.ownsRow B 5 1 v' (n + m) ((zs ++ ys).map vf) ∧ w.grownBy w' v.ownBlock := by
  obtain ⟨i, hi, h1, h2, h3⟩ := info8
  rcases hy with rfl | ⟨b, off, rfl, hy⟩
  · obtain rfl : m = 0 := hm
    cases a with
    | none =>
      obtain rfl := hnil rfl
      refine ⟨v, w, ?_, by simpa using ho, grownBy_refl _ _⟩
      rcases ho.2 with ⟨rfl, rfl⟩ | ⟨g, cap, cur, rfl, _, hg, hle, _⟩
      · simp [Builtin.append_, run_underlying Tryd.underlying26, sizeOf, typeInfo, hi, Builtin.lenOf, Builtin.firstCells]
      · simp [Builtin.append_, run_underlying Tryd.underlying26, sizeOf, typeInfo, hi, Builtin.lenOf, Builtin.firstCells, loadCells, hle, storeCells]
    | some ad =>
      obtain ⟨v', w', h4, h5, h6, _⟩ := run_append_own_at (P := Tryd.prog) w B 26 ty 5 i _ 1 1 Tryd.underlying26 hi h3 h1 h2 rfl (by decide) v n _ ho ad 0 c [] rfl (fun j u h => by simp at h) (fun u h => by cases h) (by simp only [maxLen]; omega) (by omega) hB
      exact ⟨v', w', h4, by simpa using h5, h6⟩
  · obtain ⟨v', w', h4, h5, h6, _⟩ := run_append_own_at (P := Tryd.prog) w B 26 ty 5 i _ 1 1 Tryd.underlying26 hi h3 h1 h2 rfl (by decide) v n _ ho ⟨b, off, none⟩ m c (ys.map vf) (by rw [List.length_map]; omega)
      (fun j u hv => by
        simp only [List.getElem?_map, Option.map_eq_some_iff] at hv
        obtain ⟨x, hx1, rfl⟩ := hv
        have hj : j < ys.length := (List.getElem?_eq_some_iff.1 hx1).1
        have e : at8 ys j = x := by simp [at8, hx1]
        have hadd : (⟨b, off, none⟩ : Addr).add j = ⟨b, off + j, none⟩ := by unfold Addr.add; split <;> simp_all
        rw [hadd, hy j hj, e]; rfl) (fun u hv => by
        simp only [List.mem_map] at hv
        obtain ⟨x, _, rfl⟩ := hv
        rfl) (by simp only [maxLen]; omega) (by omega) hB
    exact ⟨v', w', h4, by rw [List.map_append]; exact h5, h6⟩
theorem ownB_slice {w : World} {B n : Nat} {v : Value} {zs : List F} (ho : w.ownsRow B 5 1 v n (zs.map vf)) : ∃ a cap, v = .slice a n cap ∧ Row8 w a zs ∧ n = zs.length ∧ (a = none → cap = 0) := by
  have hl := ho.1
  rw [List.length_map] at hl
  rcases ho.2 with ⟨rfl, e⟩ | ⟨g, cap, cur, rfl, h2⟩
  · exact ⟨none, 0, by rw [e], .inl (List.eq_nil_of_length_eq_zero (by omega)), by omega, fun _ => rfl⟩
  · refine ⟨_, _, rfl, .inr ⟨g, 0, rfl, fun j hj => ?_⟩, by omega, fun h => by cases h⟩
    rw [Nat.zero_add, ho.cellAt j (by omega), List.getElem?_map, List.getElem?_eq_getElem hj]
    simp [at8, hj, vf]
theorem own_mono {w : World} {B B' size n : Nat} {v : Value} {e : TypeId} {xs : List Value} (h : w.ownsRow B e size v n xs) (hb : B' ≤ B) : w.ownsRow B' e size v n xs :=
  ⟨h.1, h.2.imp id fun ⟨g, cap, cur, h1, h2, h3⟩ => ⟨g, cap, cur, h1, Nat.le_trans hb h2, h3⟩⟩
theorem rows_cap_later {w w' : World} {a : Option Addr} {L : List (List F)} (hX : Rows8 w a L) (hb : Below w.heap.size w w')
    (hcp : ∀ b off, a = some ⟨b, off, none⟩ → ∀ j n a' cap', w.cell? ⟨b, off + j, none⟩ = some (.slice a' n cap') → j < L.length → a' = none → cap' = 0) :
    ∀ b off, a = some ⟨b, off, none⟩ → ∀ j n a' cap', w'.cell? ⟨b, off + j, none⟩ = some (.slice a' n cap') → j < L.length → a' = none → cap' = 0 := by
  intro b off e j n a' cap' hc hj ha
  rcases hX with e0 | ⟨b2, off2, e2, hrows⟩
  · rw [e0] at hj; simp at hj
  · rw [e] at e2
    cases e2
    obtain ⟨a1, cap1, h1, _⟩ := hrows j _ (List.getElem?_eq_getElem hj)
    have h2 := cell_later hb h1
    rw [hc] at h2
    simp only [Option.some.injEq, Value.slice.injEq] at h2
    obtain ⟨q1, q2, q3⟩ := h2
    rw [q3]
    exact hcp b off e j _ a1 cap1 h1 hj (by rw [← q1]; exact ha)
end Go.Proofs.YtoalbopcapgojabDoor

/- Facts for the statement MatPlaces: refusals of Take, two lists apart, the document's own Row, an append in a drawn region. -/
namespace Go.Proofs.YtoalbopcapgojabDoor
open Go.RowKit Gf
set_option linter.unusedVariables false
set_option maxRecDepth 20000
theorem wanted_append_run {P : Program} {w : World} {o : Oper} {a : Act} {K : Act → World → Prop} {Q : Exit → Act → World → Prop} {ys : Nat → Option Bool} {L : Prop} (hgd : o.guard = none) (s x : Operand) (t : TypeId)
    (ho : o.op = .call { callee := .builtin .append, args := #[s, x], argTypes := #[t, t] }) (v u r : Value) (w' : World) (hs : a.eval s = v) (hx : a.eval x = u)
    (hr : (Builtin.append_ #[t, t] o.type #[v, u]).run P w = .ok r w') (h : K (a.put o.dst r) w') : if Region.wanted o ys = true then Oper.wp P o a w K Q else L := by
  rw [if_pos (by simp [Region.wanted, hgd])]
  unfold Oper.wp execOp
  simp only [ho, resolve, invoke, builtin, Sem.run_bind, Sem.run_pure, Result.andThen_ok, List.map_toArray, List.map_cons, List.map_nil, hs, hx, hr]
  exact h
theorem kind_ne {w : World} {a b : Nat} {cs ds : Array Value} {t u : TypeId} {f1 f2 : Nat × Nat} (h1 : w.heap[a]? = some (.cells cs t f1)) (h2 : w.heap[b]? = some (.cells ds u f2)) (h : t ≠ u) : a ≠ b := fun e => by
  subst e; rw [h1] at h2; cases h2; exact h rfl
theorem grown_some {w w' : World} (g : Nat) (h : w.grownBy w' none) : w.grownBy w' (some g) := ⟨h.os, h.tape, h.output, h.size, fun k hk _ => h.block k hk (by simp)⟩
theorem grown_keep {w w' : World} {r : Option Nat} {k : Nat} {o : Obj} (h : w.grownBy w' r) (hk : w.heap[k]? = some o) (hne : some k ≠ r) : w'.heap[k]? = some o := (h.block k (Array.getElem?_eq_some_iff.1 hk).1 hne).trans hk

theorem has8_take {w : World} {g cap : Nat} {xs : List F} (h : Has8 w g xs cap) (m : Nat) : Has8 w g (xs.take m) cap := by
  obtain ⟨cur, hg, hs, hl, hm, ht⟩ := h
  refine ⟨cur, hg, hs, by rw [List.length_take]; omega, hm, ?_⟩
  rw [List.map_take, ← ht, List.take_take, List.length_take]
theorem row8_grown {w w' : World} {r : Option Nat} {g : Nat} {xs : List F} (h : Row8 w (some ⟨g, 0, none⟩) xs) (hb : w.grownBy w' r) (hg : g < w.heap.size) (hne : some g ≠ r) : Row8 w' (some ⟨g, 0, none⟩) xs := by
  rcases h with e | ⟨b, off, e, h⟩
  · exact .inl e
  · cases e
    refine .inr ⟨g, 0, rfl, fun j hj => ?_⟩
    rw [← h j hj]
    simp only [World.cell?, hb.block g hg hne]
theorem append8_both {w : World} {g n cap : Nat} {xs ys : List F} {ad : Addr} {m c : Nat} (ty : TypeId) (h : Has8 w g xs cap) (hn : n = xs.length) (hm : m = ys.length) (hb : n + m ≤ 140737488355328)
    (hy : ∀ j, j < ys.length → w.cell? (ad.add j) = some (.int .u8 ((at8 ys j).toNat : Int))) :
    ∃ g' cap' w', (Builtin.append_ #[26, 26] ty #[.slice (some ⟨g, 0, none⟩) n cap, .slice (some ad) m c]).run Tryd.prog w = .ok (.slice (some ⟨g', 0, none⟩) (n + m) cap') w' ∧
      Has8 w' g' (xs ++ ys) cap' ∧ w.grownBy w' (some g) ∧ (g' = g ∨ w.heap.size ≤ g' ∧ w.grownBy w' none) := by
  by_cases hroom : n + m ≤ cap
  · subst hn hm
    obtain ⟨i, hi, h1, h2, h3⟩ := info8
    obtain ⟨cur, hg, hs, hl, hmx, ht⟩ := h
    have hown : w.ownsRow 0 5 1 (.slice (some ⟨g, 0, none⟩) xs.length cap) xs.length (xs.map vf) :=
      ⟨by simp, .inr ⟨g, cap, cur, rfl, Nat.zero_le _, hg, hl, hmx, by omega, by rw [Nat.mul_one]; exact ht⟩⟩
    obtain ⟨w', hrun, ho, hgr⟩ := run_append_fits (P := Tryd.prog) w 0 26 ty 5 i 1 Tryd.underlying26 hi h1 g xs.length cap _ hown ad ys.length c (ys.map vf) (by simp) (fun j v hv => by
        simp only [List.getElem?_map, Option.map_eq_some_iff] at hv
        obtain ⟨x, hx1, rfl⟩ := hv
        have hj : j < ys.length := (List.getElem?_eq_some_iff.1 hx1).1
        have e : at8 ys j = x := by simp [at8, hx1]
        rw [hy j hj, e]; rfl) (fun v hv => by
        simp only [List.mem_map] at hv
        obtain ⟨x, _, rfl⟩ := hv
        rfl) hroom
    rcases ho.2 with ⟨hv, _⟩ | ⟨g', cap', cur', hv, _, hg', hl', hm', hs', ht'⟩
    · cases hv
    · cases hv
      exact ⟨g, cap, w', hrun, ⟨cur', hg', by omega, by simpa using hl', hm', by rw [List.length_append, List.map_append, ← ht', Nat.mul_one]⟩, hgr, .inl rfl⟩
  · obtain ⟨g', cap', w', h1, h2, h3, h4⟩ := append8_grows (cap := cap) (m := m) (c := c) ty (row8_has h) hn hm (by omega) hb hy
    exact ⟨g', cap', w', h1, h2, ⟨h3.os, h3.tape, h3.output, h3.size, fun k hk _ => h3.block k hk (by simp)⟩, .inr ⟨h4, h3⟩⟩
/-- the second list nil -/
theorem append8_nil (w : World) {ys : List F} {ad : Addr} {m c : Nat} (ty : TypeId) (hm : m = ys.length) (h0 : 0 < m) (hb : m ≤ 140737488355328)
    (hy : ∀ j, j < ys.length → w.cell? (ad.add j) = some (.int .u8 ((at8 ys j).toNat : Int))) :
    ∃ g' cap' w', (Builtin.append_ #[26, 26] ty #[.slice none 0 0, .slice (some ad) m c]).run Tryd.prog w = .ok (.slice (some ⟨g', 0, none⟩) m cap') w' ∧
      Has8 w' g' ys cap' ∧ w.grownBy w' none ∧ w.heap.size ≤ g' := by
  subst hm
  obtain ⟨i, hi, h1, h2, h3⟩ := info8
  obtain ⟨v', w', hrun, ho, hgr, hnil, hat⟩ := run_append_own_at (P := Tryd.prog) w w.heap.size 26 ty 5 i _ 1 1 Tryd.underlying26 hi h3 h1 h2 rfl (by decide)
    (.slice none 0 0) 0 [] ⟨rfl, .inl ⟨rfl, rfl⟩⟩ ad ys.length c (ys.map vf) (by simp) (fun j v hv => by
      simp only [List.getElem?_map, Option.map_eq_some_iff] at hv
      obtain ⟨x, hx1, rfl⟩ := hv
      have hj : j < ys.length := (List.getElem?_eq_some_iff.1 hx1).1
      have e : at8 ys j = x := by simp [at8, hx1]
      rw [hy j hj, e]; rfl) (fun v hv => by
      simp only [List.mem_map] at hv
      obtain ⟨x, _, rfl⟩ := hv
      rfl) (by simp only [maxLen]; omega) (by omega) (Nat.le_refl _)
  rcases ho.2 with ⟨hv, hn⟩ | ⟨g', cap', cur', hv, hg, hg', hl', hm', hs', ht'⟩
  · have := (hnil.1 hv).2
    omega
  · subst hv
    refine ⟨g', cap', w', by rw [hrun, Nat.zero_add], ⟨cur', hg', by omega, by simpa using hl', hm', ?_⟩, hgr, hg⟩
    rw [← List.nil_append (ys.map vf), ← ht', Nat.mul_one, Nat.zero_add]
end Go.Proofs.YtoalbopcapgojabDoor

/- Copies of lists of bytes in blocks of one's own; nothing of the program is proved here. -/
namespace Go.Proofs.YtoalbopcapgojabDoor
open Go.RowKit Gf
set_option linter.unusedVariables false
set_option maxRecDepth 20000
theorem has8_laterE {w w' : World} {g cap : Nat} {xs : List F} (h : Has8 w g xs cap) (hb : Below w.heap.size w w') : Has8 w' g xs cap := by
  obtain ⟨cur, h1, h2⟩ := h
  exact ⟨cur, heap_later h1 hb, h2⟩
theorem has8_set_otherE {w : World} {g cap M j : Nat} {xs : List F} {v : Value} (h : Has8 w g xs cap) (hne : g ≠ M) : Has8 (w.setCell ⟨M, j, none⟩ v) g xs cap := by
  obtain ⟨cur, h1, h2⟩ := h
  exact ⟨cur, (heap_setCell_other _ _ _ _ hne).trans h1, h2⟩
theorem append8_zeroE (w : World) (p : Addr) (a : Option Addr) (ca : Nat) (ty : TypeId) :
    (Builtin.append_ #[26, 26] ty #[.slice (some p) 0 0, .slice a 0 ca]).run Tryd.prog w = .ok (.slice (some p) 0 0) w := by
  obtain ⟨i, hi, h1, h2, h3⟩ := info8
  cases a <;> simp [Builtin.append_, run_underlying Tryd.underlying26, sizeOf, typeInfo, hi, Builtin.lenOf, Builtin.firstCells, loadCells, loadCellsFrom, storeCells]
/-- a copy in a block of one's own -/
theorem copy8E {w : World} {a : Option Addr} {la ca : Nat} {xs : List F} (ty : TypeId) (hla : la = xs.length) (hl : la ≤ 140737488355328) (hx : Row8 w a xs) :
    ∃ g cap w', (Builtin.append_ #[26, 26] ty #[.slice (some ⟨w.heap.size, 0, none⟩) 0 0, .slice a la ca]).run Tryd.prog (w.alloc (.cells #[] 5)) = .ok (.slice (some ⟨g, 0, none⟩) la cap) w' ∧
      Has8 w' g xs cap ∧ w.heap.size ≤ g ∧ Below w.heap.size w w' := by
  have hB : Below w.heap.size w (w.alloc (.cells #[] 5)) := (Below.refl _ _).alloc (Nat.le_refl _) _
  by_cases h0 : la = 0
  · subst h0
    obtain rfl : xs = [] := List.eq_nil_of_length_eq_zero hla.symm
    exact ⟨w.heap.size, 0, _, append8_zeroE _ _ _ _ _, has8_full (xs := []) (heap_alloc_last w _) (by simp [maxLen]), Nat.le_refl _, hB⟩
  · have hx' := row8_below hx hB
    obtain ⟨b, off, rfl, _, hc⟩ := row8_get hx' (show 0 < xs.length by omega)
    obtain ⟨g', cap', w', h1, h2, h3, h4⟩ := append8_grows (w := w.alloc (.cells #[] 5)) (g := w.heap.size) (n := 0) (cap := 0) (xs := []) (ys := xs) (ad := ⟨b, off, none⟩) (m := la) (c := ca) ty (.inl rfl) rfl hla (by omega) (by omega) (fun j hj => by
      have : (⟨b, off, none⟩ : Addr).add j = ⟨b, off + j, none⟩ := by unfold Addr.add; split <;> simp_all
      rw [this]; exact hc j hj)
    refine ⟨g', cap', w', by rw [h1]; simp, by simpa using h2, by simp at h4; omega, ?_⟩
    exact hB.trans ⟨h3.os, h3.tape, h3.output, h3.size, fun k hk => h3.block k (by simp; omega) (by simp)⟩
theorem own_set9E {w : World} {B n g : Nat} {v u : Value} {xs : List Value} {e : TypeId} {size i : Nat} (ho : w.ownsRow B e size v n xs) (hg : g < B) : (w.setCell ⟨g, i, none⟩ u).ownsRow B e size v n xs :=
  ⟨ho.1, ho.2.imp id fun ⟨g', cap, cur, h1, h2, h3, h4⟩ => ⟨g', cap, cur, h1, h2, (heap_setCell_other _ _ _ _ (by show g' ≠ g; omega)).trans h3, h4⟩⟩
theorem own_mono9E {w : World} {B B' size n : Nat} {v : Value} {e : TypeId} {xs : List Value} (h : w.ownsRow B e size v n xs) (hb : B' ≤ B) : w.ownsRow B' e size v n xs :=
  ⟨h.1, h.2.imp id fun ⟨g, cap, cur, h1, h2, h3⟩ => ⟨g, cap, cur, h1, Nat.le_trans hb h2, h3⟩⟩
end Go.Proofs.YtoalbopcapgojabDoor

/- The registers and outputs of the document's own Run in memory. -/
namespace Go.Proofs.YtoalbopcapgojabDoor
open Go.RowKit Gf
set_option linter.unusedVariables false
set_option maxRecDepth 20000
/-- the inputs as columns -/
def inX (L : List (List F)) : Int → Nat → F := fun i j => at8 (L.getD i.toNat []) j
theorem inX_at {L : List (List F)} {i : Nat} {xs : List F} (h : L[i]? = some xs) (j : Nat) : inX L (i : Int) j = at8 xs j := by
  simp [inX, List.getD_eq_getElem?_getD, h]
def madeL (X : Int → Nat → F) (ss : List Stp) (no h : Nat) : List (List F) := (List.range no).map fun (d : Nat) => rowF h (runO X ss noR noR (d : Int))
theorem madeL_len (X : Int → Nat → F) (ss : List Stp) (no h : Nat) : (madeL X ss no h).length = no := by simp [madeL]
theorem madeL_at {X : Int → Nat → F} {ss : List Stp} {no h d : Nat} (hd : d < no) : (madeL X ss no h)[d]? = some (rowF h (runO X ss noR noR (d : Int))) := by simp [madeL, hd]
/-- a step done for the first b bytes alone -/
def upTo (X : Int → Nat → F) (s : Stp) (R : Regs) (b : Nat) : Regs := fun r j => if j < b then doR X s R r j else R r j
theorem upTo_zero (X : Int → Nat → F) (s : Stp) (R : Regs) : upTo X s R 0 = R := by funext r j; simp [upTo]
theorem upTo_idle {X : Int → Nat → F} {s : Stp} {R : Regs} {b : Nat} (h : s.op = 5) : upTo X s R b = R := by
  funext r j
  show (if j < b then doR X s R r j else R r j) = R r j
  rw [doR_n (by omega) (by omega) (by omega) (by omega), ite_self]
/-- one cell of one register put -/
def pokeR (R : Regs) (k b : Nat) (x : F) : Regs := fun r j => if r = (k : Int) ∧ j = b then x else R r j
theorem upTo_next {X : Int → Nat → F} {s : Stp} {R : Regs} {b k : Nat} {x : F} (hk : s.dst = (k : Int)) (h5 : s.op ≠ 5) (hx : doR X s R (k : Int) b = x) : upTo X s R (b + 1) = pokeR (upTo X s R b) k b x := by
  funext r j
  show (if j < b + 1 then doR X s R r j else R r j) = (if r = (k : Int) ∧ j = b then x else (if j < b then doR X s R r j else R r j))
  by_cases e : j = b
  · subst e
    rw [if_pos (Nat.lt_succ_self _)]
    by_cases e2 : r = (k : Int)
    · rw [if_pos ⟨e2, rfl⟩, ← hx, e2]
    · rw [if_neg (fun h => e2 h.1), if_neg (Nat.lt_irrefl _)]
      have e3 : r ≠ s.dst := by rw [hk]; exact e2
      by_cases h1 : s.op = 1
      · rw [doR_1 h1, setR_other e3]
      by_cases h2 : s.op = 2
      · rw [doR_2 h2, setR_other e3]
      by_cases h3 : s.op = 3
      · rw [doR_3 h3, setR_other e3]
      by_cases h4 : s.op = 4
      · rw [doR_4 h4, setR_other e3]
      · rw [doR_n h1 h2 h3 h4]
  · rw [if_neg (c := r = (k : Int) ∧ j = b) (fun h => e h.2)]
    by_cases e3 : j < b
    · rw [if_pos (by omega), if_pos e3]
    · rw [if_neg (by omega), if_neg e3]
theorem upTo_at {X : Int → Nat → F} {s : Stp} {R : Regs} {b : Nat} (r : Int) : upTo X s R b r b = R r b := by unfold upTo; rw [if_neg (Nat.lt_irrefl b)]
structure RunW (B : Nat) (w : World) (M F0 Q rg no h : Nat) (g : Nat → Option (Nat × Nat)) (R O : Regs) : Prop where
  regs : w.heap[M]? = some (.cells (slF rg h (fun k => (some ⟨F0 + k, 0, none⟩, h))) 26 (0, 0))
  row : ∀ k, k < rg → w.heap[F0 + k]? = some (.cells (vfs (rowF h (R (k : Int)))) 5 (0, 0))
  outs : w.heap[Q]? = some (.cells (slO no h (fun d => (g d).map fun p => (some ⟨p.1, 0, none⟩, p.2))) 26 (0, 0))
  out : ∀ d, d < no → ∀ p, g d = some p → Has8 w p.1 (rowF h (O (d : Int))) p.2 ∧ Q < p.1
  hM : B ≤ M
  hMF : M < F0
  hFQ : F0 + rg ≤ Q
theorem RunW.below {B : Nat} {w w' : World} {M F0 Q rg no h : Nat} {g : Nat → Option (Nat × Nat)} {R O : Regs} (hr : RunW B w M F0 Q rg no h g R O) (hb : Below w.heap.size w w') : RunW B w' M F0 Q rg no h g R O :=
  { hr with regs := heap_later hr.regs hb, row := fun k hk => heap_later (hr.row k hk) hb, outs := heap_later hr.outs hb, out := fun d hd p hp => ⟨has8_below (hr.out d hd p hp).1 hb, (hr.out d hd p hp).2⟩ }
theorem RunW.drew {B : Nat} {w : World} {M F0 Q rg no h : Nat} {g : Nat → Option (Nat × Nat)} {R O : Regs} (hr : RunW B w M F0 Q rg no h g R O) : RunW B w.drew M F0 Q rg no h g R O :=
  { hr with regs := hr.regs, row := hr.row, outs := hr.outs, out := hr.out }
theorem RunW.poke {B : Nat} {w : World} {M F0 Q rg no h : Nat} {g : Nat → Option (Nat × Nat)} {R O : Regs} (hr : RunW B w M F0 Q rg no h g R O) {k b : Nat} (hk : k < rg) (hb : b < h) (x : F) : RunW B (w.setCell ⟨F0 + k, b, none⟩ (.int .u8 (x.toNat : Int))) M F0 Q rg no h g (pokeR R k b x) O := by
  have h1 := hr.hMF
  have h2 := hr.hFQ
  refine { hr with regs := ?_, row := fun j hj => ?_, outs := ?_, out := fun d hd p hp => ?_ }
  · exact (heap_setCell_other _ _ _ _ (by show M ≠ F0 + k; omega)).trans hr.regs
  · by_cases e : j = k
    · subst e
      rw [heap_setCell_same _ _ _ _ _ _ (hr.row j hj)]
      have e9 := vfs_set (rowF h (R (j : Int))) b x
      have : (vfs (rowF h (R (j : Int)))).setIfInBounds b (.int .u8 (x.toNat : Int)) = vfs (rowF h (pokeR R j b x (j : Int))) := by
        rw [e9, rowF_set]
        congr 1
        exact rowF_congr fun i hi => by simp [pokeR]
      rw [this]
    · rw [heap_setCell_other _ _ _ _ (by show F0 + j ≠ F0 + k; omega), hr.row j hj]
      congr 3
      exact rowF_congr fun i hi => by simp only [pokeR]; rw [if_neg (fun hh => e (by omega))]
  · exact (heap_setCell_other _ _ _ _ (by show Q ≠ F0 + k; omega)).trans hr.outs
  · obtain ⟨h3, h4⟩ := hr.out d hd p hp
    exact ⟨has8_set_otherE h3 (by omega), h4⟩
theorem RunW.congr {B : Nat} {w : World} {M F0 Q rg no h : Nat} {g : Nat → Option (Nat × Nat)} {R R' O : Regs} (hr : RunW B w M F0 Q rg no h g R O) (e : ∀ r : Nat, r < rg → ∀ j, j < h → R (r : Int) j = R' (r : Int) j) : RunW B w M F0 Q rg no h g R' O :=
  { hr with row := fun k hk => by rw [hr.row k hk, rowF_congr (e k hk)] }
theorem RunW.full {B : Nat} {w : World} {M F0 Q rg no h : Nat} {g : Nat → Option (Nat × Nat)} {X : Int → Nat → F} {s : Stp} {R O : Regs} (hr : RunW B w M F0 Q rg no h g (upTo X s R h) O) : RunW B w M F0 Q rg no h g (doR X s R) O :=
  hr.congr fun r _ j hj => by unfold upTo; rw [if_pos hj]
/-- an output made -/
theorem RunW.putO {B : Nat} {w : World} {M F0 Q rg no h q c d k : Nat} {g : Nat → Option (Nat × Nat)} {R O : Regs} (hr : RunW B w M F0 Q rg no h g R O) (hd : d < no) (h8 : Has8 w q (rowF h (R (k : Int))) c) (hq : Q < q) :
    RunW B (w.setCell ⟨Q, d, none⟩ (.slice (some ⟨q, 0, none⟩) h c)) M F0 Q rg no h (fun x => if x = d then some (q, c) else g x) R (setR O d (R k)) := by
  have h1 := hr.hMF
  have h2 := hr.hFQ
  refine { hr with regs := ?_, row := fun j hj => ?_, outs := ?_, out := fun x hx p hp => ?_ }
  · exact (heap_setCell_other _ _ _ _ (by show M ≠ Q; omega)).trans hr.regs
  · exact (heap_setCell_other _ _ _ _ (by show F0 + j ≠ Q; omega)).trans (hr.row j hj)
  · rw [heap_setCell_same _ _ _ _ _ _ hr.outs, slO_set (some ⟨q, 0, none⟩, c) hd]
    congr 3
    funext x
    by_cases e : x = d <;> simp [e]
  · by_cases e : x = d
    · subst e
      simp only [if_true, Option.some.injEq] at hp
      subst hp
      rw [setR_same]
      exact ⟨has8_set_otherE h8 (by show q ≠ Q; omega), hq⟩
    · simp only [e, if_false] at hp
      rw [setR_other (show (x : Int) ≠ (d : Int) by omega)]
      obtain ⟨h3, h4⟩ := hr.out x hx p hp
      exact ⟨has8_set_otherE h3 (by show p.1 ≠ Q; omega), h4⟩
/-- while the registers are laid -/
structure RunI (B : Nat) (w : World) (M F0 rg h k : Nat) : Prop where
  regs : w.heap[M]? = some (.cells (slO rg h (fun j => if j < k then some (some ⟨F0 + j, 0, none⟩, h) else none)) 26 (0, 0))
  row : ∀ j, j < k → w.heap[F0 + j]? = some (.cells (vfs (zeros h)) 5 (0, 0))
  size : w.heap.size = F0 + k
  hM : B ≤ M
  hMF : M < F0
theorem RunI.next {B : Nat} {w : World} {M F0 rg h k : Nat} (hr : RunI B w M F0 rg h k) (hk : k < rg) : RunI B ((w.alloc (.cells (vfs (zeros h)) 5)).setCell ⟨M, k, none⟩ (.slice (some ⟨w.heap.size, 0, none⟩) h h)) M F0 rg h (k + 1) := by
  have hb : Below w.heap.size w (w.alloc (.cells (vfs (zeros h)) 5)) := (Below.refl _ _).alloc (Nat.le_refl _) _
  have h1 := hr.hMF
  have h2 := hr.size
  refine { hr with regs := ?_, row := fun j hj => ?_, size := ?_ }
  · rw [heap_setCell_same _ _ _ _ _ _ (heap_later hr.regs hb), slO_set (some ⟨w.heap.size, 0, none⟩, h) hk]
    congr 3
    funext x
    by_cases e : x = k
    · subst e; simp [h2]
    · by_cases e2 : x < k
      · rw [if_neg e, if_pos e2, if_pos (by omega)]
      · rw [if_neg e, if_neg e2, if_neg (by omega)]
  · rw [heap_setCell_other _ _ _ _ (by show F0 + j ≠ M; omega)]
    by_cases e : j = k
    · subst e; rw [← h2]; exact heap_alloc_last _ _
    · exact heap_later (hr.row j (by omega)) hb
  · simp [h2]; omega
theorem RunI.done {B : Nat} {w : World} {M F0 rg no h : Nat} (hr : RunI B w M F0 rg h rg) : RunW B (w.alloc (.cells (slO no h (fun _ => none)) 26)) M F0 w.heap.size rg no h (fun _ => none) noR noR := by
  have hb : Below w.heap.size w (w.alloc (.cells (slO no h (fun _ => none)) 26)) := (Below.refl _ _).alloc (Nat.le_refl _) _
  refine { hM := hr.hM, hMF := hr.hMF, hFQ := by rw [hr.size]; exact Nat.le_refl _, regs := ?_, row := fun k hk => ?_, outs := heap_alloc_last _ _, out := fun d hd p hp => by cases hp }
  · rw [heap_later hr.regs hb]
    congr 2
    apply Array.ext_getElem?
    intro i
    by_cases hi : i < rg
    · rw [slO_at hi, slF_at hi, svO, if_pos hi]
    · rw [Array.getElem?_eq_none (by rw [slO_size]; omega), Array.getElem?_eq_none (by rw [slF_size]; omega)]
  · rw [heap_later (hr.row k hk) hb, zeros_rowF]; rfl
theorem has8_U {w : World} {g cap : Nat} {xs : List F} (h : Has8 w g xs cap) : Row8T w (some ⟨g, 0, none⟩) xs := by
  have h2 := row8_has h
  obtain ⟨cur, hg, _⟩ := h
  rcases h2 with e | ⟨b, off, e, h2⟩
  · exact .inl e
  · cases e
    exact .inr ⟨g, 0, _, _, rfl, hg, h2⟩
/-- what is made, row by row -/
def OutsW (w : World) (Q ol h : Nat) (X : Int → Nat → F) (ss : List Stp) : Prop := ∀ d, d < ol → ∃ q c, w.cell? ⟨Q, d, none⟩ = some (.slice (some ⟨q, 0, none⟩) h c) ∧ Row8 w (some ⟨q, 0, none⟩) (rowF h (runO X ss noR noR (d : Int)))
theorem OutsW.below {w w' : World} {Q ol h : Nat} {X : Int → Nat → F} {ss : List Stp} (ho : OutsW w Q ol h X ss) (hb : Below w.heap.size w w') : OutsW w' Q ol h X ss := fun d hd => by
  obtain ⟨q, c, h1, h2⟩ := ho d hd
  exact ⟨q, c, cell_later hb h1, row8_below h2 hb⟩
theorem OutsW.rows {w : World} {Q ol h : Nat} {X : Int → Nat → F} {ss : List Stp} (ho : OutsW w Q ol h X ss) : Rows8 w (some ⟨Q, 0, none⟩) (madeL X ss ol h) := by
  refine .inr ⟨Q, 0, rfl, fun j x hx => ?_⟩
  have hj : j < ol := by have := (List.getElem?_eq_some_iff.1 hx).1; rwa [madeL_len] at this
  rw [madeL_at hj] at hx
  obtain rfl := Option.some.inj hx
  obtain ⟨q, c, h1, h2⟩ := ho j hj
  exact ⟨_, c, by rw [Nat.zero_add, rowF_len]; exact h1, h2⟩
theorem RunW.made {B : Nat} {w : World} {M F0 Q rg no h : Nat} {g : Nat → Option (Nat × Nat)} {X : Int → Nat → F} {ss : List Stp} {R : Regs} (hr : RunW B w M F0 Q rg no h g R (runO X ss noR noR)) (hg : ∀ d, d < no → (g d).isSome = true) : OutsW w Q no h X ss := fun j hj => by
  obtain ⟨p, hp⟩ := Option.isSome_iff_exists.1 (hg j hj)
  refine ⟨p.1, p.2, ?_, (has8_U (hr.out j hj p hp).1).row8⟩
  have := cellAt hr.outs j _ (slO_at hj)
  simp only [svO, hp, Option.map_some] at this
  exact this
end Go.Proofs.YtoalbopcapgojabDoor

/- What the program's gathering of what is asked for does at one step. -/
namespace Go.Proofs.YtoalbopcapgojabDoor
open Go.RowKit Gf
set_option linter.unusedVariables false
set_option maxRecDepth 20000
set_option linter.unusedSimpArgs false
theorem cell_setCell_other9 (w : World) (p q : Addr) (v : Value) (h : q.block ≠ p.block) : (w.setCell p v).cell? q = w.cell? q := by
  simp only [World.cell?]
  rw [heap_setCell_other _ _ _ _ h]
def askN (A : Int → Bool) : List Bool := (List.range 64).map fun (r : Nat) => A (r : Int)
theorem askN_get {A : Int → Bool} {q : Nat} (h : q < 64) : (askN A)[q]? = some (A q) := by simp [askN, h]
theorem askN_set {A : Int → Bool} {q : Nat} (v : Bool) (h : q < 64) : (askN A).set q v = askN (fun r => if r = q then v else A r) := by
  apply List.ext_getElem?
  intro i
  rw [List.getElem?_set]
  by_cases hi : i < 64
  · rw [askN_get hi]
    by_cases e : q = i
    · subst e; rw [if_pos rfl]; simp [askN, h]
    · have e2 : ¬ (i : Int) = (q : Int) := by omega
      rw [if_neg e, askN_get hi, if_neg e2]
  · have h1 : (askN A).length = 64 := by simp [askN]
    rw [List.getElem?_eq_none (by simp [askN]; omega), List.getElem?_eq_none (by simp [askN]; omega)]
    split
    · rw [if_neg (by rw [h1]; omega)]
    · rfl
end Go.Proofs.YtoalbopcapgojabDoor

/- Steps turned round in place, lists of numbers copied. -/
namespace Go.Proofs.YtoalbopcapgojabDoor
open Go.RowKit Gf
set_option linter.unusedVariables false
set_option maxRecDepth 20000
set_option linter.unusedSimpArgs false
theorem stpsL_set : ∀ (ys : List Stp) (i : Nat) (s : Stp), ((((stpsL ys).set (i * 4) (.int .i64 s.op)).set (i * 4 + 1) (.int .i64 s.dst)).set (i * 4 + 2) (.int .i64 s.src)).set (i * 4 + 3) (.int .u8 (s.c.toNat : Int)) = if i < ys.length then stpsL (ys.set i s) else stpsL ys
  | [], i, s => by simp [stpsL]
  | y :: ys, 0, s => by simp [stpsL, stpL, vf]
  | y :: ys, i + 1, s => by
    have ih := stpsL_set ys i s
    have e : stpsL (y :: ys) = stpL y ++ stpsL ys := rfl
    have h4 : (stpL y).length = 4 := rfl
    rw [e, List.set_append_right _ _ (by rw [h4]; omega), List.set_append_right _ _ (by rw [h4]; omega), List.set_append_right _ _ (by rw [h4]; omega), List.set_append_right _ _ (by rw [h4]; omega), h4,
      show (i + 1) * 4 - 4 = i * 4 by omega, show (i + 1) * 4 + 1 - 4 = i * 4 + 1 by omega, show (i + 1) * 4 + 2 - 4 = i * 4 + 2 by omega, show (i + 1) * 4 + 3 - 4 = i * 4 + 3 by omega, ih]
    by_cases h : i < ys.length
    · rw [if_pos h, if_pos (by rw [List.length_cons]; omega), List.set_cons_succ]; try rfl
    · rw [if_neg h, if_neg (by rw [List.length_cons]; omega)]; try rfl
def put4 (w : World) (g i : Nat) (s : Stp) : World := (((w.setCell ⟨g, i * 4, none⟩ (.int .i64 s.op)).setCell ⟨g, i * 4 + 1, none⟩ (.int .i64 s.dst)).setCell ⟨g, i * 4 + 2, none⟩ (.int .i64 s.src)).setCell ⟨g, i * 4 + 3, none⟩ (.int .u8 (s.c.toNat : Int))
theorem ownT_put {w : World} {B n g cap i : Nat} {ys : List Stp} (s : Stp) (ho : w.ownsRow B 55 4 (.slice (some ⟨g, 0, none⟩) n cap) n (stpsL ys)) (hi : i < n) : (put4 w g i s).ownsRow B 55 4 (.slice (some ⟨g, 0, none⟩) n cap) n (stpsL (ys.set i s)) := by
  have hl := ho.1
  rw [stpsL_len] at hl
  have hin : i < ys.length := by omega
  refine ⟨by rw [stpsL_len, List.length_set]; omega, ?_⟩
  rcases ho.2 with ⟨e, _⟩ | ⟨g', cap', cur, e, hB, hg, hle, h5, h6, h7⟩
  · cases e
  · cases e
    have h1 : (w.setCell ⟨g, i * 4, none⟩ (.int .i64 s.op)).heap[g]? = some (.cells (cur.setIfInBounds (i * 4) (.int .i64 s.op)) 55 (0, 0)) := heap_setCell_same _ _ _ _ _ _ hg
    have h2 : ((w.setCell ⟨g, i * 4, none⟩ (.int .i64 s.op)).setCell ⟨g, i * 4 + 1, none⟩ (.int .i64 s.dst)).heap[g]? = some (.cells _ 55 (0, 0)) := heap_setCell_same _ _ _ _ _ _ h1
    have h3 : (((w.setCell ⟨g, i * 4, none⟩ (.int .i64 s.op)).setCell ⟨g, i * 4 + 1, none⟩ (.int .i64 s.dst)).setCell ⟨g, i * 4 + 2, none⟩ (.int .i64 s.src)).heap[g]? = some (.cells _ 55 (0, 0)) := heap_setCell_same _ _ _ _ _ _ h2
    have h4 : (put4 w g i s).heap[g]? = some (.cells _ 55 (0, 0)) := heap_setCell_same _ _ _ _ _ _ h3
    refine .inr ⟨g, cap, _, rfl, hB, h4, hle, h5, by simp [h6], ?_⟩
    simp only [Array.toList_setIfInBounds, List.take_set, h7]
    rw [stpsL_set, if_pos hin]
theorem grown_put4 {w W : World} {g : Nat} (h : W.grownBy w (some g)) (i : Nat) (s : Stp) : W.grownBy (put4 w g i s) (some g) := grownBy_setCell (grownBy_setCell (grownBy_setCell (grownBy_setCell h _) _) _) _
/-- the list with k steps at either end turned round -/
def revK (z : Stp) (xs : List Stp) (k : Nat) : List Stp := (List.range xs.length).map fun i => if i < k ∨ xs.length ≤ i + k then xs.getD (xs.length - 1 - i) z else xs.getD i z
theorem revK_len (z : Stp) (xs : List Stp) (k : Nat) : (revK z xs k).length = xs.length := by simp [revK]
theorem revK_get {z : Stp} {xs : List Stp} {k i : Nat} (h : i < xs.length) : (revK z xs k)[i]? = some (if i < k ∨ xs.length ≤ i + k then xs.getD (xs.length - 1 - i) z else xs.getD i z) := by simp [revK, h]
theorem revK_zero (z : Stp) (xs : List Stp) : revK z xs 0 = xs := by
  apply List.ext_getElem?
  intro i
  by_cases h : i < xs.length
  · rw [revK_get h, if_neg (by omega)]; simp [List.getD, h]
  · rw [List.getElem?_eq_none (by rw [revK_len]; omega), List.getElem?_eq_none (by omega)]
theorem revK_step {z : Stp} {xs : List Stp} {k j : Nat} (hk : k < j) (hj : j + 1 + k = xs.length) : ((revK z xs k).set k (xs.getD j z)).set j (xs.getD k z) = revK z xs (k + 1) := by
  apply List.ext_getElem?
  intro i
  rw [List.getElem?_set, List.length_set, revK_len, List.getElem?_set, revK_len]
  by_cases h : i < xs.length
  · rw [revK_get h, revK_get h]
    by_cases e1 : j = i
    · subst e1
      rw [if_pos rfl, if_pos h, if_pos (by omega), show xs.length - 1 - j = k by omega]
    · rw [if_neg e1]
      by_cases e2 : k = i
      · subst e2
        rw [if_pos rfl, if_pos h, if_pos (by omega), show xs.length - 1 - k = j by omega]
      · rw [if_neg e2]
        by_cases e3 : i < k ∨ xs.length ≤ i + k
        · rw [if_pos e3, if_pos (by omega)]
        · rw [if_neg e3, if_neg (by omega)]
  · rw [List.getElem?_eq_none (by rw [revK_len]; omega), List.getElem?_eq_none (by rw [revK_len]; omega)]
    repeat' split
    all_goals first | rfl | omega
theorem revK_done {z : Stp} {xs : List Stp} {k : Nat} (h : xs.length ≤ 2 * k + 1) : revK z xs k = xs.reverse := by
  apply List.ext_getElem?
  intro i
  by_cases hi : i < xs.length
  · rw [revK_get hi, List.getElem?_reverse hi]
    by_cases e : i < k ∨ xs.length ≤ i + k
    · rw [if_pos e]; simp [List.getD, show xs.length - 1 - i < xs.length by omega]
    · rw [if_neg e, show xs.length - 1 - i = i by omega]; simp [List.getD, hi]
  · rw [List.getElem?_eq_none (by rw [revK_len]; omega), List.getElem?_eq_none (by rw [List.length_reverse]; omega)]
theorem ownT_cells {w : World} {B n g cap : Nat} {ys : List Stp} (ho : w.ownsRow B 55 4 (.slice (some ⟨g, 0, none⟩) n cap) n (stpsL ys)) {i : Nat} {s : Stp} (hs : ys[i]? = some s) : w.cell? ⟨g, i * 4, none⟩ = some (.int .i64 s.op) ∧ w.cell? ⟨g, i * 4 + 1, none⟩ = some (.int .i64 s.dst) ∧ w.cell? ⟨g, i * 4 + 2, none⟩ = some (.int .i64 s.src) ∧ w.cell? ⟨g, i * 4 + 3, none⟩ = some (.int .u8 (s.c.toNat : Int)) ∧ (∀ q, w.frozen? ⟨g, q, none⟩ = false) := by
  have hl := ho.1
  rw [stpsL_len] at hl
  have hi : i < ys.length := (List.getElem?_eq_some_iff.1 hs).1
  rcases ho.2 with ⟨e, _⟩ | ⟨g', cap', cur, e, hB, hg, hle, h5, h6, h7⟩
  · cases e
  · cases e
    have H : ∀ q, q < 4 → cur[i * 4 + q]? = (stpL s)[q]? := fun q hq => by
      rw [← Array.getElem?_toList, ← List.getElem?_take_of_lt (show i * 4 + q < n * 4 by omega), h7, stpsL_at ys i q hq, hs]; rfl
    exact ⟨cellAt hg _ _ (H 0 (by omega)), cellAt hg _ _ (H 1 (by omega)), cellAt hg _ _ (H 2 (by omega)), cellAt hg _ _ (H 3 (by omega)), fun q => frozen_of_row _ _ _ _ _ hg⟩
end Go.Proofs.YtoalbopcapgojabDoor

/- Lists of numbers and of steps copied behind an empty list of one's own; Clone of the library at numbers. -/
namespace Go.Proofs.YtoalbopcapgojabDoor
open Go.RowKit Gf
set_option linter.unusedVariables false
set_option maxRecDepth 20000
set_option linter.unusedSimpArgs false
theorem appendI_zero (w : World) (p : Addr) (a : Option Addr) (ca : Nat) (ty : TypeId) :
    (Builtin.append_ #[22, 22] ty #[.slice (some p) 0 0, .slice a 0 ca]).run Tryd.prog w = .ok (.slice (some p) 0 0) w := by
  obtain ⟨i, hi, h1, h2, h3⟩ := infoI
  cases a <;> simp [Builtin.append_, run_underlying Tryd.underlying22, sizeOf, typeInfo, hi, Builtin.lenOf, Builtin.firstCells, loadCells, loadCellsFrom, storeCells]
theorem appendT_zero (w : World) (p : Addr) (a : Option Addr) (ca : Nat) (ty : TypeId) :
    (Builtin.append_ #[23, 23] ty #[.slice (some p) 0 0, .slice a 0 ca]).run Tryd.prog w = .ok (.slice (some p) 0 0) w := by
  obtain ⟨i, hi, h1, h2, h3⟩ := infoT4
  cases a <;> simp [Builtin.append_, run_underlying Tryd.underlying23, sizeOf, typeInfo, hi, Builtin.lenOf, Builtin.firstCells, loadCells, loadCellsFrom, storeCells]
theorem own_empty {w : World} {g : Nat} {e : TypeId} {size : Nat} (h : w.heap[g]? = some (.cells #[] e (0, 0))) {B : Nat} (hB : B ≤ g) : w.ownsRow B e size (.slice (some ⟨g, 0, none⟩) 0 0) 0 [] :=
  ⟨by simp, .inr ⟨g, 0, _, rfl, hB, h, Nat.le_refl _, Nat.zero_le _, by simp, by simp⟩⟩
/-- numbers copied behind an empty list -/
theorem copyI {w : World} {B g0 l ca : Nat} {a : Option Addr} {xs : List Int} (ty : TypeId) (ho : w.ownsRow B 3 1 (.slice (some ⟨g0, 0, none⟩) 0 0) 0 []) (hl : l = xs.length) (hl9 : l * 8 ≤ 140737488355328) (hx : RowI w a xs) (hB : B ≤ w.heap.size) :
    ∃ g cap w', (Builtin.append_ #[22, 22] ty #[.slice (some ⟨g0, 0, none⟩) 0 0, .slice a l ca]).run Tryd.prog w = .ok (.slice (some ⟨g, 0, none⟩) l cap) w' ∧
      w'.ownsRow B 3 1 (.slice (some ⟨g, 0, none⟩) l cap) l (xs.map (Value.int .i64)) ∧ w.grownBy w' (some g0) ∧ (g = g0 ∨ g = w.heap.size) := by
  by_cases h0 : l = 0
  · subst h0
    obtain rfl : xs = [] := List.eq_nil_of_length_eq_zero hl.symm
    exact ⟨g0, 0, w, appendI_zero _ _ _ _ _, ho, World.grownBy.refl _ _, .inl rfl⟩
  · rcases hx with rfl | ⟨b, off, rfl, hc⟩
    · exact absurd hl h0
    obtain ⟨i, hi, h2, h3, h4⟩ := infoI
    obtain ⟨g, cap, w', h1, h5, h6, h7, h8⟩ := run_append_lies (P := Tryd.prog) w 22 ty B 3 i _ 1 8 Tryd.underlying22 hi h4 h2 h3 rfl (by decide) _ 0 [] ho ⟨b, off, none⟩ l ca (xs.map (Value.int .i64)) (by rw [List.length_map, Nat.mul_one, hl]) (fun j u hu => by
      have ha : (⟨b, off, none⟩ : Addr).add j = ⟨b, off + j, none⟩ := by unfold Addr.add; split <;> simp_all
      rw [ha]
      rw [List.getElem?_map, Option.map_eq_some_iff] at hu
      obtain ⟨x, hx, rfl⟩ := hu
      exact hc j x hx) (fun u hu => by obtain ⟨x, _, rfl⟩ := List.mem_map.1 hu; rfl) (by omega) (by simp only [maxLen]; omega) (by omega) hB _ rfl
    rw [Nat.zero_add] at h1 h5
    rw [List.nil_append] at h5
    refine ⟨g, cap, w', h1, h5, h6, h7.imp (fun e => ?_) id⟩
    exact (Option.some.inj e).symm
theorem copyT {w : World} {B g0 l ca : Nat} {a : Option Addr} {ss : List Stp} (ty : TypeId) (ho : w.ownsRow B 55 4 (.slice (some ⟨g0, 0, none⟩) 0 0) 0 []) (hl : l = ss.length) (hl9 : l * 32 ≤ 140737488355328) (hx : StpW w a ss) (hB : B ≤ w.heap.size) :
    ∃ g cap w', (Builtin.append_ #[23, 23] ty #[.slice (some ⟨g0, 0, none⟩) 0 0, .slice a l ca]).run Tryd.prog w = .ok (.slice (some ⟨g, 0, none⟩) l cap) w' ∧
      w'.ownsRow B 55 4 (.slice (some ⟨g, 0, none⟩) l cap) l (stpsL ss) ∧ w.grownBy w' (some g0) ∧ (g = g0 ∨ g = w.heap.size) := by
  by_cases h0 : l = 0
  · subst h0
    obtain rfl : ss = [] := List.eq_nil_of_length_eq_zero hl.symm
    exact ⟨g0, 0, w, appendT_zero _ _ _ _ _, ho, World.grownBy.refl _ _, .inl rfl⟩
  · obtain ⟨b, off, rfl⟩ : ∃ b off, a = some ⟨b, off, none⟩ := by
      rcases hx with rfl | ⟨b, off, e, _⟩
      · exact absurd hl h0
      · exact ⟨b, off, e⟩
    have h0' : 0 < l := by omega
    have h32 : (0 + l) * 32 ≤ 140737488355328 := by rw [Nat.zero_add]; exact hl9
    obtain ⟨g, cap, w', h1, h5, h6, h7, h8⟩ := appendT (xs := []) (c := ca) ty ho hx hl h0' h32 hB
    rw [Nat.zero_add] at h1 h5
    exact ⟨g, cap, w', h1, h5, h6, h7.imp (fun e => (Option.some.inj e).symm) id⟩
theorem ownI_row {w : World} {B l g cap : Nat} {xs : List Int} (ho : w.ownsRow B 3 1 (.slice (some ⟨g, 0, none⟩) l cap) l (xs.map (Value.int .i64))) : RowI w (some ⟨g, 0, none⟩) xs ∧ l ≤ cap ∧ cap ≤ maxLen := by
  refine ⟨rowI_own ho, ?_⟩
  rcases ho.2 with ⟨e, _⟩ | ⟨g', cap', cur, e, hB, hg, hle, h5, _⟩
  · cases e
  · cases e; exact ⟨hle, h5⟩
theorem ownT_row {w : World} {B l g cap : Nat} {ss : List Stp} (hl : l = ss.length) (ho : w.ownsRow B 55 4 (.slice (some ⟨g, 0, none⟩) l cap) l (stpsL ss)) : StpW w (some ⟨g, 0, none⟩) ss ∧ l ≤ cap ∧ cap ≤ maxLen := by
  obtain ⟨a, c, e, _, _, h⟩ := stpW_own hl ho
  rcases ho.2 with ⟨e2, _⟩ | ⟨g', cap', cur, e2, hB, hg, hle, h5, _⟩
  · cases e2
  · cases e2; cases e; exact ⟨h, hle, h5⟩
theorem ownI_facts {w : World} {B l c : Nat} {a : Option Addr} {xs : List Int} (ho : w.ownsRow B 3 1 (.slice a l c) l (xs.map (Value.int .i64))) : RowI w a xs ∧ l ≤ c ∧ (a = none → c = 0) ∧ l = xs.length ∧ ∀ p, a = some p → p.block < w.heap.size ∧ B ≤ p.block := by
  have hl : l = xs.length := by have := ho.1; rw [List.length_map] at this; omega
  rcases ho.2 with ⟨e, h0⟩ | ⟨g, cap, cur, e, hB, hg, hle, h5, h6, h7⟩
  · cases e
    exact ⟨.inl (List.eq_nil_of_length_eq_zero (by omega)), by omega, fun _ => rfl, hl, fun p e => by cases e⟩
  · cases e
    exact ⟨rowI_own ho, hle, fun e => (by cases e), hl, fun p e => by cases e; exact ⟨ltHeap hg, hB⟩⟩
set_option maxHeartbeats 4000000 in
theorem clone_F (l cap : Nat) (a : Option Addr) (xs : List Int) (w : World) (hl : l = xs.length) (hl9 : l ≤ 1000) (hcap : l ≤ cap) (hnil : a = none → cap = 0) (hX : RowI w a xs) :
    Calls Tryd.prog 33 #[.slice a l cap] w fun e w' => ∃ a' c', e = .returned (.slice a' l c') ∧ w'.ownsRow w.heap.size 3 1 (.slice a' l c') l (xs.map (Value.int .i64)) ∧ Below w.heap.size w w' := by
  have q22 : ∀ (w : World) (a : Option Addr) (n c n' c' : Nat), (binOp .eql 22 (.slice a n c) (.slice none n' c')).run Tryd.prog w = .ok (.bool a.isNone) w := fun w a n c n' c' => Lib.run_eql_slice_nil w _ _ a n c n' c' Tryd.underlying22
  cases a with
  | none =>
    obtain rfl := hnil rfl
    obtain rfl : l = 0 := by omega
    obtain rfl : xs = [] := List.eq_nil_of_length_eq_zero hl.symm
    have HX : Hid (w.ownsRow w.heap.size 3 1 (.slice none 0 0) 0 (([] : List Int).map (Value.int .i64))) := World.ownsRow_nil _ _ _ _
    clear hX hl
    go_enter Tryd.func33, Tryd.ntmps33
    go_wp2
    go_ret
    exact ⟨none, 0, rfl, HX.out, Below.refl _ _⟩
  | some p =>
    have hb := (Below.refl w.heap.size w).alloc (Nat.le_refl _) (.cells #[] 3)
    have ho := own_empty (size := 1) (B := w.heap.size) (heap_alloc_last w (.cells #[] 3)) (Nat.le_refl _)
    obtain ⟨g, cp, w', h1, h2, h3, h4⟩ := copyI (ca := cap) 22 ho hl (by omega) (rowI_below hX hb) hb.size
    have HAP : Hid _ := h1
    have HR : Hid (w'.ownsRow w.heap.size 3 1 (.slice (some ⟨g, 0, none⟩) l cp) l (xs.map (Value.int .i64))) := h2
    have HB : Hid (Below w.heap.size w w') := below_own hb ho h3 hb.size
    clear hX hl hb ho h1 h2 h3 h4
    go_enter Tryd.func33, Tryd.ntmps33
    go_wp2_with (at_builtin; refine wpList_append_run rfl _ _ 22 rfl _ _ _ _ rfl rfl HAP.out ?_)
    go_ret
    exact ⟨some ⟨g, 0, none⟩, cp, rfl, HR.out, HB.out⟩
end Go.Proofs.YtoalbopcapgojabDoor

/- What exec asks of the library: places in lists, copies of lists; exec.own. -/
namespace Go.Proofs.YtoalbopcapgojabDoor
open Go.RowKit Gf
set_option linter.unusedVariables false
set_option maxRecDepth 20000
set_option linter.unusedSimpArgs false
set_option maxHeartbeats 1000000 in
theorem index_Q (l cap : Nat) (a : Option Addr) (ns : List Int) (x : Int) (w : World) (hl : l = ns.length) (hl9 : l ≤ 1000000) (hX : RowI w a ns) :
    Calls Tryd.prog 23 #[.slice a l cap, .int .i64 x] w fun e w' => ∃ y : Int, e = .returned (.int .i64 y) ∧ ((y = -1 ∧ x ∉ ns) ∨ ∃ p : Nat, y = p ∧ ns[p]? = some x ∧ ∀ q, q < p → ns[q]? ≠ some x) ∧ w = w' := by
  have HL : Hid (l = ns.length) := hl
  have HX : Hid (RowI w a ns) := hX
  clear hl hX
  go_enter Tryd.func23, Tryd.ntmps23
  go_wp2
  go_loopw [8] (fun i wr => ∃ j : Nat, j ≤ l ∧ i = .int .i64 j ∧ wr = w ∧ (∀ q, q < j → ns[q]? ≠ some x)) (fun i _ => l - (intOf i).toNat)
  case atStart => exact ⟨0, by omega, rfl, rfl, fun q h => by omega⟩
  case round =>
    obtain ⟨j, hj, rfl, rfl, hq⟩ := hrel
    have HQ : Hid (∀ q, q < j → ns[q]? ≠ some x) := hq
    clear hq
    by_cases hlt : j < l
    · obtain ⟨b, off, rfl, hb, hc⟩ := rowI_cell HX.out (show j < ns.length by rw [← HL.out]; exact hlt)
      have c1 := hc j (by rw [← HL.out]; exact hlt)
      obtain ⟨y, hy⟩ : ∃ y, y = ns.getD j 0 := ⟨_, rfl⟩
      rw [← hy] at c1
      have HY : Hid (ns[j]? = some y) := by
        show _ = _
        rw [hy, List.getD_eq_getElem?_getD, List.getElem?_eq_getElem (by rw [← HL.out]; exact hlt)]; rfl
      clear hc hy
      by_cases he : x = y
      · have he' : (x == y) = true := by simp [he]
        have HE : Hid (x = y) := he
        clear he
        go_wp2
        go_ret
        exact ⟨j, rfl, .inr ⟨j, rfl, by rw [HE.out]; exact HY.out, HQ.out⟩, rfl⟩
      · have he' : (x == y) = false := by simp [he]
        have HE : Hid (¬ x = y) := he
        clear he
        go_wp2
        refine ⟨⟨j + 1, by omega, by go_num, by first | rfl | trivial, fun q hq => ?_⟩, by simp [intOf]; omega⟩
        by_cases hqj : q < j
        · exact HQ.out q hqj
        · obtain rfl : q = j := by omega
          rw [HY.out]
          exact fun h => HE.out (Option.some.inj h).symm
    · obtain rfl : j = l := by omega
      go_wp2
      go_ret
      exact ⟨-1, rfl, .inl ⟨rfl, fun h => by
        obtain ⟨q, hq, e⟩ := List.getElem_of_mem h
        exact HQ.out q (by rw [HL.out]; exact hq) (by rw [List.getElem?_eq_getElem hq, e])⟩, rfl⟩
theorem index_at (l cap : Nat) (a : Option Addr) (ns : List Int) (x : Int) (p : Nat) (w : World) (hl : l = ns.length) (hl9 : l ≤ 1000000) (hX : RowI w a ns) (hp : ns[p]? = some x) (hu : ∀ p q : Nat, ns[p]? = some x → ns[q]? = some x → p = q) :
    Calls Tryd.prog 23 #[.slice a l cap, .int .i64 x] w fun e w' => e = .returned (.int .i64 (p : Int)) ∧ w = w' :=
  (index_Q l cap a ns x w hl hl9 hX).mono fun e w' ⟨y, h1, h2, h3⟩ => ⟨by
    rcases h2 with ⟨_, h⟩ | ⟨q, e2, h, _⟩
    · exact absurd (List.mem_of_getElem? hp) h
    · rw [h1, e2, hu q p h hp], h3⟩
theorem index_no (l cap : Nat) (a : Option Addr) (ns : List Int) (x : Int) (w : World) (hl : l = ns.length) (hl9 : l ≤ 1000000) (hX : RowI w a ns) (hx : x ∉ ns) :
    Calls Tryd.prog 23 #[.slice a l cap, .int .i64 x] w fun e w' => e = .returned (.int .i64 (-1)) ∧ w = w' :=
  (index_Q l cap a ns x w hl hl9 hX).mono fun e w' ⟨y, h1, h2, h3⟩ => ⟨by
    rcases h2 with ⟨e2, _⟩ | ⟨q, _, h, _⟩
    · rw [h1, e2]
    · exact absurd (List.mem_of_getElem? h) hx, h3⟩
theorem good_at {n : Nat} {ns : List Int} (h : GoodH n ns) (x : Int) (p q : Nat) (h1 : ns[p]? = some x) (h2 : ns[q]? = some x) : p = q := by
  have hp := (List.getElem?_eq_some_iff.1 h1)
  have hq := (List.getElem?_eq_some_iff.1 h2)
  obtain ⟨hp1, hp2⟩ := hp
  obtain ⟨hq1, hq2⟩ := hq
  have hs : ns.Pairwise (· < ·) := h.1
  rcases Nat.lt_trichotomy p q with hl | hl | hl
  · have := List.pairwise_iff_getElem.1 hs p q hp1 hq1 hl
    omega
  · exact hl
  · have := List.pairwise_iff_getElem.1 hs q p hq1 hp1 hl
    omega
/-- a copy of a list of bytes, in a block of its own -/
theorem clone8_F (l cap g : Nat) (xs : List F) (w : World) (hl : l = xs.length) (hl9 : l ≤ 140737488355328) (hX : Row8 w (some ⟨g, 0, none⟩) xs) :
    Calls Tryd.prog 24 #[.slice (some ⟨g, 0, none⟩) l cap] w fun e w' => ∃ q c, e = .returned (.slice (some ⟨q, 0, none⟩) l c) ∧ Has8 w' q xs c ∧ w.heap.size ≤ q ∧ Below w.heap.size w w' := by
  have q22 : ∀ (w : World) (a : Option Addr) (n c n' c' : Nat), (binOp .eql 26 (.slice a n c) (.slice none n' c')).run Tryd.prog w = .ok (.bool a.isNone) w := fun w a n c n' c' => Lib.run_eql_slice_nil w _ _ a n c n' c' Tryd.underlying26
  obtain ⟨q, c, w1, hrun, h8, hq, hb⟩ := copy8E (ca := cap) 26 hl hl9 hX
  have HAP : Hid _ := hrun
  have H8 : Hid (Has8 w1 q xs c) := h8
  have HB : Hid (Below w.heap.size w w1) := hb
  have HQ : Hid (w.heap.size ≤ q) := hq
  clear hl hX hrun h8 hq hb
  go_enter Tryd.func24, Tryd.ntmps24
  go_wp2_with (at_builtin; refine wpList_append_run rfl _ _ 26 rfl _ _ _ _ rfl rfl HAP.out ?_)
  go_ret
  exact ⟨q, c, rfl, H8.out, HQ.out, HB.out⟩
/-- of a list that begins anywhere -/
theorem clone8_A (l cap : Nat) (p : Addr) (xs : List F) (w : World) (hl : l = xs.length) (hl9 : l ≤ 140737488355328) (hX : Row8 w (some p) xs) :
    Calls Tryd.prog 24 #[.slice (some p) l cap] w fun e w' => ∃ q c, e = .returned (.slice (some ⟨q, 0, none⟩) l c) ∧ Has8 w' q xs c ∧ w.heap.size ≤ q ∧ Below w.heap.size w w' := by
  have q22 : ∀ (w : World) (a : Option Addr) (n c n' c' : Nat), (binOp .eql 26 (.slice a n c) (.slice none n' c')).run Tryd.prog w = .ok (.bool a.isNone) w := fun w a n c n' c' => Lib.run_eql_slice_nil w _ _ a n c n' c' Tryd.underlying26
  obtain ⟨q, c, w1, hrun, h8, hq, hb⟩ := copy8E (ca := cap) 26 hl hl9 hX
  have HAP : Hid _ := hrun
  have H8 : Hid (Has8 w1 q xs c) := h8
  have HB : Hid (Below w.heap.size w w1) := hb
  have HQ : Hid (w.heap.size ≤ q) := hq
  clear hl hX hrun h8 hq hb
  go_enter Tryd.func24, Tryd.ntmps24
  go_wp2_with (at_builtin; refine wpList_append_run rfl _ _ 26 rfl _ _ _ _ rfl rfl HAP.out ?_)
  go_ret
  exact ⟨q, c, rfl, H8.out, HQ.out, HB.out⟩
theorem cloneT_F (l cap : Nat) (a : Option Addr) (ss : List Stp) (w : World) (hl : l = ss.length) (hl9 : l ≤ 5000) (hcap : l ≤ cap) (hnil : a = none → cap = 0) (hX : StpW w a ss) :
    Calls Tryd.prog 34 #[.slice a l cap] w fun e w' => ∃ a' c', e = .returned (.slice a' l c') ∧ w'.ownsRow w.heap.size 55 4 (.slice a' l c') l (stpsL ss) ∧ Below w.heap.size w w' := by
  have q22 : ∀ (w : World) (a : Option Addr) (n c n' c' : Nat), (binOp .eql 23 (.slice a n c) (.slice none n' c')).run Tryd.prog w = .ok (.bool a.isNone) w := fun w a n c n' c' => Lib.run_eql_slice_nil w _ _ a n c n' c' Tryd.underlying23
  cases a with
  | none =>
    obtain rfl := hnil rfl
    obtain rfl : l = 0 := by omega
    obtain rfl : ss = [] := List.eq_nil_of_length_eq_zero hl.symm
    have HX : Hid (w.ownsRow w.heap.size 55 4 (.slice none 0 0) 0 (stpsL [])) := World.ownsRow_nil _ _ _ _
    clear hX hl
    go_enter Tryd.func34, Tryd.ntmps34
    go_wp2
    go_ret
    exact ⟨none, 0, rfl, HX.out, Below.refl _ _⟩
  | some p =>
    have hb := (Below.refl w.heap.size w).alloc (Nat.le_refl _) (.cells #[] 55)
    have ho := own_empty (size := 4) (B := w.heap.size) (heap_alloc_last w (.cells #[] 55)) (Nat.le_refl _)
    obtain ⟨g, cp, w', h1, h2, h3, h4⟩ := copyT (ca := cap) 23 ho hl (by omega) (stpW_below hX hb) hb.size
    have HAP : Hid _ := h1
    have HR : Hid (w'.ownsRow w.heap.size 55 4 (.slice (some ⟨g, 0, none⟩) l cp) l (stpsL ss)) := h2
    have HB : Hid (Below w.heap.size w w') := below_own hb ho h3 hb.size
    clear hX hl hb ho h1 h2 h3 h4
    go_enter Tryd.func34, Tryd.ntmps34
    go_wp2_with (at_builtin; refine wpList_append_run rfl _ _ 23 rfl _ _ _ _ rfl rfl HAP.out ?_)
    go_ret
    exact ⟨some ⟨g, 0, none⟩, cp, rfl, HR.out, HB.out⟩
set_option maxRecDepth 100000 in
set_option maxHeartbeats 4000000 in
/-- exec.own: a program in lists of its own -/
theorem own_F (ia oa sa : Option Addr) (il ic ol oc sl sc : Nat) (rg : Int) (ins outs : List Int) (ss : List Stp) (w : World) (hP : PrgW w ia oa sa il ic ol oc sl sc ins outs ss) (hi9 : il ≤ 1000) (ho9 : ol ≤ 1000) (hs9 : sl ≤ 5000) :
    Calls Tryd.prog 22 #[.agg #[.slice ia il ic, .slice oa ol oc, .int .i64 rg, .slice sa sl sc]] w fun e w' => ∃ ia' ic' oa' oc' sa' sc', e = .returned (.agg #[.slice ia' il ic', .slice oa' ol oc', .int .i64 rg, .slice sa' sl sc']) ∧
      w'.ownsRow w.heap.size 3 1 (.slice ia' il ic') il (ins.map (Value.int .i64)) ∧ w'.ownsRow w.heap.size 3 1 (.slice oa' ol oc') ol (outs.map (Value.int .i64)) ∧ w'.ownsRow w.heap.size 55 4 (.slice sa' sl sc') sl (stpsL ss) ∧ Below w.heap.size w w' := by
  have HP : Hid (PrgW w ia oa sa il ic ol oc sl sc ins outs ss) := hP
  obtain ⟨N, hN⟩ : ∃ N, N = w.heap.size := ⟨_, rfl⟩
  obtain ⟨W, hW⟩ : ∃ W, W = (w.alloc (.cells #[.slice ia il ic, .slice oa ol oc, .int .i64 rg, .slice sa sl sc] 25)).alloc (.cells #[.slice none 0 0, .slice none 0 0, .int .i64 0, .slice none 0 0] 25) := ⟨_, rfl⟩
  have hA0 := holds_new (holds_new (holds_nil w) #[.slice ia il ic, .slice oa ol oc, .int .i64 rg, .slice sa sl sc] 25) #[.slice none 0 0, .slice none 0 0, .int .i64 0, .slice none 0 0] 25
  simp only [World.size_alloc] at hA0
  rw [← hW, ← hN] at hA0
  have hb0 : Below N w W := by rw [hW, hN]; exact ((Below.refl _ w).alloc (Nat.le_refl _) _).alloc (by simp) _
  have HB0 : Hid (Below N w W) := hb0
  have HK0 : Hid (W.heap[N]? = some (.cells #[.slice ia il ic, .slice oa ol oc, .int .i64 rg, .slice sa sl sc] 25 (0, 0))) := holds_at hA0 1 rfl
  have HR0 : Hid (W.heap[N + 1]? = some (.cells #[.slice none 0 0, .slice none 0 0, .int .i64 0, .slice none 0 0] 25 (0, 0))) := holds_at hA0 0 rfl
  have HWE : Hid (W = (w.alloc (.cells #[.slice ia il ic, .slice oa ol oc, .int .i64 rg, .slice sa sl sc] 25)).alloc (.cells #[.slice none 0 0, .slice none 0 0, .int .i64 0, .slice none 0 0] 25)) := hW
  have HNE : Hid (N = w.heap.size) := hN
  have HWS : Hid (N + 2 ≤ W.heap.size) := by show _ ≤ _; rw [hW, hN]; simp
  clear hP hW hA0 hb0 hN
  go_enter Tryd.func22, Tryd.ntmps22
  go_upto_region 1 with fail
  rw [← HWE.out, ← HNE.out]
  clear HWE
  have k0 := cellAt HK0.out 0 _ rfl
  go_wp2_with fail
  refine Calls.mono (clone_F il ic ia ins _ HP.out.eil hi9 HP.out.cil HP.out.inil (rowI_below HP.out.I (by rw [← HNE.out]; exact HB0.out))) ?_
  rintro e w1 ⟨ia', ic', rfl, ho1, hb1⟩
  have HB1 : Hid (Below N w w1) := HB0.out.trans (hb1.mono (by have := HWS.out; omega))
  have HK1 : Hid _ := heap_later HK0.out hb1
  have HR1 : Hid _ := heap_later HR0.out hb1
  have HO1 : Hid (w1.ownsRow (N + 2) 3 1 (.slice ia' il ic') il (ins.map (Value.int .i64))) := own_mono9E ho1 HWS.out
  have q0 := cellAt HK1.out 0 _ rfl
  have q1 : w1.frozen? ⟨N, 0, none⟩ = false := frozen_of_row _ _ _ _ _ HK1.out
  clear ho1 hb1 k0
  go_upto_region 2 with fail
  obtain ⟨X1, hX1⟩ : ∃ X1, X1 = w1.setCell ⟨N, 0, none⟩ (.slice ia' il ic') := ⟨_, rfl⟩
  have HB1' : Hid (Below N w X1) := by show Below ..; rw [hX1]; exact HB1.out.setCell (p := ⟨N, 0, none⟩) (Nat.le_refl _) _
  have HK1' : Hid (X1.heap[N]? = some (.cells #[.slice ia' il ic', .slice oa ol oc, .int .i64 rg, .slice sa sl sc] 25 (0, 0))) := by show _ = _; rw [hX1, heap_setCell_same _ _ _ _ _ _ HK1.out]; rfl
  have HR1' : Hid (X1.heap[N + 1]? = some (.cells #[.slice none 0 0, .slice none 0 0, .int .i64 0, .slice none 0 0] 25 (0, 0))) := by show _ = _; rw [hX1]; exact (heap_setCell_other _ _ _ _ (by show N + 1 ≠ N; omega)).trans HR1.out
  have HO1' : Hid (X1.ownsRow (N + 2) 3 1 (.slice ia' il ic') il (ins.map (Value.int .i64))) := by show World.ownsRow ..; rw [hX1]; exact own_set9E HO1.out (by omega)
  rw [← hX1]
  clear hX1 HB1 HK1 HR1 HO1 q0 q1 HK0 HR0
  have k1 := cellAt HK1'.out 1 _ rfl
  go_wp2_with fail
  refine Calls.mono (clone_F ol oc oa outs _ HP.out.eol ho9 HP.out.col HP.out.onil (rowI_below HP.out.O (by rw [← HNE.out]; exact HB1'.out))) ?_
  rintro e w2 ⟨oa', oc', rfl, ho2, hb2⟩
  have hz2 : N + 2 ≤ X1.heap.size := by have := ltHeap HR1'.out; omega
  have HB2 : Hid (Below N w w2) := HB1'.out.trans (hb2.mono (by omega))
  have HK2 : Hid _ := heap_later HK1'.out hb2
  have HR2 : Hid _ := heap_later HR1'.out hb2
  have HO2 : Hid _ := own_below HO1'.out hb2
  have HQ2 : Hid (w2.ownsRow (N + 2) 3 1 (.slice oa' ol oc') ol (outs.map (Value.int .i64))) := own_mono9E ho2 hz2
  have q0 := cellAt HK2.out 1 _ rfl
  have q1 : w2.frozen? ⟨N, 1, none⟩ = false := frozen_of_row _ _ _ _ _ HK2.out
  clear ho2 hb2 k1 hz2
  go_upto_region 3 with fail
  obtain ⟨X2, hX2⟩ : ∃ X2, X2 = w2.setCell ⟨N, 1, none⟩ (.slice oa' ol oc') := ⟨_, rfl⟩
  have HB2' : Hid (Below N w X2) := by show Below ..; rw [hX2]; exact HB2.out.setCell (p := ⟨N, 1, none⟩) (Nat.le_refl _) _
  have HK2' : Hid (X2.heap[N]? = some (.cells #[.slice ia' il ic', .slice oa' ol oc', .int .i64 rg, .slice sa sl sc] 25 (0, 0))) := by show _ = _; rw [hX2, heap_setCell_same _ _ _ _ _ _ HK2.out]; rfl
  have HR2' : Hid (X2.heap[N + 1]? = some (.cells #[.slice none 0 0, .slice none 0 0, .int .i64 0, .slice none 0 0] 25 (0, 0))) := by show _ = _; rw [hX2]; exact (heap_setCell_other _ _ _ _ (by show N + 1 ≠ N; omega)).trans HR2.out
  have HO2' : Hid (X2.ownsRow (N + 2) 3 1 (.slice ia' il ic') il (ins.map (Value.int .i64))) := by show World.ownsRow ..; rw [hX2]; exact own_set9E HO2.out (by omega)
  have HQ2' : Hid (X2.ownsRow (N + 2) 3 1 (.slice oa' ol oc') ol (outs.map (Value.int .i64))) := by show World.ownsRow ..; rw [hX2]; exact own_set9E HQ2.out (by omega)
  rw [← hX2]
  clear hX2 HB2 HK2 HR2 HO2 HQ2 q0 q1 HB1' HK1' HR1' HO1'
  have k1 := cellAt HK2'.out 3 _ rfl
  go_wp2_with fail
  refine Calls.mono (cloneT_F sl sc sa ss _ HP.out.esl hs9 HP.out.csl HP.out.snil (stpW_below HP.out.S (by rw [← HNE.out]; exact HB2'.out))) ?_
  rintro e w3 ⟨sa', sc', rfl, ho3, hb3⟩
  have hz3 : N + 2 ≤ X2.heap.size := by have := ltHeap HR2'.out; omega
  have HB3 : Hid (Below N w w3) := HB2'.out.trans (hb3.mono (by omega))
  have hk3 := heap_later HK2'.out hb3
  have hr3 := heap_later HR2'.out hb3
  have ho1 := own_below HO2'.out hb3
  have ho2 := own_below HQ2'.out hb3
  have ho3' : w3.ownsRow (N + 2) 55 4 (.slice sa' sl sc') sl (stpsL ss) := own_mono9E ho3 hz3
  have q0 := cellAt hk3 3 _ rfl
  have q1 : w3.frozen? ⟨N, 3, none⟩ = false := frozen_of_row _ _ _ _ _ hk3
  have HK3 : Hid _ := hk3
  have HR3 : Hid _ := hr3
  have HO1 : Hid _ := ho1
  have HO2 : Hid _ := ho2
  have HO3 : Hid _ := ho3'
  clear ho3 hb3 k1 hz3 hk3 hr3 ho1 ho2 ho3'
  go_upto_region 4 with fail
  obtain ⟨X3, hX3⟩ : ∃ X3, X3 = w3.setCell ⟨N, 3, none⟩ (.slice sa' sl sc') := ⟨_, rfl⟩
  have hb3 : Below N w X3 := by rw [hX3]; exact HB3.out.setCell (p := ⟨N, 3, none⟩) (Nat.le_refl _) _
  have hk3 : X3.heap[N]? = some (.cells #[.slice ia' il ic', .slice oa' ol oc', .int .i64 rg, .slice sa' sl sc'] 25 (0, 0)) := by rw [hX3, heap_setCell_same _ _ _ _ _ _ HK3.out]; rfl
  have hr3 : X3.heap[N + 1]? = some (.cells #[.slice none 0 0, .slice none 0 0, .int .i64 0, .slice none 0 0] 25 (0, 0)) := by rw [hX3]; exact (heap_setCell_other _ _ _ _ (by show N + 1 ≠ N; omega)).trans HR3.out
  have ho1 : X3.ownsRow (N + 2) 3 1 (.slice ia' il ic') il (ins.map (Value.int .i64)) := by rw [hX3]; exact own_set9E HO1.out (by omega)
  have ho2 : X3.ownsRow (N + 2) 3 1 (.slice oa' ol oc') ol (outs.map (Value.int .i64)) := by rw [hX3]; exact own_set9E HO2.out (by omega)
  have ho3 : X3.ownsRow (N + 2) 55 4 (.slice sa' sl sc') sl (stpsL ss) := by rw [hX3]; exact own_set9E HO3.out (by omega)
  rw [← hX3]
  clear hX3 HK3 HR3 HO1 HO2 HO3 HB3 HB2' HK2' HR2' HO2' HQ2' q0 q1
  have a0 := cellAt hk3 0 _ rfl
  have a1 := cellAt hk3 1 _ rfl
  have a2 := cellAt hk3 2 _ rfl
  have a3 := cellAt hk3 3 _ rfl
  have d0 := cellAt hr3 0 _ rfl
  have d1 := cellAt hr3 1 _ rfl
  have d2 := cellAt hr3 2 _ rfl
  have d3 := cellAt hr3 3 _ rfl
  have e0 : X3.frozen? ⟨N + 1, 0, none⟩ = false := frozen_of_row _ _ _ _ _ hr3
  have e1 : X3.frozen? ⟨N + 1, 1, none⟩ = false := frozen_of_row _ _ _ _ _ hr3
  have e2 : X3.frozen? ⟨N + 1, 2, none⟩ = false := frozen_of_row _ _ _ _ _ hr3
  have e3 : X3.frozen? ⟨N + 1, 3, none⟩ = false := frozen_of_row _ _ _ _ _ hr3
  have z3 := ltHeap hr3
  have HB3 : Hid _ := hb3
  have HO1 : Hid _ := ho1
  have HO2 : Hid _ := ho2
  have HO3 : Hid _ := ho3
  clear hb3 hk3 hr3 ho1 ho2 ho3
  go_wp2
  refine bodyPost_ret (v := .agg #[.slice ia' il ic', .slice oa' ol oc', .int .i64 rg, .slice sa' sl sc']) (by simp [results, Tryd.results22, go_sem, d0, d1, d2, d3, z3]) rfl ⟨ia', ic', oa', oc', sa', sc', rfl, ?_, ?_, ?_, ?_⟩
  · rw [← HNE.out]; exact own_mono9E (own_set9E (own_set9E (own_set9E (own_set9E HO1.out (by omega)) (by omega)) (by omega)) (by omega)) (by omega)
  · rw [← HNE.out]; exact own_mono9E (own_set9E (own_set9E (own_set9E (own_set9E HO2.out (by omega)) (by omega)) (by omega)) (by omega)) (by omega)
  · rw [← HNE.out]; exact own_mono9E (own_set9E (own_set9E (own_set9E (own_set9E HO3.out (by omega)) (by omega)) (by omega)) (by omega)) (by omega)
  · rw [← HNE.out]; exact (((HB3.out.setCell (by simp) _).setCell (by simp) _).setCell (by simp) _).setCell (by simp) _
end Go.Proofs.YtoalbopcapgojabDoor

/- What each operation of exec's Run does to the machine's registers and outputs. -/
namespace Go.Proofs.YtoalbopcapgojabDoor
open Go.RowKit Gf
set_option linter.unusedVariables false
set_option maxRecDepth 20000
set_option linter.unusedSimpArgs false
/-- a machine that runs, in memory -/
structure RnW (B : Nat) (w : World) (cb M Q Fd n rg no il : Nat) (v0 v1 v2 v3 v6 : Value) (fd : Nat → Option (Option Addr × Nat)) (X : Int → Nat → F) (f : Nat → Option Addr × Nat) (g : Nat → Option (Option Addr × Nat)) (R O : Regs) : Prop where
  blk : w.heap[cb]? = some (.cells #[v0, v1, v2, v3, .int .i64 n, .slice (some ⟨Fd, 0, none⟩) il il, v6, .slice (some ⟨M, 0, none⟩) rg rg, .slice (some ⟨Q, 0, none⟩) no no] 58 (0, 0))
  regs : RowsW w M rg n f (fun k => R (k : Int))
  outs : w.heap[Q]? = some (.cells (slO no n g) 26 (0, 0))
  out : ∀ d, d < no → ∀ p, g d = some p → Row8T w p.1 (rowF n (O (d : Int))) ∧ n ≤ p.2 ∧ (p.1 = none → p.2 = 0)
  fed : w.heap[Fd]? = some (.cells (slO il n fd) 26 (0, 0))
  frow : ∀ i, i < il → ∃ p, fd i = some p ∧ Row8T w p.1 (rowF n (X (i : Int))) ∧ n ≤ p.2 ∧ (p.1 = none → p.2 = 0)
  hM : B ≤ M
  hQ : B ≤ Q
  hMQ : M ≠ Q
  hcM : cb ≠ M
  hcQ : cb ≠ Q
  hFM : Fd ≠ M
  hFQ : Fd ≠ Q
variable {B cb M Q Fd n rg no il : Nat} {v0 v1 v2 v3 v6 : Value} {fd : Nat → Option (Option Addr × Nat)} {X : Int → Nat → F} {f : Nat → Option Addr × Nat} {g : Nat → Option (Option Addr × Nat)} {R O : Regs}
theorem RnW.below {w w' : World} (h : RnW B w cb M Q Fd n rg no il v0 v1 v2 v3 v6 fd X f g R O) (hb : Below w.heap.size w w') : RnW B w' cb M Q Fd n rg no il v0 v1 v2 v3 v6 fd X f g R O :=
  { h with blk := heap_later h.blk hb, regs := h.regs.below hb, outs := heap_later h.outs hb, out := fun d hd p hp => ⟨row8T_below (h.out d hd p hp).1 hb, (h.out d hd p hp).2⟩, fed := heap_later h.fed hb, frow := fun i hi => by obtain ⟨p, h1, h2, h3⟩ := h.frow i hi; exact ⟨p, h1, row8T_below h2 hb, h3⟩ }
theorem RnW.drew {w : World} (h : RnW B w cb M Q Fd n rg no il v0 v1 v2 v3 v6 fd X f g R O) : RnW B w.drew cb M Q Fd n rg no il v0 v1 v2 v3 v6 fd X f g R O :=
  { h with blk := h.blk, regs := h.regs.drew, outs := h.outs, out := h.out, fed := h.fed, frow := h.frow }
theorem RnW.put {w : World} (h : RnW B w cb M Q Fd n rg no il v0 v1 v2 v3 v6 fd X f g R O) {k : Nat} (hk : k < rg) {a : Option Addr} {m : Nat} {v : Nat → F} (ha : Row8T w a (rowF n v)) (hm : n ≤ m) (hn : a = none → m = 0) :
    RnW B (w.setCell ⟨M, k, none⟩ (.slice a n m)) cb M Q Fd n rg no il v0 v1 v2 v3 v6 fd X (fun x => if x = k then (a, m) else f x) g (setR R k v) O := by
  have hg : w.grownBy (w.setCell ⟨M, k, none⟩ (.slice a n m)) (some M) := grownBy_setCell (World.grownBy.refl _ _) _
  refine { h with blk := ?_, regs := ?_, outs := ?_, out := fun d hd p hp => ⟨?_, (h.out d hd p hp).2⟩, fed := ?_, frow := fun i hi => ?_ }
  · exact (heap_setCell_other _ _ _ _ h.hcM).trans h.blk
  · refine (h.regs.put hk ha hm hn).congr fun x hx j hj => ?_
    simp only [setR]
    by_cases e : x = k
    · simp [e]
    · simp [e, show ¬ (x : Int) = (k : Int) by omega]
  · exact (heap_setCell_other _ _ _ _ (fun e => h.hMQ e.symm)).trans h.outs
  · exact row8_other h.regs.blk hg (h.out d hd p hp).1
  · exact (heap_setCell_other _ _ _ _ h.hFM).trans h.fed
  · obtain ⟨p, h1, h2, h3⟩ := h.frow i hi
    exact ⟨p, h1, row8_other h.regs.blk hg h2, h3⟩
theorem RnW.putO {w : World} (h : RnW B w cb M Q Fd n rg no il v0 v1 v2 v3 v6 fd X f g R O) {d k : Nat} (hd : d < no) (hk : k < rg) :
    RnW B (w.setCell ⟨Q, d, none⟩ (.slice (f k).1 n (f k).2)) cb M Q Fd n rg no il v0 v1 v2 v3 v6 fd X f (fun x => if x = d then some (f k) else g x) R (setR O d (R k)) := by
  have hg : w.grownBy (w.setCell ⟨Q, d, none⟩ (.slice (f k).1 n (f k).2)) (some Q) := grownBy_setCell (World.grownBy.refl _ _) _
  have hne : NoElems w (some Q) := noElems_some h.outs (by decide)
  refine { h with blk := ?_, regs := ?_, outs := ?_, out := fun x hx p hp => ?_, fed := ?_, frow := fun i hi => ?_ }
  · exact (heap_setCell_other _ _ _ _ h.hcQ).trans h.blk
  · exact ⟨(heap_setCell_other _ _ _ _ h.hMQ).trans h.regs.blk, fun x hx => row8T_grown (h.regs.row x hx) hg hne, h.regs.cap, h.regs.nil⟩
  · rw [heap_setCell_same _ _ _ _ _ _ h.outs, slO_set (f k) hd]
  · by_cases e : x = d
    · subst e
      simp only [if_true, Option.some.injEq] at hp
      subst hp
      rw [setR_same]
      exact ⟨row8T_grown (h.regs.row k hk) hg hne, h.regs.cap k hk, h.regs.nil k hk⟩
    · simp only [e, if_false] at hp
      rw [setR_other (show (x : Int) ≠ (d : Int) by omega)]
      exact ⟨row8T_grown (h.out x hx p hp).1 hg hne, (h.out x hx p hp).2⟩
  · exact (heap_setCell_other _ _ _ _ h.hFQ).trans h.fed
  · obtain ⟨p, h1, h2, h3⟩ := h.frow i hi
    exact ⟨p, h1, row8T_grown h2 hg hne, h3⟩
theorem noughts_F (cb n : Nat) (w : World) (hn : n ≤ 64) (hc : w.cell? ⟨cb, 4, none⟩ = some (.int .i64 n)) :
    Calls Tryd.prog 25 #[.pointer (some ⟨cb, 0, none⟩)] w fun e w' => e = .returned (.slice (some ⟨w.heap.size, 0, none⟩) n n) ∧ w' = w.alloc (.cells (vfs (zeros n)) 5) := by
  have hmk := run_make8 n (by omega) w
  go_enter Tryd.func25, Tryd.ntmps25
  go_wp2
  go_ret
  exact ⟨rfl, rfl⟩
set_option maxRecDepth 100000 in
set_option maxHeartbeats 4000000 in
theorem xdoes_zero (B cb M Q Fd n rg no il : Nat) (v0 v1 v2 v3 v6 : Value) (fd : Nat → Option (Option Addr × Nat)) (X : Int → Nat → F) (f : Nat → Option Addr × Nat) (g : Nat → Option (Option Addr × Nat)) (R O : Regs) (op : Int) (dst : Nat) (src cv : Int) (hd : dst < rg) (w : World) (hn : n ≤ 64) (hrg : rg ≤ 64) (hno : no ≤ 64) (hBw : B ≤ w.heap.size) (h : RnW B w cb M Q Fd n rg no il v0 v1 v2 v3 v6 fd X f g R O) :
    Calls Tryd.prog 36 #[.pointer (some ⟨cb, 0, none⟩), .agg #[.int .i64 op, .int .i64 (dst : Int), .int .i64 src, .int .u8 cv]] w fun e w' => e = .returned (.tuple #[]) ∧ (∃ f' g', RnW B w' cb M Q Fd n rg no il v0 v1 v2 v3 v6 fd X f' g' (setR R (dst : Int) (fun _ => 0)) (O) ∧ g' = g) ∧ Below B w w' ∧ (∀ (k : Nat) (o : Obj), k ≠ M → k ≠ Q → w.heap[k]? = some o → w'.heap[k]? = some o) := by
  obtain ⟨W, hW⟩ : ∃ W, W = w.alloc (.cells #[.int .i64 op, .int .i64 (dst : Int), .int .i64 src, .int .u8 cv] 55) := ⟨_, rfl⟩
  have hBW : Below w.heap.size w W := by rw [hW]; exact (Below.refl _ _).alloc (Nat.le_refl _) _
  have hbox : W.heap[w.heap.size]? = some (.cells #[.int .i64 op, .int .i64 (dst : Int), .int .i64 src, .int .u8 cv] 55 (0, 0)) := by rw [hW]; exact heap_alloc_last _ _
  have HNE : Hid (w.heap.size ≠ M) := by have := ltHeap h.regs.blk; show _ ≠ _; omega
  have HCW : Hid _ := h.below hBW
  have HBOX : Hid _ := hbox
  have HBW : Hid _ := hBW
  have HWE : Hid _ := hW
  clear h hBW hbox hW
  have HK1 : Hid (∀ u, W.grownBy u (some M) → u.cell? ⟨cb, 7, none⟩ = some (.slice (some ⟨M, 0, none⟩) rg rg)) := fun u hu => cellAt ((hu.block cb (ltHeap HCW.out.blk) (by simpa using HCW.out.hcM)).trans HCW.out.blk) 7 _ rfl
  have HS0 : Hid (∀ u, W.grownBy u (some M) → u.cell? ⟨w.heap.size, 1, none⟩ = some (.int .i64 (dst : Int))) := fun u hu => cellAt ((hu.block w.heap.size (ltHeap HBOX.out) (by simpa using HNE.out)).trans HBOX.out) 1 _ rfl
  go_enter Tryd.func36, Tryd.ntmps36
  go_wp2
  rw [← HWE.out]
  clear HWE
  refine wp_region_noPanic ?_
  refine wp_region_held_drew (S := fun u => W.grownBy u (some M)) (by kernel_rfl) ?_ (fun hHeld => ?_)
  · exact grownBy_drew (World.grownBy.refl _ _)
  refine wpAnyH_take (i := 0) (oi := { dst := some 4, op := Op.move (Operand.tmp 0), type := 31, pos := "exec.go:107", after := #[], guard := none }) (v := ?_) rfl (by kernel_rfl) (by kernel_rfl) (by kernel_rfl) (fun _ _ _ h => h) (Or.inl ⟨by rfl, ?_⟩) hHeld ?_
  rotate_left
  · intro u hSw
    go_simp
    try with_reducible rfl
  try simp only [Act.put, List.setIfInBounds_toArray, List.set_cons_zero, List.set_cons_succ]
  refine wpAnyH_take (i := 1) (oi := { dst := some 5, op := Op.nilCheck (Operand.tmp 4), type := 0, pos := "exec.go:107", after := #[{ on := 0, ground := Ground.data }], guard := none }) (v := ?_) rfl (by kernel_rfl) (by kernel_rfl) (by kernel_rfl) (fun _ _ _ h => h) (Or.inl ⟨by rfl, ?_⟩) hHeld ?_
  rotate_left
  · intro u hSw
    go_simp
    try with_reducible rfl
  try simp only [Act.put, List.setIfInBounds_toArray, List.set_cons_zero, List.set_cons_succ]
  refine wpAnyH_take (i := 2) (oi := { dst := some 6, op := Op.fieldAddr 58 (Operand.tmp 5) 4, type := 0, pos := "exec.go:107", after := #[{ on := 1, ground := Ground.data }], guard := none }) (v := ?_) rfl (by kernel_rfl) (by kernel_rfl) (by kernel_rfl) (fun _ _ _ h => h) (Or.inl ⟨by rfl, ?_⟩) hHeld ?_
  rotate_left
  · intro u hSw
    go_simp
    try with_reducible rfl
  try simp only [Act.put, List.setIfInBounds_toArray, List.set_cons_zero, List.set_cons_succ]
  refine wpAnyH_take (i := 3) (oi := { dst := some 7, op := Op.load 29 (Operand.tmp 6), type := 29, pos := "exec.go:107", after := #[{ on := 2, ground := Ground.data }], guard := none }) (v := ?_) rfl (by kernel_rfl) (by kernel_rfl) (by kernel_rfl) (fun _ _ _ h => h) (Or.inl ⟨by rfl, ?_⟩) hHeld ?_
  rotate_left
  · intro u hSw
    have k9 := HK1.out u hSw
    go_simp
    try with_reducible rfl
  try simp only [Act.put, List.setIfInBounds_toArray, List.set_cons_zero, List.set_cons_succ]
  refine wpAnyH_take (i := 4) (oi := { dst := some 8, op := Op.fieldAddr 55 (Operand.tmp 3) 1, type := 0, pos := "exec.go:107", after := #[], guard := none }) (v := ?_) rfl (by kernel_rfl) (by kernel_rfl) (by kernel_rfl) (fun _ _ _ h => h) (Or.inl ⟨by rfl, ?_⟩) hHeld ?_
  rotate_left
  · intro u hSw
    go_simp
    try with_reducible rfl
  try simp only [Act.put, List.setIfInBounds_toArray, List.set_cons_zero, List.set_cons_succ]
  refine wpAnyH_take (i := 5) (oi := { dst := some 9, op := Op.load 3 (Operand.tmp 8), type := 3, pos := "exec.go:107", after := #[{ on := 4, ground := Ground.data }], guard := none }) (v := ?_) rfl (by kernel_rfl) (by kernel_rfl) (by kernel_rfl) (fun _ _ _ h => h) (Or.inl ⟨by rfl, ?_⟩) hHeld ?_
  rotate_left
  · intro u hSw
    have k9 := HS0.out u hSw
    go_simp
    try with_reducible rfl
  try simp only [Act.put, List.setIfInBounds_toArray, List.set_cons_zero, List.set_cons_succ]
  refine wpAnyH_take (i := 6) (oi := { dst := some 10, op := Op.move (Operand.tmp 0), type := 31, pos := "exec.go:107", after := #[], guard := none }) (v := ?_) rfl (by kernel_rfl) (by kernel_rfl) (by kernel_rfl) (fun _ _ _ h => h) (Or.inl ⟨by rfl, ?_⟩) hHeld ?_
  rotate_left
  · intro u hSw
    go_simp
    try with_reducible rfl
  try simp only [Act.put, List.setIfInBounds_toArray, List.set_cons_zero, List.set_cons_succ]
  refine wpAnyH_ready (rs := [7]) (by kernel_rfl) (by simp) ?_
  refine (AllReadyH.cons (o := { dst := some 11, op := Op.call { callee := Callee.value (Operand.func 25), args := #[Operand.tmp 10], argTypes := #[31] }, type := 26, pos := "exec.go:107", after := #[{ on := 6, ground := Ground.data }], guard := none }) rfl (fun K hK => ?_) AllReadyH.nil)
  go_simp
  refine Calls.mono (noughts_F cb n _ hn (cellAt HCW.out.drew.blk 4 _ rfl)) ?_
  rintro e w6 ⟨rfl, hw6⟩
  have hb6 : Below W.drew.heap.size W.drew w6 := by rw [hw6]; exact (Below.refl _ _).alloc (Nat.le_refl _) _
  have hr6 : w6.heap[W.heap.size]? = some (.cells (vfs (zeros n)) 5 (0, 0)) := by rw [hw6]; exact heap_alloc_last _ _
  have hC6 := HCW.out.drew.below hb6
  have hS6 : W.grownBy w6 (some M) := grown_below (grownBy_drew (World.grownBy.refl _ _)) hb6
  clear hw6
  go_wp2_with fail
  refine hK.out _ _ ?_ (fun hHeld => ?_)
  · exact hS6
  clear hK K
  try simp only [Act.put, List.setIfInBounds_toArray, List.set_cons_zero, List.set_cons_succ]
  refine wpAnyH_take (i := 8) (oi := { dst := some 12, op := Op.indexAddr 29 (Operand.tmp 7) (Operand.tmp 9), type := 0, pos := "exec.go:107", after := #[{ on := 3, ground := Ground.data }, { on := 5, ground := Ground.data }, { on := 0, ground := Ground.phase }, { on := 1, ground := Ground.phase }, { on := 2, ground := Ground.phase }, { on := 3, ground := Ground.phase }, { on := 4, ground := Ground.phase }, { on := 5, ground := Ground.phase }, { on := 6, ground := Ground.phase }, { on := 7, ground := Ground.phase }], guard := none }) (v := ?_) rfl (by kernel_rfl) (by kernel_rfl) (by kernel_rfl) (fun _ _ _ h => h) (Or.inl ⟨by rfl, ?_⟩) hHeld ?_
  rotate_left
  · intro u hSw
    go_simp
    try with_reducible rfl
  try simp only [Act.put, List.setIfInBounds_toArray, List.set_cons_zero, List.set_cons_succ]
  refine wpAnyH_ready (rs := [9]) (by kernel_rfl) (by simp) ?_
  refine (AllReadyH.cons (o := { dst := none, op := Op.store 26 (Operand.tmp 12) (Operand.tmp 11), type := 0, pos := "exec.go:107", after := #[{ on := 8, ground := Ground.data }, { on := 7, ground := Ground.data }, { on := 7, ground := Ground.chain }, { on := 0, ground := Ground.phase }, { on := 1, ground := Ground.phase }, { on := 2, ground := Ground.phase }, { on := 3, ground := Ground.phase }, { on := 4, ground := Ground.phase }, { on := 5, ground := Ground.phase }, { on := 6, ground := Ground.phase }, { on := 7, ground := Ground.phase }], guard := none }) rfl (fun K hK => ?_) AllReadyH.nil)
  have hblk := hC6.regs.blk
  have d8 : w6.frozen? ⟨M, dst, none⟩ = false := frozen_of_row _ _ _ _ _ hblk
  have d9 := cellAt hblk dst _ (slF_at hd)
  go_simp
  refine hK.out _ _ ?_ (fun hHeld => ?_)
  · exact grownBy_setCell hS6 _
  clear hK K
  try simp only [Act.put, List.setIfInBounds_toArray, List.set_cons_zero, List.set_cons_succ]
  refine wpAnyH_done (by kernel_rfl) ?_ _
  refine NoPanic.normal ?_
  have HP : Hid _ := hC6.put hd (a := some ⟨W.heap.size, 0, none⟩) (m := n) (v := fun _ => 0) (by rw [← zeros_rowF]; exact row8T_own hr6) (Nat.le_refl _) (fun e => by cases e)
  have HPB : Hid _ := (((HBW.out.mono hBw).drew).trans (hb6.mono (by have := HBW.out.size; simp; omega))).setCell (p := ⟨M, dst, none⟩) HCW.out.hM (.slice (some ⟨W.heap.size, 0, none⟩) n n)
  have HKX : Hid (∀ (k : Nat) (o : Obj), k ≠ M → k ≠ Q → w.heap[k]? = some o → (w6.setCell ⟨M, dst, none⟩ (.slice (some ⟨W.heap.size, 0, none⟩) n n)).heap[k]? = some o) := fun k o h1 _ ho => (heap_setCell_other _ _ _ _ h1).trans (heap_later (w := W.drew) (show W.heap[k]? = some o from heap_later ho HBW.out) hb6)
  go_wp2
  exact ⟨rfl, .tuple #[], by simp [results, Tryd.results36, go_sem], rfl, ⟨_, _, HP.out, rfl⟩, HPB.out, HKX.out⟩
set_option maxRecDepth 100000 in
set_option maxHeartbeats 4000000 in
theorem xdoes_mul (B cb M Q Fd n rg no il : Nat) (v0 v1 v2 v3 v6 : Value) (fd : Nat → Option (Option Addr × Nat)) (X : Int → Nat → F) (f : Nat → Option Addr × Nat) (g : Nat → Option (Option Addr × Nat)) (R O : Regs) (op : Int) (dst : Nat) (src : Int) (c : F) (hd : dst < rg) (w : World) (hn : n ≤ 64) (hrg : rg ≤ 64) (hno : no ≤ 64) (hBw : B ≤ w.heap.size) (h : RnW B w cb M Q Fd n rg no il v0 v1 v2 v3 v6 fd X f g R O) :
    Calls Tryd.prog 37 #[.pointer (some ⟨cb, 0, none⟩), .agg #[.int .i64 op, .int .i64 (dst : Int), .int .i64 src, .int .u8 (c.toNat : Int)]] w fun e w' => e = .returned (.tuple #[]) ∧ (∃ f' g', RnW B w' cb M Q Fd n rg no il v0 v1 v2 v3 v6 fd X f' g' (setR R (dst : Int) (fun b => gm c (R (dst : Int) b))) (O) ∧ g' = g) ∧ Below B w w' ∧ (∀ (k : Nat) (o : Obj), k ≠ M → k ≠ Q → w.heap[k]? = some o → w'.heap[k]? = some o) := by
  obtain ⟨W, hW⟩ : ∃ W, W = w.alloc (.cells #[.int .i64 op, .int .i64 (dst : Int), .int .i64 src, .int .u8 (c.toNat : Int)] 55) := ⟨_, rfl⟩
  have hBW : Below w.heap.size w W := by rw [hW]; exact (Below.refl _ _).alloc (Nat.le_refl _) _
  have hbox : W.heap[w.heap.size]? = some (.cells #[.int .i64 op, .int .i64 (dst : Int), .int .i64 src, .int .u8 (c.toNat : Int)] 55 (0, 0)) := by rw [hW]; exact heap_alloc_last _ _
  have HNE : Hid (w.heap.size ≠ M) := by have := ltHeap h.regs.blk; show _ ≠ _; omega
  have HCW : Hid _ := h.below hBW
  have HBOX : Hid _ := hbox
  have HBW : Hid _ := hBW
  have HWE : Hid _ := hW
  clear h hBW hbox hW
  have HK1 : Hid (∀ u, W.grownBy u (some M) → u.cell? ⟨cb, 7, none⟩ = some (.slice (some ⟨M, 0, none⟩) rg rg)) := fun u hu => cellAt ((hu.block cb (ltHeap HCW.out.blk) (by simpa using HCW.out.hcM)).trans HCW.out.blk) 7 _ rfl
  have HS0 : Hid (∀ u, W.grownBy u (some M) → u.cell? ⟨w.heap.size, 1, none⟩ = some (.int .i64 (dst : Int))) := fun u hu => cellAt ((hu.block w.heap.size (ltHeap HBOX.out) (by simpa using HNE.out)).trans HBOX.out) 1 _ rfl
  have HS2 : Hid (∀ u, W.grownBy u (some M) → u.cell? ⟨w.heap.size, 2, none⟩ = some (.int .i64 src)) := fun u hu => cellAt ((hu.block w.heap.size (ltHeap HBOX.out) (by simpa using HNE.out)).trans HBOX.out) 2 _ rfl
  have HS3 : Hid (∀ u, W.grownBy u (some M) → u.cell? ⟨w.heap.size, 3, none⟩ = some (.int .u8 (c.toNat : Int))) := fun u hu => cellAt ((hu.block w.heap.size (ltHeap HBOX.out) (by simpa using HNE.out)).trans HBOX.out) 3 _ rfl
  go_enter Tryd.func37, Tryd.ntmps37
  go_wp2
  rw [← HWE.out]
  clear HWE
  refine wp_region_noPanic ?_
  refine wp_region_held_drew (S := fun u => W.grownBy u (some M)) (by kernel_rfl) ?_ (fun hHeld => ?_)
  · exact grownBy_drew (World.grownBy.refl _ _)
  refine wpAnyH_take (i := 0) (oi := { dst := some 4, op := Op.move (Operand.tmp 0), type := 31, pos := "exec.go:111", after := #[], guard := none }) (v := ?_) rfl (by kernel_rfl) (by kernel_rfl) (by kernel_rfl) (fun _ _ _ h => h) (Or.inl ⟨by rfl, ?_⟩) hHeld ?_
  rotate_left
  · intro u hSw
    go_simp
    try with_reducible rfl
  try simp only [Act.put, List.setIfInBounds_toArray, List.set_cons_zero, List.set_cons_succ]
  refine wpAnyH_take (i := 1) (oi := { dst := some 5, op := Op.nilCheck (Operand.tmp 4), type := 0, pos := "exec.go:111", after := #[{ on := 0, ground := Ground.data }], guard := none }) (v := ?_) rfl (by kernel_rfl) (by kernel_rfl) (by kernel_rfl) (fun _ _ _ h => h) (Or.inl ⟨by rfl, ?_⟩) hHeld ?_
  rotate_left
  · intro u hSw
    go_simp
    try with_reducible rfl
  try simp only [Act.put, List.setIfInBounds_toArray, List.set_cons_zero, List.set_cons_succ]
  refine wpAnyH_take (i := 2) (oi := { dst := some 6, op := Op.fieldAddr 58 (Operand.tmp 5) 4, type := 0, pos := "exec.go:111", after := #[{ on := 1, ground := Ground.data }], guard := none }) (v := ?_) rfl (by kernel_rfl) (by kernel_rfl) (by kernel_rfl) (fun _ _ _ h => h) (Or.inl ⟨by rfl, ?_⟩) hHeld ?_
  rotate_left
  · intro u hSw
    go_simp
    try with_reducible rfl
  try simp only [Act.put, List.setIfInBounds_toArray, List.set_cons_zero, List.set_cons_succ]
  refine wpAnyH_take (i := 3) (oi := { dst := some 7, op := Op.load 29 (Operand.tmp 6), type := 29, pos := "exec.go:111", after := #[{ on := 2, ground := Ground.data }], guard := none }) (v := ?_) rfl (by kernel_rfl) (by kernel_rfl) (by kernel_rfl) (fun _ _ _ h => h) (Or.inl ⟨by rfl, ?_⟩) hHeld ?_
  rotate_left
  · intro u hSw
    have k9 := HK1.out u hSw
    go_simp
    try with_reducible rfl
  try simp only [Act.put, List.setIfInBounds_toArray, List.set_cons_zero, List.set_cons_succ]
  refine wpAnyH_take (i := 4) (oi := { dst := some 8, op := Op.fieldAddr 55 (Operand.tmp 3) 1, type := 0, pos := "exec.go:111", after := #[], guard := none }) (v := ?_) rfl (by kernel_rfl) (by kernel_rfl) (by kernel_rfl) (fun _ _ _ h => h) (Or.inl ⟨by rfl, ?_⟩) hHeld ?_
  rotate_left
  · intro u hSw
    go_simp
    try with_reducible rfl
  try simp only [Act.put, List.setIfInBounds_toArray, List.set_cons_zero, List.set_cons_succ]
  refine wpAnyH_take (i := 5) (oi := { dst := some 9, op := Op.load 3 (Operand.tmp 8), type := 3, pos := "exec.go:111", after := #[{ on := 4, ground := Ground.data }], guard := none }) (v := ?_) rfl (by kernel_rfl) (by kernel_rfl) (by kernel_rfl) (fun _ _ _ h => h) (Or.inl ⟨by rfl, ?_⟩) hHeld ?_
  rotate_left
  · intro u hSw
    have k9 := HS0.out u hSw
    go_simp
    try with_reducible rfl
  try simp only [Act.put, List.setIfInBounds_toArray, List.set_cons_zero, List.set_cons_succ]
  refine wpAnyH_take (i := 6) (oi := { dst := some 10, op := Op.fieldAddr 55 (Operand.tmp 3) 3, type := 0, pos := "exec.go:111", after := #[], guard := none }) (v := ?_) rfl (by kernel_rfl) (by kernel_rfl) (by kernel_rfl) (fun _ _ _ h => h) (Or.inl ⟨by rfl, ?_⟩) hHeld ?_
  rotate_left
  · intro u hSw
    go_simp
    try with_reducible rfl
  try simp only [Act.put, List.setIfInBounds_toArray, List.set_cons_zero, List.set_cons_succ]
  refine wpAnyH_take (i := 7) (oi := { dst := some 11, op := Op.load 5 (Operand.tmp 10), type := 5, pos := "exec.go:111", after := #[{ on := 6, ground := Ground.data }], guard := none }) (v := ?_) rfl (by kernel_rfl) (by kernel_rfl) (by kernel_rfl) (fun _ _ _ h => h) (Or.inl ⟨by rfl, ?_⟩) hHeld ?_
  rotate_left
  · intro u hSw
    have k9 := HS3.out u hSw
    go_simp
    try with_reducible rfl
  try simp only [Act.put, List.setIfInBounds_toArray, List.set_cons_zero, List.set_cons_succ]
  refine wpAnyH_take (i := 8) (oi := { dst := some 12, op := Op.move (Operand.tmp 0), type := 31, pos := "exec.go:111", after := #[], guard := none }) (v := ?_) rfl (by kernel_rfl) (by kernel_rfl) (by kernel_rfl) (fun _ _ _ h => h) (Or.inl ⟨by rfl, ?_⟩) hHeld ?_
  rotate_left
  · intro u hSw
    go_simp
    try with_reducible rfl
  try simp only [Act.put, List.setIfInBounds_toArray, List.set_cons_zero, List.set_cons_succ]
  refine wpAnyH_take (i := 9) (oi := { dst := some 13, op := Op.nilCheck (Operand.tmp 12), type := 0, pos := "exec.go:111", after := #[{ on := 8, ground := Ground.data }], guard := none }) (v := ?_) rfl (by kernel_rfl) (by kernel_rfl) (by kernel_rfl) (fun _ _ _ h => h) (Or.inl ⟨by rfl, ?_⟩) hHeld ?_
  rotate_left
  · intro u hSw
    go_simp
    try with_reducible rfl
  try simp only [Act.put, List.setIfInBounds_toArray, List.set_cons_zero, List.set_cons_succ]
  refine wpAnyH_take (i := 10) (oi := { dst := some 14, op := Op.fieldAddr 58 (Operand.tmp 13) 4, type := 0, pos := "exec.go:111", after := #[{ on := 9, ground := Ground.data }], guard := none }) (v := ?_) rfl (by kernel_rfl) (by kernel_rfl) (by kernel_rfl) (fun _ _ _ h => h) (Or.inl ⟨by rfl, ?_⟩) hHeld ?_
  rotate_left
  · intro u hSw
    go_simp
    try with_reducible rfl
  try simp only [Act.put, List.setIfInBounds_toArray, List.set_cons_zero, List.set_cons_succ]
  refine wpAnyH_take (i := 11) (oi := { dst := some 15, op := Op.load 29 (Operand.tmp 14), type := 29, pos := "exec.go:111", after := #[{ on := 10, ground := Ground.data }], guard := none }) (v := ?_) rfl (by kernel_rfl) (by kernel_rfl) (by kernel_rfl) (fun _ _ _ h => h) (Or.inl ⟨by rfl, ?_⟩) hHeld ?_
  rotate_left
  · intro u hSw
    have k9 := HK1.out u hSw
    go_simp
    try with_reducible rfl
  try simp only [Act.put, List.setIfInBounds_toArray, List.set_cons_zero, List.set_cons_succ]
  refine wpAnyH_take (i := 12) (oi := { dst := some 16, op := Op.fieldAddr 55 (Operand.tmp 3) 1, type := 0, pos := "exec.go:111", after := #[], guard := none }) (v := ?_) rfl (by kernel_rfl) (by kernel_rfl) (by kernel_rfl) (fun _ _ _ h => h) (Or.inl ⟨by rfl, ?_⟩) hHeld ?_
  rotate_left
  · intro u hSw
    go_simp
    try with_reducible rfl
  try simp only [Act.put, List.setIfInBounds_toArray, List.set_cons_zero, List.set_cons_succ]
  refine wpAnyH_take (i := 13) (oi := { dst := some 17, op := Op.load 3 (Operand.tmp 16), type := 3, pos := "exec.go:111", after := #[{ on := 12, ground := Ground.data }], guard := none }) (v := ?_) rfl (by kernel_rfl) (by kernel_rfl) (by kernel_rfl) (fun _ _ _ h => h) (Or.inl ⟨by rfl, ?_⟩) hHeld ?_
  rotate_left
  · intro u hSw
    have k9 := HS0.out u hSw
    go_simp
    try with_reducible rfl
  try simp only [Act.put, List.setIfInBounds_toArray, List.set_cons_zero, List.set_cons_succ]
  refine wpAnyH_take (i := 14) (oi := { dst := some 18, op := Op.indexAddr 29 (Operand.tmp 15) (Operand.tmp 17), type := 0, pos := "exec.go:111", after := #[{ on := 11, ground := Ground.data }, { on := 13, ground := Ground.data }], guard := none }) (v := ?_) rfl (by kernel_rfl) (by kernel_rfl) (by kernel_rfl) (fun _ _ _ h => h) (Or.inl ⟨by rfl, ?_⟩) hHeld ?_
  rotate_left
  · intro u hSw
    go_simp
    try with_reducible rfl
  try simp only [Act.put, List.setIfInBounds_toArray, List.set_cons_zero, List.set_cons_succ]
  refine wpAnyH_ready (rs := [15]) (by kernel_rfl) (by simp) ?_
  refine (AllReadyH.cons (o := { dst := some 19, op := Op.load 26 (Operand.tmp 18), type := 26, pos := "exec.go:111", after := #[{ on := 14, ground := Ground.data }], guard := none }) rfl (fun K hK => ?_) AllReadyH.nil)
  have m15 := cellAt HCW.out.drew.regs.blk dst _ (slF_at ‹dst < rg›)
  go_simp
  refine hK.out _ _ ?_ (fun hHeld => ?_)
  · exact grownBy_drew (World.grownBy.refl _ _)
  clear hK K
  try simp only [Act.put, List.setIfInBounds_toArray, List.set_cons_zero, List.set_cons_succ]
  refine wpAnyH_ready (rs := [16]) (by kernel_rfl) (by simp) ?_
  refine (AllReadyH.cons (o := { dst := some 20, op := Op.call { callee := Callee.value (Operand.func 42), args := #[Operand.tmp 11, Operand.tmp 19], argTypes := #[5, 26] }, type := 26, pos := "exec.go:111", after := #[{ on := 7, ground := Ground.data }, { on := 15, ground := Ground.data }], guard := none }) rfl (fun K hK => ?_) AllReadyH.nil)
  go_simp
  refine Calls.mono (scale_R c _ n _ _ _ (by omega) (HCW.out.drew.regs.row dst hd).row8) ?_
  rintro e w6 ⟨q6, rfl, hb6, hr6, hg6⟩
  have hC6 := HCW.out.drew.below hb6
  have hS6 : W.grownBy w6 (some M) := grown_below (grownBy_drew (World.grownBy.refl _ _)) hb6
  go_wp2_with fail
  refine hK.out _ _ ?_ (fun hHeld => ?_)
  · exact hS6
  clear hK K
  try simp only [Act.put, List.setIfInBounds_toArray, List.set_cons_zero, List.set_cons_succ]
  refine wpAnyH_take (i := 17) (oi := { dst := some 21, op := Op.indexAddr 29 (Operand.tmp 7) (Operand.tmp 9), type := 0, pos := "exec.go:111", after := #[{ on := 3, ground := Ground.data }, { on := 5, ground := Ground.data }, { on := 0, ground := Ground.phase }, { on := 1, ground := Ground.phase }, { on := 2, ground := Ground.phase }, { on := 3, ground := Ground.phase }, { on := 4, ground := Ground.phase }, { on := 5, ground := Ground.phase }, { on := 6, ground := Ground.phase }, { on := 7, ground := Ground.phase }, { on := 8, ground := Ground.phase }, { on := 9, ground := Ground.phase }, { on := 10, ground := Ground.phase }, { on := 11, ground := Ground.phase }, { on := 12, ground := Ground.phase }, { on := 13, ground := Ground.phase }, { on := 14, ground := Ground.phase }, { on := 15, ground := Ground.phase }, { on := 16, ground := Ground.phase }], guard := none }) (v := ?_) rfl (by kernel_rfl) (by kernel_rfl) (by kernel_rfl) (fun _ _ _ h => h) (Or.inl ⟨by rfl, ?_⟩) hHeld ?_
  rotate_left
  · intro u hSw
    go_simp
    try with_reducible rfl
  try simp only [Act.put, List.setIfInBounds_toArray, List.set_cons_zero, List.set_cons_succ]
  refine wpAnyH_ready (rs := [18]) (by kernel_rfl) (by simp) ?_
  refine (AllReadyH.cons (o := { dst := none, op := Op.store 26 (Operand.tmp 21) (Operand.tmp 20), type := 0, pos := "exec.go:111", after := #[{ on := 17, ground := Ground.data }, { on := 16, ground := Ground.data }, { on := 16, ground := Ground.chain }, { on := 0, ground := Ground.phase }, { on := 1, ground := Ground.phase }, { on := 2, ground := Ground.phase }, { on := 3, ground := Ground.phase }, { on := 4, ground := Ground.phase }, { on := 5, ground := Ground.phase }, { on := 6, ground := Ground.phase }, { on := 7, ground := Ground.phase }, { on := 8, ground := Ground.phase }, { on := 9, ground := Ground.phase }, { on := 10, ground := Ground.phase }, { on := 11, ground := Ground.phase }, { on := 12, ground := Ground.phase }, { on := 13, ground := Ground.phase }, { on := 14, ground := Ground.phase }, { on := 15, ground := Ground.phase }, { on := 16, ground := Ground.phase }], guard := none }) rfl (fun K hK => ?_) AllReadyH.nil)
  have hblk := hC6.regs.blk
  have d8 : w6.frozen? ⟨M, dst, none⟩ = false := frozen_of_row _ _ _ _ _ hblk
  have d9 := cellAt hblk dst _ (slF_at hd)
  go_simp
  refine hK.out _ _ ?_ (fun hHeld => ?_)
  · exact grownBy_setCell hS6 _
  clear hK K
  try simp only [Act.put, List.setIfInBounds_toArray, List.set_cons_zero, List.set_cons_succ]
  refine wpAnyH_done (by kernel_rfl) ?_ _
  refine NoPanic.normal ?_
  have HP : Hid _ := hC6.put hd (a := some ⟨q6, 0, none⟩) (m := n) (v := fun b => gm c (R (dst : Int) b)) hr6 (Nat.le_refl _) (fun e => by cases e)
  have HPB : Hid _ := (((HBW.out.mono hBw).drew).trans (hb6.mono (by have := HBW.out.size; simp; omega))).setCell (p := ⟨M, dst, none⟩) HCW.out.hM (.slice (some ⟨q6, 0, none⟩) n n)
  have HKX : Hid (∀ (k : Nat) (o : Obj), k ≠ M → k ≠ Q → w.heap[k]? = some o → (w6.setCell ⟨M, dst, none⟩ (.slice (some ⟨q6, 0, none⟩) n n)).heap[k]? = some o) := fun k o h1 _ ho => (heap_setCell_other _ _ _ _ h1).trans (heap_later (w := W.drew) (show W.heap[k]? = some o from heap_later ho HBW.out) hb6)
  go_wp2
  exact ⟨rfl, .tuple #[], by simp [results, Tryd.results37, go_sem], rfl, ⟨_, _, HP.out, rfl⟩, HPB.out, HKX.out⟩
set_option maxRecDepth 100000 in
set_option maxHeartbeats 4000000 in
theorem xdoes_add (B cb M Q Fd n rg no il : Nat) (v0 v1 v2 v3 v6 : Value) (fd : Nat → Option (Option Addr × Nat)) (X : Int → Nat → F) (f : Nat → Option Addr × Nat) (g : Nat → Option (Option Addr × Nat)) (R O : Regs) (op : Int) (dst : Nat) (src : Nat) (c : F) (hd : dst < rg) (hs : src < rg) (w : World) (hn : n ≤ 64) (hrg : rg ≤ 64) (hno : no ≤ 64) (hBw : B ≤ w.heap.size) (h : RnW B w cb M Q Fd n rg no il v0 v1 v2 v3 v6 fd X f g R O) :
    Calls Tryd.prog 38 #[.pointer (some ⟨cb, 0, none⟩), .agg #[.int .i64 op, .int .i64 (dst : Int), .int .i64 (src : Int), .int .u8 (c.toNat : Int)]] w fun e w' => e = .returned (.tuple #[]) ∧ (∃ f' g', RnW B w' cb M Q Fd n rg no il v0 v1 v2 v3 v6 fd X f' g' (setR R (dst : Int) (fun b => ga (R (dst : Int) b) (gm c (R (src : Int) b)))) (O) ∧ g' = g) ∧ Below B w w' ∧ (∀ (k : Nat) (o : Obj), k ≠ M → k ≠ Q → w.heap[k]? = some o → w'.heap[k]? = some o) := by
  obtain ⟨W, hW⟩ : ∃ W, W = w.alloc (.cells #[.int .i64 op, .int .i64 (dst : Int), .int .i64 (src : Int), .int .u8 (c.toNat : Int)] 55) := ⟨_, rfl⟩
  have hBW : Below w.heap.size w W := by rw [hW]; exact (Below.refl _ _).alloc (Nat.le_refl _) _
  have hbox : W.heap[w.heap.size]? = some (.cells #[.int .i64 op, .int .i64 (dst : Int), .int .i64 (src : Int), .int .u8 (c.toNat : Int)] 55 (0, 0)) := by rw [hW]; exact heap_alloc_last _ _
  have HNE : Hid (w.heap.size ≠ M) := by have := ltHeap h.regs.blk; show _ ≠ _; omega
  have HCW : Hid _ := h.below hBW
  have HBOX : Hid _ := hbox
  have HBW : Hid _ := hBW
  have HWE : Hid _ := hW
  clear h hBW hbox hW
  have HK1 : Hid (∀ u, W.grownBy u (some M) → u.cell? ⟨cb, 7, none⟩ = some (.slice (some ⟨M, 0, none⟩) rg rg)) := fun u hu => cellAt ((hu.block cb (ltHeap HCW.out.blk) (by simpa using HCW.out.hcM)).trans HCW.out.blk) 7 _ rfl
  have HS0 : Hid (∀ u, W.grownBy u (some M) → u.cell? ⟨w.heap.size, 1, none⟩ = some (.int .i64 (dst : Int))) := fun u hu => cellAt ((hu.block w.heap.size (ltHeap HBOX.out) (by simpa using HNE.out)).trans HBOX.out) 1 _ rfl
  have HS2 : Hid (∀ u, W.grownBy u (some M) → u.cell? ⟨w.heap.size, 2, none⟩ = some (.int .i64 (src : Int))) := fun u hu => cellAt ((hu.block w.heap.size (ltHeap HBOX.out) (by simpa using HNE.out)).trans HBOX.out) 2 _ rfl
  have HS3 : Hid (∀ u, W.grownBy u (some M) → u.cell? ⟨w.heap.size, 3, none⟩ = some (.int .u8 (c.toNat : Int))) := fun u hu => cellAt ((hu.block w.heap.size (ltHeap HBOX.out) (by simpa using HNE.out)).trans HBOX.out) 3 _ rfl
  go_enter Tryd.func38, Tryd.ntmps38
  go_wp2
  rw [← HWE.out]
  clear HWE
  refine wp_region_noPanic ?_
  refine wp_region_held_drew (S := fun u => W.grownBy u (some M)) (by kernel_rfl) ?_ (fun hHeld => ?_)
  · exact grownBy_drew (World.grownBy.refl _ _)
  refine wpAnyH_take (i := 0) (oi := { dst := some 4, op := Op.move (Operand.tmp 0), type := 31, pos := "exec.go:115", after := #[], guard := none }) (v := ?_) rfl (by kernel_rfl) (by kernel_rfl) (by kernel_rfl) (fun _ _ _ h => h) (Or.inl ⟨by rfl, ?_⟩) hHeld ?_
  rotate_left
  · intro u hSw
    go_simp
    try with_reducible rfl
  try simp only [Act.put, List.setIfInBounds_toArray, List.set_cons_zero, List.set_cons_succ]
  refine wpAnyH_take (i := 1) (oi := { dst := some 5, op := Op.nilCheck (Operand.tmp 4), type := 0, pos := "exec.go:115", after := #[{ on := 0, ground := Ground.data }], guard := none }) (v := ?_) rfl (by kernel_rfl) (by kernel_rfl) (by kernel_rfl) (fun _ _ _ h => h) (Or.inl ⟨by rfl, ?_⟩) hHeld ?_
  rotate_left
  · intro u hSw
    go_simp
    try with_reducible rfl
  try simp only [Act.put, List.setIfInBounds_toArray, List.set_cons_zero, List.set_cons_succ]
  refine wpAnyH_take (i := 2) (oi := { dst := some 6, op := Op.fieldAddr 58 (Operand.tmp 5) 4, type := 0, pos := "exec.go:115", after := #[{ on := 1, ground := Ground.data }], guard := none }) (v := ?_) rfl (by kernel_rfl) (by kernel_rfl) (by kernel_rfl) (fun _ _ _ h => h) (Or.inl ⟨by rfl, ?_⟩) hHeld ?_
  rotate_left
  · intro u hSw
    go_simp
    try with_reducible rfl
  try simp only [Act.put, List.setIfInBounds_toArray, List.set_cons_zero, List.set_cons_succ]
  refine wpAnyH_take (i := 3) (oi := { dst := some 7, op := Op.load 29 (Operand.tmp 6), type := 29, pos := "exec.go:115", after := #[{ on := 2, ground := Ground.data }], guard := none }) (v := ?_) rfl (by kernel_rfl) (by kernel_rfl) (by kernel_rfl) (fun _ _ _ h => h) (Or.inl ⟨by rfl, ?_⟩) hHeld ?_
  rotate_left
  · intro u hSw
    have k9 := HK1.out u hSw
    go_simp
    try with_reducible rfl
  try simp only [Act.put, List.setIfInBounds_toArray, List.set_cons_zero, List.set_cons_succ]
  refine wpAnyH_take (i := 4) (oi := { dst := some 8, op := Op.fieldAddr 55 (Operand.tmp 3) 1, type := 0, pos := "exec.go:115", after := #[], guard := none }) (v := ?_) rfl (by kernel_rfl) (by kernel_rfl) (by kernel_rfl) (fun _ _ _ h => h) (Or.inl ⟨by rfl, ?_⟩) hHeld ?_
  rotate_left
  · intro u hSw
    go_simp
    try with_reducible rfl
  try simp only [Act.put, List.setIfInBounds_toArray, List.set_cons_zero, List.set_cons_succ]
  refine wpAnyH_take (i := 5) (oi := { dst := some 9, op := Op.load 3 (Operand.tmp 8), type := 3, pos := "exec.go:115", after := #[{ on := 4, ground := Ground.data }], guard := none }) (v := ?_) rfl (by kernel_rfl) (by kernel_rfl) (by kernel_rfl) (fun _ _ _ h => h) (Or.inl ⟨by rfl, ?_⟩) hHeld ?_
  rotate_left
  · intro u hSw
    have k9 := HS0.out u hSw
    go_simp
    try with_reducible rfl
  try simp only [Act.put, List.setIfInBounds_toArray, List.set_cons_zero, List.set_cons_succ]
  refine wpAnyH_take (i := 6) (oi := { dst := some 10, op := Op.move (Operand.tmp 0), type := 31, pos := "exec.go:115", after := #[], guard := none }) (v := ?_) rfl (by kernel_rfl) (by kernel_rfl) (by kernel_rfl) (fun _ _ _ h => h) (Or.inl ⟨by rfl, ?_⟩) hHeld ?_
  rotate_left
  · intro u hSw
    go_simp
    try with_reducible rfl
  try simp only [Act.put, List.setIfInBounds_toArray, List.set_cons_zero, List.set_cons_succ]
  refine wpAnyH_take (i := 7) (oi := { dst := some 11, op := Op.nilCheck (Operand.tmp 10), type := 0, pos := "exec.go:115", after := #[{ on := 6, ground := Ground.data }], guard := none }) (v := ?_) rfl (by kernel_rfl) (by kernel_rfl) (by kernel_rfl) (fun _ _ _ h => h) (Or.inl ⟨by rfl, ?_⟩) hHeld ?_
  rotate_left
  · intro u hSw
    go_simp
    try with_reducible rfl
  try simp only [Act.put, List.setIfInBounds_toArray, List.set_cons_zero, List.set_cons_succ]
  refine wpAnyH_take (i := 8) (oi := { dst := some 12, op := Op.fieldAddr 58 (Operand.tmp 11) 4, type := 0, pos := "exec.go:115", after := #[{ on := 7, ground := Ground.data }], guard := none }) (v := ?_) rfl (by kernel_rfl) (by kernel_rfl) (by kernel_rfl) (fun _ _ _ h => h) (Or.inl ⟨by rfl, ?_⟩) hHeld ?_
  rotate_left
  · intro u hSw
    go_simp
    try with_reducible rfl
  try simp only [Act.put, List.setIfInBounds_toArray, List.set_cons_zero, List.set_cons_succ]
  refine wpAnyH_take (i := 9) (oi := { dst := some 13, op := Op.load 29 (Operand.tmp 12), type := 29, pos := "exec.go:115", after := #[{ on := 8, ground := Ground.data }], guard := none }) (v := ?_) rfl (by kernel_rfl) (by kernel_rfl) (by kernel_rfl) (fun _ _ _ h => h) (Or.inl ⟨by rfl, ?_⟩) hHeld ?_
  rotate_left
  · intro u hSw
    have k9 := HK1.out u hSw
    go_simp
    try with_reducible rfl
  try simp only [Act.put, List.setIfInBounds_toArray, List.set_cons_zero, List.set_cons_succ]
  refine wpAnyH_take (i := 10) (oi := { dst := some 14, op := Op.fieldAddr 55 (Operand.tmp 3) 1, type := 0, pos := "exec.go:115", after := #[], guard := none }) (v := ?_) rfl (by kernel_rfl) (by kernel_rfl) (by kernel_rfl) (fun _ _ _ h => h) (Or.inl ⟨by rfl, ?_⟩) hHeld ?_
  rotate_left
  · intro u hSw
    go_simp
    try with_reducible rfl
  try simp only [Act.put, List.setIfInBounds_toArray, List.set_cons_zero, List.set_cons_succ]
  refine wpAnyH_take (i := 11) (oi := { dst := some 15, op := Op.load 3 (Operand.tmp 14), type := 3, pos := "exec.go:115", after := #[{ on := 10, ground := Ground.data }], guard := none }) (v := ?_) rfl (by kernel_rfl) (by kernel_rfl) (by kernel_rfl) (fun _ _ _ h => h) (Or.inl ⟨by rfl, ?_⟩) hHeld ?_
  rotate_left
  · intro u hSw
    have k9 := HS0.out u hSw
    go_simp
    try with_reducible rfl
  try simp only [Act.put, List.setIfInBounds_toArray, List.set_cons_zero, List.set_cons_succ]
  refine wpAnyH_take (i := 12) (oi := { dst := some 16, op := Op.indexAddr 29 (Operand.tmp 13) (Operand.tmp 15), type := 0, pos := "exec.go:115", after := #[{ on := 9, ground := Ground.data }, { on := 11, ground := Ground.data }], guard := none }) (v := ?_) rfl (by kernel_rfl) (by kernel_rfl) (by kernel_rfl) (fun _ _ _ h => h) (Or.inl ⟨by rfl, ?_⟩) hHeld ?_
  rotate_left
  · intro u hSw
    go_simp
    try with_reducible rfl
  try simp only [Act.put, List.setIfInBounds_toArray, List.set_cons_zero, List.set_cons_succ]
  refine wpAnyH_take (i := 14) (oi := { dst := some 18, op := Op.fieldAddr 55 (Operand.tmp 3) 3, type := 0, pos := "exec.go:115", after := #[], guard := none }) (v := ?_) rfl (by kernel_rfl) (by kernel_rfl) (by kernel_rfl) (fun _ _ _ h => h) (Or.inl ⟨by rfl, ?_⟩) hHeld ?_
  rotate_left
  · intro u hSw
    go_simp
    try with_reducible rfl
  try simp only [Act.put, List.setIfInBounds_toArray, List.set_cons_zero, List.set_cons_succ]
  refine wpAnyH_take (i := 15) (oi := { dst := some 19, op := Op.load 5 (Operand.tmp 18), type := 5, pos := "exec.go:115", after := #[{ on := 14, ground := Ground.data }], guard := none }) (v := ?_) rfl (by kernel_rfl) (by kernel_rfl) (by kernel_rfl) (fun _ _ _ h => h) (Or.inl ⟨by rfl, ?_⟩) hHeld ?_
  rotate_left
  · intro u hSw
    have k9 := HS3.out u hSw
    go_simp
    try with_reducible rfl
  try simp only [Act.put, List.setIfInBounds_toArray, List.set_cons_zero, List.set_cons_succ]
  refine wpAnyH_take (i := 16) (oi := { dst := some 20, op := Op.move (Operand.tmp 0), type := 31, pos := "exec.go:115", after := #[], guard := none }) (v := ?_) rfl (by kernel_rfl) (by kernel_rfl) (by kernel_rfl) (fun _ _ _ h => h) (Or.inl ⟨by rfl, ?_⟩) hHeld ?_
  rotate_left
  · intro u hSw
    go_simp
    try with_reducible rfl
  try simp only [Act.put, List.setIfInBounds_toArray, List.set_cons_zero, List.set_cons_succ]
  refine wpAnyH_take (i := 17) (oi := { dst := some 21, op := Op.nilCheck (Operand.tmp 20), type := 0, pos := "exec.go:115", after := #[{ on := 16, ground := Ground.data }], guard := none }) (v := ?_) rfl (by kernel_rfl) (by kernel_rfl) (by kernel_rfl) (fun _ _ _ h => h) (Or.inl ⟨by rfl, ?_⟩) hHeld ?_
  rotate_left
  · intro u hSw
    go_simp
    try with_reducible rfl
  try simp only [Act.put, List.setIfInBounds_toArray, List.set_cons_zero, List.set_cons_succ]
  refine wpAnyH_take (i := 18) (oi := { dst := some 22, op := Op.fieldAddr 58 (Operand.tmp 21) 4, type := 0, pos := "exec.go:115", after := #[{ on := 17, ground := Ground.data }], guard := none }) (v := ?_) rfl (by kernel_rfl) (by kernel_rfl) (by kernel_rfl) (fun _ _ _ h => h) (Or.inl ⟨by rfl, ?_⟩) hHeld ?_
  rotate_left
  · intro u hSw
    go_simp
    try with_reducible rfl
  try simp only [Act.put, List.setIfInBounds_toArray, List.set_cons_zero, List.set_cons_succ]
  refine wpAnyH_take (i := 19) (oi := { dst := some 23, op := Op.load 29 (Operand.tmp 22), type := 29, pos := "exec.go:115", after := #[{ on := 18, ground := Ground.data }], guard := none }) (v := ?_) rfl (by kernel_rfl) (by kernel_rfl) (by kernel_rfl) (fun _ _ _ h => h) (Or.inl ⟨by rfl, ?_⟩) hHeld ?_
  rotate_left
  · intro u hSw
    have k9 := HK1.out u hSw
    go_simp
    try with_reducible rfl
  try simp only [Act.put, List.setIfInBounds_toArray, List.set_cons_zero, List.set_cons_succ]
  refine wpAnyH_take (i := 20) (oi := { dst := some 24, op := Op.fieldAddr 55 (Operand.tmp 3) 2, type := 0, pos := "exec.go:115", after := #[], guard := none }) (v := ?_) rfl (by kernel_rfl) (by kernel_rfl) (by kernel_rfl) (fun _ _ _ h => h) (Or.inl ⟨by rfl, ?_⟩) hHeld ?_
  rotate_left
  · intro u hSw
    go_simp
    try with_reducible rfl
  try simp only [Act.put, List.setIfInBounds_toArray, List.set_cons_zero, List.set_cons_succ]
  refine wpAnyH_take (i := 21) (oi := { dst := some 25, op := Op.load 3 (Operand.tmp 24), type := 3, pos := "exec.go:115", after := #[{ on := 20, ground := Ground.data }], guard := none }) (v := ?_) rfl (by kernel_rfl) (by kernel_rfl) (by kernel_rfl) (fun _ _ _ h => h) (Or.inl ⟨by rfl, ?_⟩) hHeld ?_
  rotate_left
  · intro u hSw
    have k9 := HS2.out u hSw
    go_simp
    try with_reducible rfl
  try simp only [Act.put, List.setIfInBounds_toArray, List.set_cons_zero, List.set_cons_succ]
  refine wpAnyH_take (i := 22) (oi := { dst := some 26, op := Op.indexAddr 29 (Operand.tmp 23) (Operand.tmp 25), type := 0, pos := "exec.go:115", after := #[{ on := 19, ground := Ground.data }, { on := 21, ground := Ground.data }], guard := none }) (v := ?_) rfl (by kernel_rfl) (by kernel_rfl) (by kernel_rfl) (fun _ _ _ h => h) (Or.inl ⟨by rfl, ?_⟩) hHeld ?_
  rotate_left
  · intro u hSw
    go_simp
    try with_reducible rfl
  try simp only [Act.put, List.setIfInBounds_toArray, List.set_cons_zero, List.set_cons_succ]
  refine wpAnyH_ready (rs := [13, 23]) (by kernel_rfl) (by simp) ?_
  refine (AllReadyH.cons (o := { dst := some 17, op := Op.load 26 (Operand.tmp 16), type := 26, pos := "exec.go:115", after := #[{ on := 12, ground := Ground.data }], guard := none }) rfl (fun K hK => ?_) (AllReadyH.cons (o := { dst := some 27, op := Op.load 26 (Operand.tmp 26), type := 26, pos := "exec.go:115", after := #[{ on := 22, ground := Ground.data }], guard := none }) rfl (fun K hK => ?_) AllReadyH.nil))
  · have m13 := cellAt HCW.out.drew.regs.blk dst _ (slF_at ‹dst < rg›)
    go_simp
    refine hK.out _ _ ?_ (fun hHeld => ?_)
    · exact grownBy_drew (World.grownBy.refl _ _)
    clear hK K
    try simp only [Act.put, List.setIfInBounds_toArray, List.set_cons_zero, List.set_cons_succ]
    refine wpAnyH_ready (rs := [23]) (by kernel_rfl) (by simp) ?_
    refine (AllReadyH.cons (o := { dst := some 27, op := Op.load 26 (Operand.tmp 26), type := 26, pos := "exec.go:115", after := #[{ on := 22, ground := Ground.data }], guard := none }) rfl (fun K hK => ?_) AllReadyH.nil)
    have m23 := cellAt HCW.out.drew.regs.blk src _ (slF_at ‹src < rg›)
    go_simp
    refine hK.out _ _ ?_ (fun hHeld => ?_)
    · exact grownBy_drew (World.grownBy.refl _ _)
    clear hK K
    try simp only [Act.put, List.setIfInBounds_toArray, List.set_cons_zero, List.set_cons_succ]
    refine wpAnyH_ready (rs := [24]) (by kernel_rfl) (by simp) ?_
    refine (AllReadyH.cons (o := { dst := some 28, op := Op.call { callee := Callee.value (Operand.func 43), args := #[Operand.tmp 17, Operand.tmp 19, Operand.tmp 27], argTypes := #[26, 5, 26] }, type := 26, pos := "exec.go:115", after := #[{ on := 13, ground := Ground.data }, { on := 15, ground := Ground.data }, { on := 23, ground := Ground.data }], guard := none }) rfl (fun K hK => ?_) AllReadyH.nil)
    go_simp
    refine Calls.mono (addScaled_R c _ _ n _ _ _ _ _ (by omega) (HCW.out.drew.regs.row dst hd).row8 (HCW.out.drew.regs.row src hs).row8) ?_
    rintro e w6 ⟨q6, rfl, hb6, hr6, hg6⟩
    have hC6 := HCW.out.drew.below hb6
    have hS6 : W.grownBy w6 (some M) := grown_below (grownBy_drew (World.grownBy.refl _ _)) hb6
    go_wp2_with fail
    refine hK.out _ _ ?_ (fun hHeld => ?_)
    · exact hS6
    clear hK K
    try simp only [Act.put, List.setIfInBounds_toArray, List.set_cons_zero, List.set_cons_succ]
    refine wpAnyH_take (i := 25) (oi := { dst := some 29, op := Op.indexAddr 29 (Operand.tmp 7) (Operand.tmp 9), type := 0, pos := "exec.go:115", after := #[{ on := 3, ground := Ground.data }, { on := 5, ground := Ground.data }, { on := 0, ground := Ground.phase }, { on := 1, ground := Ground.phase }, { on := 2, ground := Ground.phase }, { on := 3, ground := Ground.phase }, { on := 4, ground := Ground.phase }, { on := 5, ground := Ground.phase }, { on := 6, ground := Ground.phase }, { on := 7, ground := Ground.phase }, { on := 8, ground := Ground.phase }, { on := 9, ground := Ground.phase }, { on := 10, ground := Ground.phase }, { on := 11, ground := Ground.phase }, { on := 12, ground := Ground.phase }, { on := 13, ground := Ground.phase }, { on := 14, ground := Ground.phase }, { on := 15, ground := Ground.phase }, { on := 16, ground := Ground.phase }, { on := 17, ground := Ground.phase }, { on := 18, ground := Ground.phase }, { on := 19, ground := Ground.phase }, { on := 20, ground := Ground.phase }, { on := 21, ground := Ground.phase }, { on := 22, ground := Ground.phase }, { on := 23, ground := Ground.phase }, { on := 24, ground := Ground.phase }], guard := none }) (v := ?_) rfl (by kernel_rfl) (by kernel_rfl) (by kernel_rfl) (fun _ _ _ h => h) (Or.inl ⟨by rfl, ?_⟩) hHeld ?_
    rotate_left
    · intro u hSw
      go_simp
      try with_reducible rfl
    try simp only [Act.put, List.setIfInBounds_toArray, List.set_cons_zero, List.set_cons_succ]
    refine wpAnyH_ready (rs := [26]) (by kernel_rfl) (by simp) ?_
    refine (AllReadyH.cons (o := { dst := none, op := Op.store 26 (Operand.tmp 29) (Operand.tmp 28), type := 0, pos := "exec.go:115", after := #[{ on := 25, ground := Ground.data }, { on := 24, ground := Ground.data }, { on := 24, ground := Ground.chain }, { on := 0, ground := Ground.phase }, { on := 1, ground := Ground.phase }, { on := 2, ground := Ground.phase }, { on := 3, ground := Ground.phase }, { on := 4, ground := Ground.phase }, { on := 5, ground := Ground.phase }, { on := 6, ground := Ground.phase }, { on := 7, ground := Ground.phase }, { on := 8, ground := Ground.phase }, { on := 9, ground := Ground.phase }, { on := 10, ground := Ground.phase }, { on := 11, ground := Ground.phase }, { on := 12, ground := Ground.phase }, { on := 13, ground := Ground.phase }, { on := 14, ground := Ground.phase }, { on := 15, ground := Ground.phase }, { on := 16, ground := Ground.phase }, { on := 17, ground := Ground.phase }, { on := 18, ground := Ground.phase }, { on := 19, ground := Ground.phase }, { on := 20, ground := Ground.phase }, { on := 21, ground := Ground.phase }, { on := 22, ground := Ground.phase }, { on := 23, ground := Ground.phase }, { on := 24, ground := Ground.phase }], guard := none }) rfl (fun K hK => ?_) AllReadyH.nil)
    have hblk := hC6.regs.blk
    have d8 : w6.frozen? ⟨M, dst, none⟩ = false := frozen_of_row _ _ _ _ _ hblk
    have d9 := cellAt hblk dst _ (slF_at hd)
    go_simp
    refine hK.out _ _ ?_ (fun hHeld => ?_)
    · exact grownBy_setCell hS6 _
    clear hK K
    try simp only [Act.put, List.setIfInBounds_toArray, List.set_cons_zero, List.set_cons_succ]
    refine wpAnyH_done (by kernel_rfl) ?_ _
    refine NoPanic.normal ?_
    have HP : Hid _ := hC6.put hd (a := some ⟨q6, 0, none⟩) (m := n) (v := fun b => ga (R (dst : Int) b) (gm c (R (src : Int) b))) hr6 (Nat.le_refl _) (fun e => by cases e)
    have HPB : Hid _ := (((HBW.out.mono hBw).drew).trans (hb6.mono (by have := HBW.out.size; simp; omega))).setCell (p := ⟨M, dst, none⟩) HCW.out.hM (.slice (some ⟨q6, 0, none⟩) n n)
    have HKX : Hid (∀ (k : Nat) (o : Obj), k ≠ M → k ≠ Q → w.heap[k]? = some o → (w6.setCell ⟨M, dst, none⟩ (.slice (some ⟨q6, 0, none⟩) n n)).heap[k]? = some o) := fun k o h1 _ ho => (heap_setCell_other _ _ _ _ h1).trans (heap_later (w := W.drew) (show W.heap[k]? = some o from heap_later ho HBW.out) hb6)
    go_wp2
    exact ⟨rfl, .tuple #[], by simp [results, Tryd.results38, go_sem], rfl, ⟨_, _, HP.out, rfl⟩, HPB.out, HKX.out⟩
  · have m23 := cellAt HCW.out.drew.regs.blk src _ (slF_at ‹src < rg›)
    go_simp
    refine hK.out _ _ ?_ (fun hHeld => ?_)
    · exact grownBy_drew (World.grownBy.refl _ _)
    clear hK K
    try simp only [Act.put, List.setIfInBounds_toArray, List.set_cons_zero, List.set_cons_succ]
    refine wpAnyH_ready (rs := [13]) (by kernel_rfl) (by simp) ?_
    refine (AllReadyH.cons (o := { dst := some 17, op := Op.load 26 (Operand.tmp 16), type := 26, pos := "exec.go:115", after := #[{ on := 12, ground := Ground.data }], guard := none }) rfl (fun K hK => ?_) AllReadyH.nil)
    have m13 := cellAt HCW.out.drew.regs.blk dst _ (slF_at ‹dst < rg›)
    go_simp
    refine hK.out _ _ ?_ (fun hHeld => ?_)
    · exact grownBy_drew (World.grownBy.refl _ _)
    clear hK K
    try simp only [Act.put, List.setIfInBounds_toArray, List.set_cons_zero, List.set_cons_succ]
    refine wpAnyH_ready (rs := [24]) (by kernel_rfl) (by simp) ?_
    refine (AllReadyH.cons (o := { dst := some 28, op := Op.call { callee := Callee.value (Operand.func 43), args := #[Operand.tmp 17, Operand.tmp 19, Operand.tmp 27], argTypes := #[26, 5, 26] }, type := 26, pos := "exec.go:115", after := #[{ on := 13, ground := Ground.data }, { on := 15, ground := Ground.data }, { on := 23, ground := Ground.data }], guard := none }) rfl (fun K hK => ?_) AllReadyH.nil)
    go_simp
    refine Calls.mono (addScaled_R c _ _ n _ _ _ _ _ (by omega) (HCW.out.drew.regs.row dst hd).row8 (HCW.out.drew.regs.row src hs).row8) ?_
    rintro e w6 ⟨q6, rfl, hb6, hr6, hg6⟩
    have hC6 := HCW.out.drew.below hb6
    have hS6 : W.grownBy w6 (some M) := grown_below (grownBy_drew (World.grownBy.refl _ _)) hb6
    go_wp2_with fail
    refine hK.out _ _ ?_ (fun hHeld => ?_)
    · exact hS6
    clear hK K
    try simp only [Act.put, List.setIfInBounds_toArray, List.set_cons_zero, List.set_cons_succ]
    refine wpAnyH_take (i := 25) (oi := { dst := some 29, op := Op.indexAddr 29 (Operand.tmp 7) (Operand.tmp 9), type := 0, pos := "exec.go:115", after := #[{ on := 3, ground := Ground.data }, { on := 5, ground := Ground.data }, { on := 0, ground := Ground.phase }, { on := 1, ground := Ground.phase }, { on := 2, ground := Ground.phase }, { on := 3, ground := Ground.phase }, { on := 4, ground := Ground.phase }, { on := 5, ground := Ground.phase }, { on := 6, ground := Ground.phase }, { on := 7, ground := Ground.phase }, { on := 8, ground := Ground.phase }, { on := 9, ground := Ground.phase }, { on := 10, ground := Ground.phase }, { on := 11, ground := Ground.phase }, { on := 12, ground := Ground.phase }, { on := 13, ground := Ground.phase }, { on := 14, ground := Ground.phase }, { on := 15, ground := Ground.phase }, { on := 16, ground := Ground.phase }, { on := 17, ground := Ground.phase }, { on := 18, ground := Ground.phase }, { on := 19, ground := Ground.phase }, { on := 20, ground := Ground.phase }, { on := 21, ground := Ground.phase }, { on := 22, ground := Ground.phase }, { on := 23, ground := Ground.phase }, { on := 24, ground := Ground.phase }], guard := none }) (v := ?_) rfl (by kernel_rfl) (by kernel_rfl) (by kernel_rfl) (fun _ _ _ h => h) (Or.inl ⟨by rfl, ?_⟩) hHeld ?_
    rotate_left
    · intro u hSw
      go_simp
      try with_reducible rfl
    try simp only [Act.put, List.setIfInBounds_toArray, List.set_cons_zero, List.set_cons_succ]
    refine wpAnyH_ready (rs := [26]) (by kernel_rfl) (by simp) ?_
    refine (AllReadyH.cons (o := { dst := none, op := Op.store 26 (Operand.tmp 29) (Operand.tmp 28), type := 0, pos := "exec.go:115", after := #[{ on := 25, ground := Ground.data }, { on := 24, ground := Ground.data }, { on := 24, ground := Ground.chain }, { on := 0, ground := Ground.phase }, { on := 1, ground := Ground.phase }, { on := 2, ground := Ground.phase }, { on := 3, ground := Ground.phase }, { on := 4, ground := Ground.phase }, { on := 5, ground := Ground.phase }, { on := 6, ground := Ground.phase }, { on := 7, ground := Ground.phase }, { on := 8, ground := Ground.phase }, { on := 9, ground := Ground.phase }, { on := 10, ground := Ground.phase }, { on := 11, ground := Ground.phase }, { on := 12, ground := Ground.phase }, { on := 13, ground := Ground.phase }, { on := 14, ground := Ground.phase }, { on := 15, ground := Ground.phase }, { on := 16, ground := Ground.phase }, { on := 17, ground := Ground.phase }, { on := 18, ground := Ground.phase }, { on := 19, ground := Ground.phase }, { on := 20, ground := Ground.phase }, { on := 21, ground := Ground.phase }, { on := 22, ground := Ground.phase }, { on := 23, ground := Ground.phase }, { on := 24, ground := Ground.phase }], guard := none }) rfl (fun K hK => ?_) AllReadyH.nil)
    have hblk := hC6.regs.blk
    have d8 : w6.frozen? ⟨M, dst, none⟩ = false := frozen_of_row _ _ _ _ _ hblk
    have d9 := cellAt hblk dst _ (slF_at hd)
    go_simp
    refine hK.out _ _ ?_ (fun hHeld => ?_)
    · exact grownBy_setCell hS6 _
    clear hK K
    try simp only [Act.put, List.setIfInBounds_toArray, List.set_cons_zero, List.set_cons_succ]
    refine wpAnyH_done (by kernel_rfl) ?_ _
    refine NoPanic.normal ?_
    have HP : Hid _ := hC6.put hd (a := some ⟨q6, 0, none⟩) (m := n) (v := fun b => ga (R (dst : Int) b) (gm c (R (src : Int) b))) hr6 (Nat.le_refl _) (fun e => by cases e)
    have HPB : Hid _ := (((HBW.out.mono hBw).drew).trans (hb6.mono (by have := HBW.out.size; simp; omega))).setCell (p := ⟨M, dst, none⟩) HCW.out.hM (.slice (some ⟨q6, 0, none⟩) n n)
    have HKX : Hid (∀ (k : Nat) (o : Obj), k ≠ M → k ≠ Q → w.heap[k]? = some o → (w6.setCell ⟨M, dst, none⟩ (.slice (some ⟨q6, 0, none⟩) n n)).heap[k]? = some o) := fun k o h1 _ ho => (heap_setCell_other _ _ _ _ h1).trans (heap_later (w := W.drew) (show W.heap[k]? = some o from heap_later ho HBW.out) hb6)
    go_wp2
    exact ⟨rfl, .tuple #[], by simp [results, Tryd.results38, go_sem], rfl, ⟨_, _, HP.out, rfl⟩, HPB.out, HKX.out⟩
set_option maxRecDepth 100000 in
set_option maxHeartbeats 4000000 in
theorem xdoes_out (B cb M Q Fd n rg no il : Nat) (v0 v1 v2 v3 v6 : Value) (fd : Nat → Option (Option Addr × Nat)) (X : Int → Nat → F) (f : Nat → Option Addr × Nat) (g : Nat → Option (Option Addr × Nat)) (R O : Regs) (op : Int) (dst : Nat) (src : Nat) (cv : Int) (hd : dst < no) (hs : src < rg) (w : World) (hn : n ≤ 64) (hrg : rg ≤ 64) (hno : no ≤ 64) (hBw : B ≤ w.heap.size) (h : RnW B w cb M Q Fd n rg no il v0 v1 v2 v3 v6 fd X f g R O) :
    Calls Tryd.prog 39 #[.pointer (some ⟨cb, 0, none⟩), .agg #[.int .i64 op, .int .i64 (dst : Int), .int .i64 (src : Int), .int .u8 cv]] w fun e w' => e = .returned (.tuple #[]) ∧ (∃ f' g', RnW B w' cb M Q Fd n rg no il v0 v1 v2 v3 v6 fd X f' g' (R) (setR O (dst : Int) (R (src : Int))) ∧ g' = (fun x => if x = dst then some (f src) else g x)) ∧ Below B w w' ∧ (∀ (k : Nat) (o : Obj), k ≠ M → k ≠ Q → w.heap[k]? = some o → w'.heap[k]? = some o) := by
  obtain ⟨W, hW⟩ : ∃ W, W = w.alloc (.cells #[.int .i64 op, .int .i64 (dst : Int), .int .i64 (src : Int), .int .u8 cv] 55) := ⟨_, rfl⟩
  have hBW : Below w.heap.size w W := by rw [hW]; exact (Below.refl _ _).alloc (Nat.le_refl _) _
  have hbox : W.heap[w.heap.size]? = some (.cells #[.int .i64 op, .int .i64 (dst : Int), .int .i64 (src : Int), .int .u8 cv] 55 (0, 0)) := by rw [hW]; exact heap_alloc_last _ _
  have HNE : Hid (w.heap.size ≠ Q) := by have := ltHeap h.outs; show _ ≠ _; omega
  have HCW : Hid _ := h.below hBW
  have HBOX : Hid _ := hbox
  have HBW : Hid _ := hBW
  have HWE : Hid _ := hW
  clear h hBW hbox hW
  go_enter Tryd.func39, Tryd.ntmps39
  go_wp2
  rw [← HWE.out]
  clear HWE
  have k1 := cellAt HCW.out.blk 7 _ rfl
  have k2 := cellAt HCW.out.blk 8 _ rfl
  have k3 := cellAt HBOX.out 1 _ rfl
  have k4 := cellAt HBOX.out 2 _ rfl
  have k5 := cellAt HCW.out.regs.blk src _ (slF_at hs)
  have k6 := cellAt HCW.out.outs dst _ (slO_at hd)
  have k7 : W.frozen? ⟨Q, dst, none⟩ = false := frozen_of_row _ _ _ _ _ HCW.out.outs
  go_region
  have HP : Hid _ := HCW.out.drew.putO hd hs
  have HPB : Hid _ := ((HBW.out.mono hBw).drew).setCell (p := ⟨Q, dst, none⟩) HCW.out.hQ (.slice (f src).1 n (f src).2)
  clear k1 k2 k3 k4 k5 k6 k7
  go_wp2
  exact ⟨rfl, .tuple #[], by simp [results, Tryd.results39, go_sem], rfl, ⟨_, _, HP.out, rfl⟩, HPB.out, fun k o _ h2 ho => (heap_setCell_other _ _ _ _ h2).trans (heap_later ho HBW.out)⟩
set_option maxRecDepth 100000 in
set_option maxHeartbeats 4000000 in
theorem xdoes_load (B cb M Q Fd n rg no il : Nat) (v0 v1 v2 v3 v6 : Value) (fd : Nat → Option (Option Addr × Nat)) (X : Int → Nat → F) (f : Nat → Option Addr × Nat) (g : Nat → Option (Option Addr × Nat)) (R O : Regs) (op : Int) (dst : Nat) (src : Nat) (cv : Int) (hd : dst < rg) (hs : src < il) (w : World) (hn : n ≤ 64) (hrg : rg ≤ 64) (hno : no ≤ 64) (hBw : B ≤ w.heap.size) (h : RnW B w cb M Q Fd n rg no il v0 v1 v2 v3 v6 fd X f g R O) :
    Calls Tryd.prog 35 #[.pointer (some ⟨cb, 0, none⟩), .agg #[.int .i64 op, .int .i64 (dst : Int), .int .i64 (src : Int), .int .u8 cv]] w fun e w' => e = .returned (.tuple #[]) ∧ (∃ f' g', RnW B w' cb M Q Fd n rg no il v0 v1 v2 v3 v6 fd X f' g' (setR R (dst : Int) (X (src : Int))) (O) ∧ g' = g) ∧ Below B w w' ∧ (∀ (k : Nat) (o : Obj), k ≠ M → k ≠ Q → w.heap[k]? = some o → w'.heap[k]? = some o) := by
  obtain ⟨W, hW⟩ : ∃ W, W = w.alloc (.cells #[.int .i64 op, .int .i64 (dst : Int), .int .i64 (src : Int), .int .u8 cv] 55) := ⟨_, rfl⟩
  have hBW : Below w.heap.size w W := by rw [hW]; exact (Below.refl _ _).alloc (Nat.le_refl _) _
  have hbox : W.heap[w.heap.size]? = some (.cells #[.int .i64 op, .int .i64 (dst : Int), .int .i64 (src : Int), .int .u8 cv] 55 (0, 0)) := by rw [hW]; exact heap_alloc_last _ _
  have HNE : Hid (w.heap.size ≠ M) := by have := ltHeap h.regs.blk; show _ ≠ _; omega
  have HCW : Hid _ := h.below hBW
  have HBOX : Hid _ := hbox
  have HBW : Hid _ := hBW
  have HWE : Hid _ := hW
  clear h hBW hbox hW
  obtain ⟨p, hp1, hp2, hp3, hp4⟩ := HCW.out.frow src hs
  have HP2 : Hid _ := hp2
  have HP3 : Hid _ := hp3
  have HP4 : Hid _ := hp4
  have k5 := cellAt HCW.out.fed src _ (slO_at hs)
  rw [svO, hp1] at k5
  clear hp1 hp2 hp3 hp4
  go_enter Tryd.func35, Tryd.ntmps35
  go_wp2
  rw [← HWE.out]
  clear HWE
  have k1 := cellAt HCW.out.blk 7 _ rfl
  have k2 := cellAt HCW.out.blk 5 _ rfl
  have k3 := cellAt HBOX.out 1 _ rfl
  have k4 := cellAt HBOX.out 2 _ rfl
  have k6 := cellAt HCW.out.regs.blk dst _ (slF_at hd)
  have k7 : W.frozen? ⟨M, dst, none⟩ = false := frozen_of_row _ _ _ _ _ HCW.out.regs.blk
  go_region
  have HP : Hid _ := HCW.out.drew.put hd (a := p.1) (m := p.2) (v := X (src : Int)) HP2.out HP3.out HP4.out
  have HPB : Hid _ := ((HBW.out.mono hBw).drew).setCell (p := ⟨M, dst, none⟩) HCW.out.hM (.slice p.1 n p.2)
  clear k1 k2 k3 k4 k5 k6 k7
  go_wp2
  exact ⟨rfl, .tuple #[], by simp [results, Tryd.results35, go_sem], rfl, ⟨_, _, HP.out, rfl⟩, HPB.out, fun k o h1 _ ho => (heap_setCell_other _ _ _ _ h1).trans (heap_later ho HBW.out)⟩
end Go.Proofs.YtoalbopcapgojabDoor

/- A machine of package exec in memory; New, Wants, Out, operations. -/
namespace Go.Proofs.YtoalbopcapgojabDoor
open Go.RowKit Gf
set_option linter.unusedVariables false
set_option maxRecDepth 20000
set_option linter.unusedSimpArgs false
/-- a machine at rest; its outputs lie from block N on -/
structure MacW (N B : Nat) (w : World) (mb Fd : Nat) (ia oa sa : Option Addr) (il ic ol oc sl sc rg h : Nat) (ins outs : List Int) (ss : List Stp) (fd : Nat → Option (Option Addr × Nat)) (X : Int → Nat → F) (ran : Bool) (ov : Value) : Prop where
  blk : w.heap[mb]? = some (.cells #[.slice ia il ic, .slice oa ol oc, .int .i64 rg, .slice sa sl sc, .int .i64 h, .slice (some ⟨Fd, 0, none⟩) il il, .bool ran, .slice none 0 0, ov] 58 (0, 0))
  I : w.ownsRow B 3 1 (.slice ia il ic) il (ins.map (Value.int .i64))
  O : w.ownsRow B 3 1 (.slice oa ol oc) ol (outs.map (Value.int .i64))
  S : w.ownsRow B 55 4 (.slice sa sl sc) sl (stpsL ss)
  frm : InF ins outs rg ss
  h1 : 1 ≤ h
  h64 : h ≤ 64
  fed : w.heap[Fd]? = some (.cells (slO il h fd) 26 (0, 0))
  row : ∀ i, i < il → ∀ p, fd i = some p → Row8T w p.1 (rowF h (X (i : Int))) ∧ h ≤ p.2 ∧ (p.1 = none → p.2 = 0)
  all : ran = true → ∀ i, i < il → (fd i).isSome = true
  out : ran = true → ∃ Q g, ov = .slice (some ⟨Q, 0, none⟩) ol ol ∧ N ≤ Q ∧ w.heap[Q]? = some (.cells (slO ol h g) 26 (0, 0)) ∧ ∀ d, d < ol → ∃ p, g d = some p ∧ Row8T w p.1 (rowF h (runO X ss noR noR (d : Int))) ∧ h ≤ p.2
  hmb : B ≤ mb
  hFd : B ≤ Fd
variable {N B : Nat} {w : World} {mb Fd : Nat} {ia oa sa : Option Addr} {il ic ol oc sl sc rg h : Nat} {ins outs : List Int} {ss : List Stp} {fd : Nat → Option (Option Addr × Nat)} {X : Int → Nat → F} {ran : Bool} {ov : Value}
theorem ownT_len {l : Nat} {v : Value} (ho : w.ownsRow B 55 4 v l (stpsL ss)) : l = ss.length := by
  have := ho.1
  rw [stpsL_len] at this
  omega
theorem ownI_len {l : Nat} {v : Value} {xs : List Int} (ho : w.ownsRow B 3 1 v l (xs.map (Value.int .i64))) : l = xs.length := by
  have := ho.1
  rw [List.length_map] at this
  omega
theorem MacW.prg (hm : MacW N B w mb Fd ia oa sa il ic ol oc sl sc rg h ins outs ss fd X ran ov) : PrgW w ia oa sa il ic ol oc sl sc ins outs ss := by
  have q1 := ownI_facts hm.I
  have q2 := ownI_facts hm.O
  have hsl := ownT_len hm.S
  have q3 := stpW_own hsl hm.S
  obtain ⟨a, c, e, s2, s3, s1⟩ := q3
  have ea : sa = a := by injection e
  have ec : sc = c := by injection e
  subst ea ec
  have l1 := goodH_len hm.frm.1
  have l2 := goodH_len hm.frm.2.1
  have l3 := hm.frm.2.2.2.1
  have z1 := q1.2.2.2.1
  have z2 := q2.2.2.2.1
  exact { eil := z1, eol := z2, esl := hsl, i9 := by omega, o9 := by omega, s9 := by omega, cil := q1.2.1, col := q2.2.1, csl := s2, inil := q1.2.2.1, onil := q2.2.2.1, snil := s3, I := q1.1, O := q2.1, S := s1 }
theorem MacW.sizes (hm : MacW N B w mb Fd ia oa sa il ic ol oc sl sc rg h ins outs ss fd X ran ov) : il ≤ 32 ∧ ol ≤ 32 ∧ rg ≤ 64 ∧ sl ≤ 4096 := by
  have hp := hm.prg
  refine ⟨by rw [hp.eil]; exact goodH_len hm.frm.1, by rw [hp.eol]; exact goodH_len hm.frm.2.1, by have := hm.frm.2.2.1.2; omega, by rw [hp.esl]; exact hm.frm.2.2.2.1⟩
theorem MacW.below {w' : World} (hm : MacW N B w mb Fd ia oa sa il ic ol oc sl sc rg h ins outs ss fd X ran ov) (hb : Below w.heap.size w w') : MacW N B w' mb Fd ia oa sa il ic ol oc sl sc rg h ins outs ss fd X ran ov := by
  refine { hm with blk := heap_later hm.blk hb, I := own_below hm.I hb, O := own_below hm.O hb, S := own_below hm.S hb, fed := heap_later hm.fed hb, row := fun i hi p hp => ⟨row8T_below (hm.row i hi p hp).1 hb, (hm.row i hi p hp).2⟩, out := fun hr => ?_ }
  obtain ⟨Q, g, h1, h2, h3, h4⟩ := hm.out hr
  exact ⟨Q, g, h1, h2, heap_later h3 hb, fun d hd => by obtain ⟨p, q1, q2, q3⟩ := h4 d hd; exact ⟨p, q1, row8T_below q2 hb, q3⟩⟩
theorem row8T_some {a : Option Addr} {v : Nat → F} (h1 : 1 ≤ h) (hr : Row8T w a (rowF h v)) : ∃ b off, a = some ⟨b, off, none⟩ := by
  rcases hr with e | ⟨b, off, cs, fr, e, _⟩
  · have := congrArg List.length e
    rw [rowF_len, List.length_nil] at this
    omega
  · exact ⟨b, off, e⟩
/-- what is not fed -/
def unfed (ins : List Int) (fb : Nat → Bool) : Nat → List Int
  | 0 => []
  | n + 1 => unfed ins fb n ++ (if fb n = true then [] else [ins.getD n 0])
theorem unfed_none {ins : List Int} {fb : Nat → Bool} : ∀ {n : Nat}, (∀ i, i < n → fb i = true) → unfed ins fb n = []
  | 0, _ => rfl
  | n + 1, h => by rw [unfed, unfed_none fun i hi => h i (by omega), if_pos (h n (by omega))]; rfl
theorem unfed_some {ins : List Int} {fb : Nat → Bool} : ∀ {n i : Nat}, i < n → fb i = false → unfed ins fb n ≠ []
  | n + 1, i, hi, h => by
    rw [unfed]
    by_cases e : i = n
    · subst e; rw [h]; simp
    · have := unfed_some (ins := ins) (show i < n by omega) h
      intro h2
      exact this (List.append_eq_nil_iff.1 h2).1
theorem unfed_len (ins : List Int) (fb : Nat → Bool) : ∀ n, (unfed ins fb n).length ≤ n
  | 0 => Nat.le_refl _
  | n + 1 => by
    have := unfed_len ins fb n
    rw [unfed, List.length_append]
    split <;> simp <;> omega
def opP (cb : Nat) : Value := .pointer (some ⟨cb, 0, none⟩)
def opsE (cb : Nat) : Array Value := #[.nilFunc, .func (.func 35) #[opP cb] #[], .func (.func 36) #[opP cb] #[], .func (.func 37) #[opP cb] #[], .func (.func 38) #[opP cb] #[], .func (.func 39) #[opP cb] #[]]
def opsN : Array Value := #[.nilFunc, .nilFunc, .nilFunc, .nilFunc, .nilFunc, .nilFunc]
theorem opsE_one (cb : Nat) : (opsE cb).all (·.oneCell') = true := by simp [opsE, Value.oneCell']
theorem infoE : (Tryd.prog.info? 63).map (·.size) = some 6 := by kernel_rfl
theorem operations_F (cb : Nat) (w : World) :
    Calls Tryd.prog 26 #[.pointer (some ⟨cb, 0, none⟩)] w fun e w' => e = .returned (.agg (opsE cb)) ∧ Below w.heap.size w w' := by
  have HA : Hid _ := heap_alloc_last w (.cells opsN 63)
  have HI : Hid ((Tryd.prog.info? 63).map (·.size) = some (opsE cb).size) := infoE
  have H1 : Hid _ := opsE_one cb
  have HO : Hid (opsN.size = (opsE cb).size) := by show _ = _; rfl
  go_enter Tryd.func26, Tryd.ntmps26
  go_wp2_with (refine wpList_store_row rfl 63 _ _ rfl w.heap.size (opsE cb) rfl rfl 63 opsN HA.out HI.out HO.out H1.out ?_)
  refine bodyPost_ret (v := .agg (opsE cb)) (results_cell_row rfl _ _ w.heap.size 63 _ (0, 0) _ rfl (setRow_heap _ _ _ _ _ _ HA.out) Tryd.underlying63 rfl HI.out) rfl ⟨rfl, ?_⟩
  exact below_row ((Below.refl _ _).alloc (Nat.le_refl _) _) (Nat.le_refl _) _
set_option maxRecDepth 100000 in
set_option maxHeartbeats 4000000 in
theorem wants_F (hm : MacW N B w mb Fd ia oa sa il ic ol oc sl sc rg h ins outs ss fd X ran ov) :
    Calls Tryd.prog 11 #[.pointer (some ⟨mb, 0, none⟩)] w fun e w' => ∃ v n, e = .returned v ∧ n = (unfed ins (fun i => (fd i).isSome) il).length ∧ w'.ownsRow w.heap.size 3 1 v n ((unfed ins (fun i => (fd i).isSome) il).map (Value.int .i64)) ∧ Below w.heap.size w w' := by
  obtain ⟨hil, hol, hrg, hsl⟩ := hm.sizes
  have hp := hm.prg
  have q22 : ∀ (w : World) (a : Option Addr) (n c n' c' : Nat), (binOp .eql 26 (.slice a n c) (.slice none n' c')).run Tryd.prog w = .ok (.bool a.isNone) w := fun w a n c n' c' => Lib.run_eql_slice_nil w _ _ a n c n' c' Tryd.underlying26
  have hcil := hp.cil
  have HM : Hid (MacW N B w mb Fd ia oa sa il ic ol oc sl sc rg h ins outs ss fd X ran ov) := hm
  have HI : Hid (RowI w ia ins) := hp.I
  have HIL : Hid (il = ins.length) := hp.eil
  have k0 := cellAt hm.blk 0 _ rfl
  clear hm hp
  go_enter Tryd.func11, Tryd.ntmps11
  go_wp2
  clear k0
  go_loopw [12, 3] (fun i v wr => ∃ (j n : Nat), j ≤ il ∧ i = .int .i64 j ∧ n = (unfed ins (fun i => (fd i).isSome) j).length ∧ wr.ownsRow w.heap.size 3 1 v n ((unfed ins (fun i => (fd i).isSome) j).map (Value.int .i64)) ∧ Below w.heap.size w wr) (fun i _ _ => il - (intOf i).toNat)
  case atStart => exact ⟨0, 0, Nat.zero_le _, rfl, rfl, World.ownsRow_nil _ _ _ _, Below.refl _ _⟩
  case round =>
    obtain ⟨j, n, hj, rfl, hn, ho, hb⟩ := hrel
    have HB : Hid (Below w.heap.size w wr) := hb
    have HN : Hid (n = (unfed ins (fun i => (fd i).isSome) j).length) := hn
    have HO : Hid (wr.ownsRow w.heap.size 3 1 _ n ((unfed ins (fun i => (fd i).isSome) j).map (Value.int .i64))) := ho
    by_cases hlt : j < il
    · have hn9 : n ≤ 1000000 := by have := unfed_len ins (fun i => (fd i).isSome) j; omega
      have hjl : j < ins.length := by rw [← HIL.out]; exact hlt
      obtain ⟨b, off, rfl, hbl, hc⟩ := rowI_cell (rowI_below HI.out HB.out) hjl
      have c1 := hc j hjl
      obtain ⟨x, hx⟩ : ∃ x, x = ins.getD j 0 := ⟨_, rfl⟩
      rw [← hx] at c1
      have hmw := HM.out.below HB.out
      have k5 := cellAt hmw.blk 5 _ rfl
      have k6 := cellAt hmw.fed j _ (slO_at hlt)
      have HUN : Hid (∀ b : Bool, (fd j).isSome = b → unfed ins (fun i => (fd i).isSome) (j + 1) = unfed ins (fun i => (fd i).isSome) j ++ (if b = true then [] else [x])) := fun b hb => by rw [unfed, hb, hx]
      obtain ⟨av, cv, hv, _⟩ : ∃ a c, u3 = .slice a n c ∧ True := by
        rcases ho.2 with ⟨e, h0⟩ | ⟨g, cap, cur, e, _⟩
        · exact ⟨none, 0, by rw [e]; congr 1; simpa using h0.symm, trivial⟩
        · exact ⟨_, _, e, trivial⟩
      subst hv
      have hba : Below wr.heap.size wr (wr.alloc (.cells #[.int .i64 x] 3)) := (Below.refl _ _).alloc (Nat.le_refl _) _
      rcases hfd : fd j with _ | p
      · have HUE : Hid (unfed ins (fun i => (fd i).isSome) (j + 1) = unfed ins (fun i => (fd i).isSome) j ++ [x]) := by
          have := HUN.out false (by rw [hfd]; rfl)
          show _ = _
          simpa using this
        rw [svO, hfd] at k6
        simp only at k6
        obtain ⟨g, cap, w6, hrun, ho6, hgr, _⟩ := appendI (c := 1) (x := x) 22 (own_below ho hba) (cellAt (heap_alloc_last wr _) 0 _ rfl) hn9 (by have := hb.size; have := hba.size; omega)
        have HRun : Hid _ := hrun
        have HO6 : Hid _ := ho6
        have HB6 : Hid (Below w.heap.size w w6) := below_own (hb.trans (hba.mono hb.size)) (own_below ho hba) hgr (Nat.le_trans hb.size hba.size)
        have HN6 : Hid (n + 1 = (unfed ins (fun i => (fd i).isSome) (j + 1)).length) := by show _ = _; rw [HUE.out, HN.out, List.length_append]; rfl
        clear hc hb hn ho hx hmw hba hrun ho6 hgr hfd
        go_wp2_with (at_builtin; refine wpList_append_run rfl _ _ 22 rfl _ _ _ _ rfl rfl HRun.out ?_)
        exact ⟨⟨j + 1, n + 1, by omega, by go_num, HN6.out, by rw [HUE.out, List.map_append]; exact HO6.out, HB6.out⟩, by simp [intOf]; omega⟩
      · have HUE : Hid (unfed ins (fun i => (fd i).isSome) (j + 1) = unfed ins (fun i => (fd i).isSome) j) := by
          have := HUN.out true (by rw [hfd]; rfl)
          show _ = _
          simpa using this
        rw [svO, hfd] at k6
        simp only at k6
        obtain ⟨b9, o9, hp9⟩ := row8T_some hmw.h1 (hmw.row j hlt p hfd).1
        rw [hp9] at k6
        clear hc hb hn ho hx hmw hba hfd hp9
        go_wp2
        exact ⟨⟨j + 1, n, by omega, by go_num, by rw [HUE.out]; exact HN.out, by rw [HUE.out]; exact HO.out, HB.out⟩, by simp [intOf]; omega⟩
    · obtain rfl : j = il := by omega
      clear hb hn ho
      go_wp2
      go_ret
      exact ⟨_, n, rfl, HN.out, HO.out, HB.out⟩
end Go.Proofs.YtoalbopcapgojabDoor

/- What the document's own Run makes of inputs, of programs in form. -/
namespace Go.Proofs.YtoalbopcapgojabDoor
open Go.RowKit Gf
set_option linter.unusedVariables false
set_option maxRecDepth 20000
set_option linter.unusedSimpArgs false
theorem cell_lt9 {w : World} {b o : Nat} {v : Value} (h : w.cell? ⟨b, o, none⟩ = some v) : b < w.heap.size := by
  by_cases hb : b < w.heap.size
  · exact hb
  · rw [World.cell?, Array.getElem?_eq_none (by show w.heap.size ≤ b; omega)] at h
    cases h
theorem cell_grown9 {w u : World} {r b o : Nat} {v : Value} (hu : w.grownBy u (some r)) (h : w.cell? ⟨b, o, none⟩ = some v) (hne : b ≠ r) : u.cell? ⟨b, o, none⟩ = some v := by
  have hb := hu.block b (cell_lt9 h) (fun e => hne (Option.some.inj e))
  rw [World.cell?] at h ⊢
  rw [hb]
  exact h
set_option maxRecDepth 100000 in
set_option maxHeartbeats 16000000 in
theorem rrun_F (ia oa sa xa : Option Addr) (il ic ol oc sl sc rg n nc h : Nat) (ins outs : List Int) (ss : List Stp) (L : List (List F)) (w : World) (hP : PrgW w ia oa sa il ic ol oc sl sc ins outs ss) (hF : InF ins outs rg ss) (hn : n = L.length) (hil : il ≤ n) (hn9 : n ≤ 4611686018427387904) (hh : h ≤ 64) (hX : Rows8 w xa L) (hL : ∀ i xs, i < il → L[i]? = some xs → h ≤ xs.length) :
    Calls Tryd.prog 27 #[.agg #[.slice ia il ic, .slice oa ol oc, .int .i64 rg, .slice sa sl sc], .slice xa n nc, .int .i64 h] w fun e w' => ∃ Q, e = .returned (.slice (some ⟨Q, 0, none⟩) ol ol) ∧ w.heap.size ≤ Q ∧ OutsW w' Q ol h (inX L) ss ∧ Below w.heap.size w w' := by
  have hol32 : ol ≤ 32 := by rw [hP.eol]; exact goodH_len hF.2.1
  have hrgn : rg ≤ 64 := by have := hF.2.2.1.2; omega
  have hsl9 : sl ≤ 4096 := by rw [hP.esl]; exact hF.2.2.2.1
  have hcsl := hP.csl
  have HP : Hid _ := hP
  have HF : Hid (InF ins outs rg ss) := hF
  have HIL : Hid (il = ins.length) := hP.eil
  have HOL : Hid (ol = outs.length) := hP.eol
  have HSL : Hid (sl = ss.length) := hP.esl
  have HX : Hid (Rows8 w xa L) := hX
  have HLL : Hid (∀ i xs, i < il → L[i]? = some xs → h ≤ xs.length) := hL
  have HN : Hid (n = L.length) := hn
  have mk1 := fun u : World => run_makeN rg h hrgn u
  have hA : Holds ((w.alloc (.cells #[.slice ia il ic, .slice oa ol oc, .int .i64 rg, .slice sa sl sc] 25)).alloc (.cells (slO rg h (fun _ => none)) 26)) [(w.heap.size + 1, .cells (slO rg h (fun _ => none)) 26), (w.heap.size, .cells #[.slice ia il ic, .slice oa ol oc, .int .i64 rg, .slice sa sl sc] 25)] := by
    have h := holds_new (holds_new (holds_nil w) #[.slice ia il ic, .slice oa ol oc, .int .i64 rg, .slice sa sl sc] 25) (slO rg h (fun _ => none)) 26
    simp only [World.size_alloc] at h
    exact h
  have HI0 : Hid (RunI w.heap.size ((w.alloc (.cells #[.slice ia il ic, .slice oa ol oc, .int .i64 rg, .slice sa sl sc] 25)).alloc (.cells (slO rg h (fun _ => none)) 26)) (w.heap.size + 1) (w.heap.size + 1 + 1) rg h 0) :=
    { regs := by simp only [Nat.not_lt_zero, if_false]; exact holds_at hA 0 rfl, row := fun j hj => absurd hj (Nat.not_lt_zero _), size := by simp, hM := by omega, hMF := by omega }
  have HB0 : Hid (Below w.heap.size w ((w.alloc (.cells #[.slice ia il ic, .slice oa ol oc, .int .i64 rg, .slice sa sl sc] 25)).alloc (.cells (slO rg h (fun _ => none)) 26))) := ((Below.refl _ w).alloc (Nat.le_refl _) _).alloc (by simp) _
  have HX0 : Hid _ := holds_at hA 1 rfl
  clear hP hF hn hX hL hA
  go_enter Tryd.func27, Tryd.ntmps27
  go_wp2
  clear mk1
  go_loopw [18] (fun i wr => ∃ k : Nat, k ≤ rg ∧ i = .int .i64 k ∧ Below w.heap.size w wr ∧ RunI w.heap.size wr (w.heap.size + 1) (w.heap.size + 1 + 1) rg h k ∧ wr.heap[w.heap.size]? = some (.cells #[.slice ia il ic, .slice oa ol oc, .int .i64 rg, .slice sa sl sc] 25 (0, 0))) (fun i _ => rg - (intOf i).toNat)
  case atStart => exact ⟨0, Nat.zero_le _, rfl, HB0.out, HI0.out, HX0.out⟩
  case round =>
    obtain ⟨k, hk, rfl, hb, hi, hx⟩ := hrel
    have HB : Hid (Below w.heap.size w wr) := hb
    have HI : Hid (RunI w.heap.size wr (w.heap.size + 1) (w.heap.size + 1 + 1) rg h k) := hi
    have HXB : Hid (wr.heap[w.heap.size]? = some (.cells #[.slice ia il ic, .slice oa ol oc, .int .i64 rg, .slice sa sl sc] 25 (0, 0))) := hx
    clear hb hi hx HB0 HI0 HX0
    by_cases hlt : k < rg
    · have mk3 := fun u : World => run_make8 h (by omega) u
      have hba : Below wr.heap.size wr (wr.alloc (.cells (vfs (zeros h)) 5)) := (Below.refl _ _).alloc (Nat.le_refl _) _
      have k1 : (wr.alloc (.cells (vfs (zeros h)) 5)).cell? ⟨w.heap.size + 1, k, none⟩ = some (.slice none 0 0) := by
        have := cellAt (heap_later HI.out.regs hba) k _ (slO_at hlt)
        rw [svO, if_neg (Nat.lt_irrefl k)] at this
        exact this
      have k2 : (wr.alloc (.cells (vfs (zeros h)) 5)).frozen? ⟨w.heap.size + 1, k, none⟩ = false := frozen_of_row _ _ _ _ _ (heap_later HI.out.regs hba)
      have HIN : Hid _ := HI.out.next hlt
      have HBN : Hid (Below w.heap.size w ((wr.alloc (.cells (vfs (zeros h)) 5)).setCell ⟨w.heap.size + 1, k, none⟩ (.slice (some ⟨wr.heap.size, 0, none⟩) h h))) := (HB.out.alloc HB.out.size _).setCell (p := ⟨w.heap.size + 1, k, none⟩) (by show w.heap.size ≤ w.heap.size + 1; omega) _
      have HXN : Hid (((wr.alloc (.cells (vfs (zeros h)) 5)).setCell ⟨w.heap.size + 1, k, none⟩ (.slice (some ⟨wr.heap.size, 0, none⟩) h h)).heap[w.heap.size]? = some (.cells #[.slice ia il ic, .slice oa ol oc, .int .i64 rg, .slice sa sl sc] 25 (0, 0))) := (heap_setCell_other _ _ _ _ (by show w.heap.size ≠ w.heap.size + 1; omega)).trans (heap_later HXB.out hba)
      clear hba
      go_wp2
      exact ⟨⟨k + 1, by omega, by go_num, HBN.out, HIN.out, HXN.out⟩, by simp [intOf]; omega⟩
    · obtain rfl : k = rg := by omega
      have mk2 := fun u : World => run_makeN ol h (by omega) u
      obtain ⟨M, hM⟩ : ∃ M, M = w.heap.size + 1 := ⟨_, rfl⟩
      obtain ⟨F0, hF0⟩ : ∃ F0, F0 = w.heap.size + 1 + 1 := ⟨_, rfl⟩
      obtain ⟨Q, hQ⟩ : ∃ Q, Q = wr.heap.size := ⟨_, rfl⟩
      have hi : RunI w.heap.size wr M F0 k h k := by rw [hM, hF0]; exact HI.out
      have hr0 := hi.done (no := ol)
      rw [← hQ] at hr0
      have hba : Below wr.heap.size wr (wr.alloc (.cells (slO ol h (fun _ => none)) 26)) := (Below.refl _ _).alloc (Nat.le_refl _) _
      have HR0 : Hid _ := hr0
      have HBQ : Hid (Below w.heap.size w (wr.alloc (.cells (slO ol h (fun _ => none)) 26))) := HB.out.alloc HB.out.size _
      have k1 := cellAt HXB.out 1 _ rfl
      have k3 := cellAt (heap_later HXB.out hba) 3 _ rfl
      have HMB : Hid (w.heap.size < F0) := by show _ < _; omega
      have HME : Hid (M = w.heap.size + 1) := hM
      have HQE : Hid (Q = wr.heap.size) := hQ
      clear hM hF0 hQ hi hr0 hba HI HXB HB
      go_wp2
      rw [← HME.out, ← HQE.out]
      clear k1 k3 mk2 HME HQE
      go_loopw [34] (fun i wr => ∃ (j : Nat) (g : Nat → Option (Nat × Nat)), j ≤ sl ∧ i = .int .i64 j ∧ Below w.heap.size w wr ∧ RunW w.heap.size wr M F0 Q k ol h g (runR (inX L) (ss.take j) noR) (runO (inX L) (ss.take j) noR noR) ∧ ∀ d : Nat, (g d).isSome = decide (1 ≤ cntO (ss.take j) d)) (fun i _ => sl - (intOf i).toNat)
      case atStart => exact ⟨0, _, Nat.zero_le _, rfl, HBQ.out, by rw [List.take_zero]; exact HR0.out, fun d => by rw [List.take_zero]; rfl⟩
      case round =>
        obtain ⟨j, g, hj, rfl, hbr, hrr, hgs⟩ := hrel
        have HBO : Hid (Below w.heap.size w wr) := hbr
        obtain ⟨R9, hR9⟩ : ∃ R9, R9 = runR (inX L) (ss.take j) noR := ⟨_, rfl⟩
        obtain ⟨O9, hO9⟩ : ∃ O9, O9 = runO (inX L) (ss.take j) noR noR := ⟨_, rfl⟩
        rw [← hR9, ← hO9] at hrr
        have HRO : Hid (RunW w.heap.size wr M F0 Q k ol h g R9 O9) := hrr
        have HGS : Hid (∀ d : Nat, (g d).isSome = decide (1 ≤ cntO (ss.take j) d)) := hgs
        have HRE9 : Hid (R9 = runR (inX L) (ss.take j) noR) := hR9
        have HOE9 : Hid (O9 = runO (inX L) (ss.take j) noR noR) := hO9
        clear hbr hrr hgs hR9 hO9 HR0 HBQ
        by_cases hlj : j < sl
        · have hjs : j < ss.length := by rw [← HSL.out]; exact hlj
          obtain ⟨b0, off, hsa, hc⟩ := stpW_get (stpW_below HP.out.S HBO.out) hjs
          obtain ⟨c0, c1, c2, c3⟩ := hc j hjs
          obtain ⟨⟨op, dst, src, c⟩, hs⟩ : ∃ s, ss[j] = s := ⟨_, rfl⟩
          rw [hs] at c0 c1 c2 c3
          simp only at c0 c1 c2 c3
          have hget : ss[j]? = some ⟨op, dst, src, c⟩ := by rw [List.getElem?_eq_getElem hjs, hs]
          have HTK : Hid (ss.take (j + 1) = ss.take j ++ [⟨op, dst, src, c⟩]) := by show _ = _; rw [List.take_add_one, hget]; rfl
          have hok : OkS il ol k ⟨op, dst, src, c⟩ := by rw [HIL.out, HOL.out]; exact HF.out.2.2.2.2.1 _ (List.mem_of_getElem? hget)
          have HOK : Hid (OkS il ol k ⟨op, dst, src, c⟩) := hok
          have HR1 : Hid (runR (inX L) (ss.take (j + 1)) noR = doR (inX L) ⟨op, dst, src, c⟩ R9) := by show _ = _; rw [HTK.out, runR_app, ← HRE9.out]; rfl
          have HO1 : Hid (runO (inX L) (ss.take (j + 1)) noR noR = doO ⟨op, dst, src, c⟩ R9 O9) := by show _ = _; rw [HTK.out, runO_app, ← HRE9.out, ← HOE9.out]; rfl
          subst hsa
          clear hc hs hget hjs hok
          generalize wr = wo at *
          have hba : Below wo.heap.size wo (wo.alloc (.cells #[.int .i64 op, .int .i64 dst, .int .i64 src, .int .u8 (c.toNat : Int)] 55)) := (Below.refl _ _).alloc (Nat.le_refl _) _
          have HB1 : Hid (Below w.heap.size w (wo.alloc (.cells #[.int .i64 op, .int .i64 dst, .int .i64 src, .int .u8 (c.toNat : Int)] 55))) := HBO.out.alloc HBO.out.size _
          have HS1 : Hid ((wo.alloc (.cells #[.int .i64 op, .int .i64 dst, .int .i64 src, .int .u8 (c.toNat : Int)] 55)).heap[wo.heap.size]? = some (.cells #[.int .i64 op, .int .i64 dst, .int .i64 src, .int .u8 (c.toNat : Int)] 55 (0, 0))) := heap_alloc_last wo _
          have HR2 : Hid (RunW w.heap.size (wo.alloc (.cells #[.int .i64 op, .int .i64 dst, .int .i64 src, .int .u8 (c.toNat : Int)] 55)) M F0 Q k ol h g (upTo (inX L) ⟨op, dst, src, c⟩ R9 0) O9) := by show RunW ..; rw [upTo_zero]; exact HRO.out.below hba
          have HSQ : Hid (wo.heap.size ≠ Q) := by show _ ≠ _; have := ltHeap HRO.out.outs; omega
          have HSN : Hid (∀ x, x < k → wo.heap.size ≠ F0 + x) := fun x hx => by have := ltHeap (HRO.out.row x hx); omega
          clear hba
          go_wp2
          clear c0 c1 c2 c3
          go_loopw [12] (fun i wr => ∃ b : Nat, b ≤ h ∧ i = .int .i64 b ∧ Below w.heap.size w wr ∧ RunW w.heap.size wr M F0 Q k ol h g (upTo (inX L) ⟨op, dst, src, c⟩ R9 b) O9 ∧ wr.heap[wo.heap.size]? = some (.cells #[.int .i64 op, .int .i64 dst, .int .i64 src, .int .u8 (c.toNat : Int)] 55 (0, 0))) (fun i _ => h - (intOf i).toNat)
          case atStart => exact ⟨0, Nat.zero_le _, rfl, HB1.out, HR2.out, HS1.out⟩
          case round =>
            obtain ⟨b, hb, rfl, hbr, hrr, hsr⟩ := hrel
            have HB : Hid (Below w.heap.size w wr) := hbr
            have HR : Hid (RunW w.heap.size wr M F0 Q k ol h g (upTo (inX L) ⟨op, dst, src, c⟩ R9 b) O9) := hrr
            have HS : Hid (wr.heap[wo.heap.size]? = some (.cells #[.int .i64 op, .int .i64 dst, .int .i64 src, .int .u8 (c.toNat : Int)] 55 (0, 0))) := hsr
            have g0 := cellAt hsr 0 _ rfl
            clear hbr hrr hsr HB1 HR2 HS1
            have hok := HOK.out
            unfold OkS at hok
            simp only at hok
            by_cases hbh : b < h
            · rcases hok with ⟨rfl, ⟨hd0, hd1⟩, ⟨hs0, hs1⟩, hz1⟩ | ⟨rfl, ⟨hd0, hd1⟩, hz1, hz2⟩ | ⟨rfl, ⟨hd0, hd1⟩, hz1⟩ | ⟨rfl, ⟨hd0, hd1⟩, hs0, hs1⟩ | ⟨rfl, hz1⟩
              · obtain ⟨dq, rfl⟩ := Int.eq_ofNat_of_zero_le hd0
                obtain ⟨sq, rfl⟩ := Int.eq_ofNat_of_zero_le hs0
                have hdq : dq < k := by omega
                have hsq : sq < il := by omega
                have hsn : sq < n := by omega
                obtain ⟨xs, hxs⟩ : ∃ xs, L[sq]? = some xs := ⟨_, List.getElem?_eq_getElem (by rw [← HN.out]; exact hsn)⟩
                have HXS : Hid (L[sq]? = some xs) := hxs
                have hlen := HLL.out sq xs hsq hxs
                have hbx : b < xs.length := by omega
                obtain ⟨ib, ioff, rb, ro, rc, rfl, HIC, HRB⟩ : ∃ ib ioff rb ro rc, xa = some ⟨ib, ioff, none⟩ ∧ Hid (w.cell? ⟨ib, ioff + sq, none⟩ = some (.slice (some ⟨rb, ro, none⟩) xs.length rc)) ∧ Hid (∀ i, i < xs.length → w.cell? ⟨rb, ro + i, none⟩ = some (.int .u8 ((at8 xs i).toNat : Int))) := by
                  rcases HX.out with rfl | ⟨ib, ioff, e, hc⟩
                  · cases hxs
                  · obtain ⟨a', cap', h1, h2⟩ := hc sq xs hxs
                    rcases h2 with rfl | ⟨rb, ro, rfl, h3⟩
                    · exact absurd hbx (Nat.not_lt_zero _)
                    · exact ⟨ib, ioff, rb, ro, cap', e, h1, h3⟩
                clear hxs hd0 hd1 hs0 hs1 hz1
                go_wp2
                have P1 : Hid (∀ u, wr.grownBy u (some (F0 + dq)) → u.cell? ⟨wo.heap.size, 1, none⟩ = some (.int .i64 (dq : Int))) := fun u hu => cellAt ((hu.block _ (ltHeap HS.out) (fun e => HSN.out dq hdq (Option.some.inj e))).trans HS.out) 1 _ rfl
                have P2 : Hid (∀ u, wr.grownBy u (some (F0 + dq)) → u.cell? ⟨wo.heap.size, 2, none⟩ = some (.int .i64 (sq : Int))) := fun u hu => cellAt ((hu.block _ (ltHeap HS.out) (fun e => HSN.out dq hdq (Option.some.inj e))).trans HS.out) 2 _ rfl
                have PM : Hid (∀ u, wr.grownBy u (some (F0 + dq)) → u.cell? ⟨M, dq, none⟩ = some (.slice (some ⟨F0 + dq, 0, none⟩) h h)) := fun u hu => cellAt ((hu.block _ (ltHeap HR.out.regs) (fun e => by have := Option.some.inj e; have := HR.out.hMF; omega)).trans HR.out.regs) dq _ (slF_at (by assumption))
                have PI : Hid (∀ u, wr.grownBy u (some (F0 + dq)) → u.cell? ⟨ib, ioff + sq, none⟩ = some (.slice (some ⟨rb, ro, none⟩) xs.length rc)) := fun u hu => cell_grown9 hu (cell_later HB.out HIC.out) (by have := cell_lt9 HIC.out; have := HMB.out; omega)
                have PB : Hid (∀ u, wr.grownBy u (some (F0 + dq)) → u.cell? ⟨rb, ro + b, none⟩ = some (.int .u8 ((at8 xs b).toNat : Int))) := fun u hu => cell_grown9 hu (cell_later HB.out (HRB.out b hbx)) (by have := cell_lt9 (HRB.out b hbx); have := HMB.out; omega)
                refine wp_region_noPanic ?_
                refine wp_region_held_drew (S := fun u => wr.grownBy u (some (F0 + dq))) (by kernel_rfl) ?_ (fun hHeld => ?_)
                · exact grownBy_drew (World.grownBy.refl _ _)
                obtain ⟨X, hX⟩ : ∃ X, X = wr.drew := ⟨_, rfl⟩
                have GX : wr.grownBy X (some (F0 + dq)) := by rw [hX]; exact grownBy_drew (World.grownBy.refl _ _)
                have HRX : Hid (RunW w.heap.size X M F0 Q k ol h g (upTo (inX L) ⟨1, (dq : Int), (sq : Int), c⟩ R9 b) O9) := by show RunW ..; rw [hX]; exact HR.out.drew
                have HBX : Hid (Below w.heap.size w X) := by show Below ..; rw [hX]; exact HB.out.drew
                have HSX : Hid (X.heap[wo.heap.size]? = some (.cells #[.int .i64 1, .int .i64 (dq : Int), .int .i64 (sq : Int), .int .u8 (c.toNat : Int)] 55 (0, 0))) := by show _ = _; rw [hX]; exact HS.out
                rw [← hX] at hHeld ⊢
                clear hX
                refine wpAnyH_take (i := 0) (oi := { dst := some 47, op := Op.move (Operand.tmp 7), type := 29, pos := "ref.go:68", after := #[], guard := none }) (v := ?_) rfl (by kernel_rfl) (by kernel_rfl) (by kernel_rfl) (fun _ _ _ h => h) (Or.inl ⟨by rfl, ?_⟩) hHeld ?_
                rotate_left
                · intro u hSw
                  go_simp
                  try with_reducible rfl
                try simp only [Act.put, List.setIfInBounds_toArray, List.set_cons_zero, List.set_cons_succ]
                refine wpAnyH_take (i := 1) (oi := { dst := some 48, op := Op.fieldAddr 55 (Operand.tmp 11) 1, type := 0, pos := "ref.go:68", after := #[], guard := none }) (v := ?_) rfl (by kernel_rfl) (by kernel_rfl) (by kernel_rfl) (fun _ _ _ h => h) (Or.inl ⟨by rfl, ?_⟩) hHeld ?_
                rotate_left
                · intro u hSw
                  go_simp
                  try with_reducible rfl
                try simp only [Act.put, List.setIfInBounds_toArray, List.set_cons_zero, List.set_cons_succ]
                refine wpAnyH_take (i := 2) (oi := { dst := some 49, op := Op.load 3 (Operand.tmp 48), type := 3, pos := "ref.go:68", after := #[{ on := 1, ground := Ground.data }], guard := none }) (v := ?_) rfl (by kernel_rfl) (by kernel_rfl) (by kernel_rfl) (fun _ _ _ h => h) (Or.inl ⟨by rfl, ?_⟩) hHeld ?_
                rotate_left
                · intro u hSw
                  have k9 := P1.out u hSw
                  go_simp
                  try with_reducible rfl
                try simp only [Act.put, List.setIfInBounds_toArray, List.set_cons_zero, List.set_cons_succ]
                refine wpAnyH_take (i := 3) (oi := { dst := some 50, op := Op.indexAddr 29 (Operand.tmp 47) (Operand.tmp 49), type := 0, pos := "ref.go:68", after := #[{ on := 0, ground := Ground.data }, { on := 2, ground := Ground.data }], guard := none }) (v := ?_) rfl (by kernel_rfl) (by kernel_rfl) (by kernel_rfl) (fun _ _ _ h => h) (Or.inl ⟨by rfl, ?_⟩) hHeld ?_
                rotate_left
                · intro u hSw
                  go_simp
                  try with_reducible rfl
                try simp only [Act.put, List.setIfInBounds_toArray, List.set_cons_zero, List.set_cons_succ]
                refine wpAnyH_take (i := 4) (oi := { dst := some 51, op := Op.load 26 (Operand.tmp 50), type := 26, pos := "ref.go:68", after := #[{ on := 3, ground := Ground.data }], guard := none }) (v := ?_) rfl (by kernel_rfl) (by kernel_rfl) (by kernel_rfl) (fun _ _ _ h => h) (Or.inl ⟨by rfl, ?_⟩) hHeld ?_
                rotate_left
                · intro u hSw
                  have k9 := PM.out u hSw
                  go_simp
                  try with_reducible rfl
                try simp only [Act.put, List.setIfInBounds_toArray, List.set_cons_zero, List.set_cons_succ]
                refine wpAnyH_take (i := 5) (oi := { dst := some 52, op := Op.move (Operand.tmp 12), type := 3, pos := "ref.go:68", after := #[], guard := none }) (v := ?_) rfl (by kernel_rfl) (by kernel_rfl) (by kernel_rfl) (fun _ _ _ h => h) (Or.inl ⟨by rfl, ?_⟩) hHeld ?_
                rotate_left
                · intro u hSw
                  go_simp
                  try with_reducible rfl
                try simp only [Act.put, List.setIfInBounds_toArray, List.set_cons_zero, List.set_cons_succ]
                refine wpAnyH_take (i := 6) (oi := { dst := some 53, op := Op.move (Operand.tmp 1), type := 29, pos := "ref.go:68", after := #[], guard := none }) (v := ?_) rfl (by kernel_rfl) (by kernel_rfl) (by kernel_rfl) (fun _ _ _ h => h) (Or.inl ⟨by rfl, ?_⟩) hHeld ?_
                rotate_left
                · intro u hSw
                  go_simp
                  try with_reducible rfl
                try simp only [Act.put, List.setIfInBounds_toArray, List.set_cons_zero, List.set_cons_succ]
                refine wpAnyH_take (i := 7) (oi := { dst := some 54, op := Op.fieldAddr 55 (Operand.tmp 11) 2, type := 0, pos := "ref.go:68", after := #[], guard := none }) (v := ?_) rfl (by kernel_rfl) (by kernel_rfl) (by kernel_rfl) (fun _ _ _ h => h) (Or.inl ⟨by rfl, ?_⟩) hHeld ?_
                rotate_left
                · intro u hSw
                  go_simp
                  try with_reducible rfl
                try simp only [Act.put, List.setIfInBounds_toArray, List.set_cons_zero, List.set_cons_succ]
                refine wpAnyH_take (i := 8) (oi := { dst := some 55, op := Op.load 3 (Operand.tmp 54), type := 3, pos := "ref.go:68", after := #[{ on := 7, ground := Ground.data }], guard := none }) (v := ?_) rfl (by kernel_rfl) (by kernel_rfl) (by kernel_rfl) (fun _ _ _ h => h) (Or.inl ⟨by rfl, ?_⟩) hHeld ?_
                rotate_left
                · intro u hSw
                  have k9 := P2.out u hSw
                  go_simp
                  try with_reducible rfl
                try simp only [Act.put, List.setIfInBounds_toArray, List.set_cons_zero, List.set_cons_succ]
                refine wpAnyH_take (i := 9) (oi := { dst := some 56, op := Op.indexAddr 29 (Operand.tmp 53) (Operand.tmp 55), type := 0, pos := "ref.go:68", after := #[{ on := 6, ground := Ground.data }, { on := 8, ground := Ground.data }], guard := none }) (v := ?_) rfl (by kernel_rfl) (by kernel_rfl) (by kernel_rfl) (fun _ _ _ h => h) (Or.inl ⟨by rfl, ?_⟩) hHeld ?_
                rotate_left
                · intro u hSw
                  go_simp
                  try with_reducible rfl
                try simp only [Act.put, List.setIfInBounds_toArray, List.set_cons_zero, List.set_cons_succ]
                refine wpAnyH_take (i := 10) (oi := { dst := some 57, op := Op.load 26 (Operand.tmp 56), type := 26, pos := "ref.go:68", after := #[{ on := 9, ground := Ground.data }], guard := none }) (v := ?_) rfl (by kernel_rfl) (by kernel_rfl) (by kernel_rfl) (fun _ _ _ h => h) (Or.inl ⟨by rfl, ?_⟩) hHeld ?_
                rotate_left
                · intro u hSw
                  have k9 := PI.out u hSw
                  go_simp
                  try with_reducible rfl
                try simp only [Act.put, List.setIfInBounds_toArray, List.set_cons_zero, List.set_cons_succ]
                refine wpAnyH_take (i := 11) (oi := { dst := some 58, op := Op.move (Operand.tmp 12), type := 3, pos := "ref.go:68", after := #[], guard := none }) (v := ?_) rfl (by kernel_rfl) (by kernel_rfl) (by kernel_rfl) (fun _ _ _ h => h) (Or.inl ⟨by rfl, ?_⟩) hHeld ?_
                rotate_left
                · intro u hSw
                  go_simp
                  try with_reducible rfl
                try simp only [Act.put, List.setIfInBounds_toArray, List.set_cons_zero, List.set_cons_succ]
                refine wpAnyH_take (i := 12) (oi := { dst := some 59, op := Op.indexAddr 26 (Operand.tmp 57) (Operand.tmp 58), type := 0, pos := "ref.go:68", after := #[{ on := 10, ground := Ground.data }, { on := 11, ground := Ground.data }], guard := none }) (v := ?_) rfl (by kernel_rfl) (by kernel_rfl) (by kernel_rfl) (fun _ _ _ h => h) (Or.inl ⟨by rfl, ?_⟩) hHeld ?_
                rotate_left
                · intro u hSw
                  go_simp
                  try with_reducible rfl
                try simp only [Act.put, List.setIfInBounds_toArray, List.set_cons_zero, List.set_cons_succ]
                refine wpAnyH_take (i := 13) (oi := { dst := some 60, op := Op.load 5 (Operand.tmp 59), type := 5, pos := "ref.go:68", after := #[{ on := 12, ground := Ground.data }], guard := none }) (v := ?_) rfl (by kernel_rfl) (by kernel_rfl) (by kernel_rfl) (fun _ _ _ h => h) (Or.inl ⟨by rfl, ?_⟩) hHeld ?_
                rotate_left
                · intro u hSw
                  have k9 := PB.out u hSw
                  go_simp
                  try with_reducible rfl
                try simp only [Act.put, List.setIfInBounds_toArray, List.set_cons_zero, List.set_cons_succ]
                refine wpAnyH_take (i := 14) (oi := { dst := some 61, op := Op.indexAddr 26 (Operand.tmp 51) (Operand.tmp 52), type := 0, pos := "ref.go:68", after := #[{ on := 4, ground := Ground.data }, { on := 5, ground := Ground.data }, { on := 0, ground := Ground.phase }, { on := 1, ground := Ground.phase }, { on := 2, ground := Ground.phase }, { on := 3, ground := Ground.phase }, { on := 4, ground := Ground.phase }, { on := 5, ground := Ground.phase }, { on := 6, ground := Ground.phase }, { on := 7, ground := Ground.phase }, { on := 8, ground := Ground.phase }, { on := 9, ground := Ground.phase }, { on := 10, ground := Ground.phase }, { on := 11, ground := Ground.phase }, { on := 12, ground := Ground.phase }, { on := 13, ground := Ground.phase }], guard := none }) (v := ?_) rfl (by kernel_rfl) (by kernel_rfl) (by kernel_rfl) (fun _ _ _ h => h) (Or.inl ⟨by rfl, ?_⟩) hHeld ?_
                rotate_left
                · intro u hSw
                  go_simp
                  try with_reducible rfl
                try simp only [Act.put, List.setIfInBounds_toArray, List.set_cons_zero, List.set_cons_succ]
                refine wpAnyH_ready (rs := [15]) (by kernel_rfl) (by simp) ?_
                refine (AllReadyH.cons (o := { dst := none, op := Op.store 5 (Operand.tmp 61) (Operand.tmp 60), type := 0, pos := "ref.go:68", after := #[{ on := 14, ground := Ground.data }, { on := 13, ground := Ground.data }, { on := 0, ground := Ground.phase }, { on := 1, ground := Ground.phase }, { on := 2, ground := Ground.phase }, { on := 3, ground := Ground.phase }, { on := 4, ground := Ground.phase }, { on := 5, ground := Ground.phase }, { on := 6, ground := Ground.phase }, { on := 7, ground := Ground.phase }, { on := 8, ground := Ground.phase }, { on := 9, ground := Ground.phase }, { on := 10, ground := Ground.phase }, { on := 11, ground := Ground.phase }, { on := 12, ground := Ground.phase }, { on := 13, ground := Ground.phase }], guard := none }) rfl (fun K hK => ?_) AllReadyH.nil)
                have q0 := cellAt (HRX.out.row dq (by assumption)) b _ (vfs_get _ b (by rw [rowF_len]; exact hbh))
                have q1 : X.frozen? ⟨F0 + dq, b, none⟩ = false := frozen_of_row _ _ _ _ _ (HRX.out.row dq (by assumption))
                go_simp
                refine hK.out _ _ ?_ (fun hHeld => ?_)
                · exact grownBy_setCell GX _
                clear hK K
                try simp only [Act.put, List.setIfInBounds_toArray, List.set_cons_zero, List.set_cons_succ]
                refine wpAnyH_done (by kernel_rfl) ?_ _
                refine NoPanic.normal ?_
                obtain ⟨Z, hZ⟩ : ∃ Z, Z = X.setCell ⟨F0 + dq, b, none⟩ (.int .u8 ((at8 xs b).toNat : Int)) := ⟨_, rfl⟩
                have HZR : Hid (RunW w.heap.size Z M F0 Q k ol h g (upTo (inX L) ⟨1, (dq : Int), (sq : Int), c⟩ R9 (b + 1)) O9) := by
                  show RunW ..
                  rw [hZ, upTo_next (k := dq) (x := at8 xs b) rfl (fun h => absurd (show (1 : Int) = 5 from h) (by decide)) (by rw [doR_1 rfl]; exact (congrFun setR_same b).trans (inX_at HXS.out b))]
                  exact HRX.out.poke (by assumption) hbh _
                have HZB : Hid (Below w.heap.size w Z) := by show Below ..; rw [hZ]; exact HBX.out.setCell (p := ⟨F0 + dq, b, none⟩) (by show w.heap.size ≤ F0 + dq; have := HMB.out; omega) _
                have HZS : Hid (Z.heap[wo.heap.size]? = some (.cells #[.int .i64 1, .int .i64 (dq : Int), .int .i64 (sq : Int), .int .u8 (c.toNat : Int)] 55 (0, 0))) := by show _ = _; rw [hZ]; exact (heap_setCell_other _ _ _ _ (HSN.out dq hdq)).trans HSX.out
                rw [← hZ]
                clear hZ
                go_wp2
                exact ⟨⟨b + 1, by omega, by go_num, HZB.out, HZR.out, HZS.out⟩, by simp [intOf]; omega⟩
              · obtain ⟨dq, rfl⟩ := Int.eq_ofNat_of_zero_le hd0
                have hdq : dq < k := by omega
                clear hd0 hd1 hz1 hz2
                have p1 := cellAt HS.out 1 _ rfl
                have pm := cellAt HR.out.regs dq _ (slF_at hdq)
                have q0 := cellAt (HR.out.row dq hdq) b _ (vfs_get _ b (by rw [rowF_len]; exact hbh))
                have q1 : wr.frozen? ⟨F0 + dq, b, none⟩ = false := frozen_of_row _ _ _ _ _ (HR.out.row dq hdq)
                have HZR : Hid (RunW w.heap.size (wr.setCell ⟨F0 + dq, b, none⟩ (.int .u8 0)) M F0 Q k ol h g (upTo (inX L) ⟨2, (dq : Int), src, c⟩ R9 (b + 1)) O9) := by
                  show RunW ..
                  rw [upTo_next (k := dq) (x := 0) rfl (fun h => absurd (show (2 : Int) = 5 from h) (by decide)) (by rw [doR_2 rfl]; exact congrFun setR_same b)]
                  exact HR.out.poke hdq hbh 0
                have HZB : Hid (Below w.heap.size w (wr.setCell ⟨F0 + dq, b, none⟩ (.int .u8 0))) := HB.out.setCell (p := ⟨F0 + dq, b, none⟩) (by show w.heap.size ≤ F0 + dq; have := HMB.out; omega) _
                have HZS : Hid ((wr.setCell ⟨F0 + dq, b, none⟩ (.int .u8 0)).heap[wo.heap.size]? = some (.cells #[.int .i64 2, .int .i64 (dq : Int), .int .i64 src, .int .u8 (c.toNat : Int)] 55 (0, 0))) := (heap_setCell_other _ _ _ _ (HSN.out dq hdq)).trans HS.out
                go_wp2
                exact ⟨⟨b + 1, by omega, by go_num, HZB.out, HZR.out, HZS.out⟩, by simp [intOf]; omega⟩
              · obtain ⟨dq, rfl⟩ := Int.eq_ofNat_of_zero_le hd0
                have hdq : dq < k := by omega
                clear hd0 hd1 hz1
                go_wp2
                have P1 : Hid (∀ u, wr.grownBy u (some (F0 + dq)) → u.cell? ⟨wo.heap.size, 1, none⟩ = some (.int .i64 (dq : Int))) := fun u hu => cellAt ((hu.block _ (ltHeap HS.out) (fun e => HSN.out dq hdq (Option.some.inj e))).trans HS.out) 1 _ rfl
                have P3 : Hid (∀ u, wr.grownBy u (some (F0 + dq)) → u.cell? ⟨wo.heap.size, 3, none⟩ = some (.int .u8 (c.toNat : Int))) := fun u hu => cellAt ((hu.block _ (ltHeap HS.out) (fun e => HSN.out dq hdq (Option.some.inj e))).trans HS.out) 3 _ rfl
                have PM : Hid (∀ u, wr.grownBy u (some (F0 + dq)) → u.cell? ⟨M, dq, none⟩ = some (.slice (some ⟨F0 + dq, 0, none⟩) h h)) := fun u hu => cellAt ((hu.block _ (ltHeap HR.out.regs) (fun e => by have := Option.some.inj e; have := HR.out.hMF; omega)).trans HR.out.regs) dq _ (slF_at (by assumption))
                refine wp_region_noPanic ?_
                refine wp_region_held_drew (S := fun u => wr.grownBy u (some (F0 + dq))) (by kernel_rfl) ?_ (fun hHeld => ?_)
                · exact grownBy_drew (World.grownBy.refl _ _)
                obtain ⟨X, hX⟩ : ∃ X, X = wr.drew := ⟨_, rfl⟩
                have GX : wr.grownBy X (some (F0 + dq)) := by rw [hX]; exact grownBy_drew (World.grownBy.refl _ _)
                have HRX : Hid (RunW w.heap.size X M F0 Q k ol h g (upTo (inX L) ⟨3, (dq : Int), src, c⟩ R9 b) O9) := by show RunW ..; rw [hX]; exact HR.out.drew
                have HBX : Hid (Below w.heap.size w X) := by show Below ..; rw [hX]; exact HB.out.drew
                have HSX : Hid (X.heap[wo.heap.size]? = some (.cells #[.int .i64 3, .int .i64 (dq : Int), .int .i64 src, .int .u8 (c.toNat : Int)] 55 (0, 0))) := by show _ = _; rw [hX]; exact HS.out
                rw [← hX] at hHeld ⊢
                clear hX
                refine wpAnyH_take (i := 0) (oi := { dst := some 73, op := Op.move (Operand.tmp 7), type := 29, pos := "ref.go:72", after := #[], guard := none }) (v := ?_) rfl (by kernel_rfl) (by kernel_rfl) (by kernel_rfl) (fun _ _ _ h => h) (Or.inl ⟨by rfl, ?_⟩) hHeld ?_
                rotate_left
                · intro u hSw
                  go_simp
                  try with_reducible rfl
                try simp only [Act.put, List.setIfInBounds_toArray, List.set_cons_zero, List.set_cons_succ]
                refine wpAnyH_take (i := 1) (oi := { dst := some 74, op := Op.fieldAddr 55 (Operand.tmp 11) 1, type := 0, pos := "ref.go:72", after := #[], guard := none }) (v := ?_) rfl (by kernel_rfl) (by kernel_rfl) (by kernel_rfl) (fun _ _ _ h => h) (Or.inl ⟨by rfl, ?_⟩) hHeld ?_
                rotate_left
                · intro u hSw
                  go_simp
                  try with_reducible rfl
                try simp only [Act.put, List.setIfInBounds_toArray, List.set_cons_zero, List.set_cons_succ]
                refine wpAnyH_take (i := 2) (oi := { dst := some 75, op := Op.load 3 (Operand.tmp 74), type := 3, pos := "ref.go:72", after := #[{ on := 1, ground := Ground.data }], guard := none }) (v := ?_) rfl (by kernel_rfl) (by kernel_rfl) (by kernel_rfl) (fun _ _ _ h => h) (Or.inl ⟨by rfl, ?_⟩) hHeld ?_
                rotate_left
                · intro u hSw
                  have k9 := P1.out u hSw
                  go_simp
                  try with_reducible rfl
                try simp only [Act.put, List.setIfInBounds_toArray, List.set_cons_zero, List.set_cons_succ]
                refine wpAnyH_take (i := 3) (oi := { dst := some 76, op := Op.indexAddr 29 (Operand.tmp 73) (Operand.tmp 75), type := 0, pos := "ref.go:72", after := #[{ on := 0, ground := Ground.data }, { on := 2, ground := Ground.data }], guard := none }) (v := ?_) rfl (by kernel_rfl) (by kernel_rfl) (by kernel_rfl) (fun _ _ _ h => h) (Or.inl ⟨by rfl, ?_⟩) hHeld ?_
                rotate_left
                · intro u hSw
                  go_simp
                  try with_reducible rfl
                try simp only [Act.put, List.setIfInBounds_toArray, List.set_cons_zero, List.set_cons_succ]
                refine wpAnyH_take (i := 4) (oi := { dst := some 77, op := Op.load 26 (Operand.tmp 76), type := 26, pos := "ref.go:72", after := #[{ on := 3, ground := Ground.data }], guard := none }) (v := ?_) rfl (by kernel_rfl) (by kernel_rfl) (by kernel_rfl) (fun _ _ _ h => h) (Or.inl ⟨by rfl, ?_⟩) hHeld ?_
                rotate_left
                · intro u hSw
                  have k9 := PM.out u hSw
                  go_simp
                  try with_reducible rfl
                try simp only [Act.put, List.setIfInBounds_toArray, List.set_cons_zero, List.set_cons_succ]
                refine wpAnyH_take (i := 5) (oi := { dst := some 78, op := Op.move (Operand.tmp 12), type := 3, pos := "ref.go:72", after := #[], guard := none }) (v := ?_) rfl (by kernel_rfl) (by kernel_rfl) (by kernel_rfl) (fun _ _ _ h => h) (Or.inl ⟨by rfl, ?_⟩) hHeld ?_
                rotate_left
                · intro u hSw
                  go_simp
                  try with_reducible rfl
                try simp only [Act.put, List.setIfInBounds_toArray, List.set_cons_zero, List.set_cons_succ]
                refine wpAnyH_take (i := 6) (oi := { dst := some 79, op := Op.fieldAddr 55 (Operand.tmp 11) 3, type := 0, pos := "ref.go:72", after := #[], guard := none }) (v := ?_) rfl (by kernel_rfl) (by kernel_rfl) (by kernel_rfl) (fun _ _ _ h => h) (Or.inl ⟨by rfl, ?_⟩) hHeld ?_
                rotate_left
                · intro u hSw
                  go_simp
                  try with_reducible rfl
                try simp only [Act.put, List.setIfInBounds_toArray, List.set_cons_zero, List.set_cons_succ]
                refine wpAnyH_take (i := 7) (oi := { dst := some 80, op := Op.load 5 (Operand.tmp 79), type := 5, pos := "ref.go:72", after := #[{ on := 6, ground := Ground.data }], guard := none }) (v := ?_) rfl (by kernel_rfl) (by kernel_rfl) (by kernel_rfl) (fun _ _ _ h => h) (Or.inl ⟨by rfl, ?_⟩) hHeld ?_
                rotate_left
                · intro u hSw
                  have k9 := P3.out u hSw
                  go_simp
                  try with_reducible rfl
                try simp only [Act.put, List.setIfInBounds_toArray, List.set_cons_zero, List.set_cons_succ]
                refine wpAnyH_take (i := 8) (oi := { dst := some 81, op := Op.move (Operand.tmp 7), type := 29, pos := "ref.go:72", after := #[], guard := none }) (v := ?_) rfl (by kernel_rfl) (by kernel_rfl) (by kernel_rfl) (fun _ _ _ h => h) (Or.inl ⟨by rfl, ?_⟩) hHeld ?_
                rotate_left
                · intro u hSw
                  go_simp
                  try with_reducible rfl
                try simp only [Act.put, List.setIfInBounds_toArray, List.set_cons_zero, List.set_cons_succ]
                refine wpAnyH_take (i := 9) (oi := { dst := some 82, op := Op.fieldAddr 55 (Operand.tmp 11) 1, type := 0, pos := "ref.go:72", after := #[], guard := none }) (v := ?_) rfl (by kernel_rfl) (by kernel_rfl) (by kernel_rfl) (fun _ _ _ h => h) (Or.inl ⟨by rfl, ?_⟩) hHeld ?_
                rotate_left
                · intro u hSw
                  go_simp
                  try with_reducible rfl
                try simp only [Act.put, List.setIfInBounds_toArray, List.set_cons_zero, List.set_cons_succ]
                refine wpAnyH_take (i := 10) (oi := { dst := some 83, op := Op.load 3 (Operand.tmp 82), type := 3, pos := "ref.go:72", after := #[{ on := 9, ground := Ground.data }], guard := none }) (v := ?_) rfl (by kernel_rfl) (by kernel_rfl) (by kernel_rfl) (fun _ _ _ h => h) (Or.inl ⟨by rfl, ?_⟩) hHeld ?_
                rotate_left
                · intro u hSw
                  have k9 := P1.out u hSw
                  go_simp
                  try with_reducible rfl
                try simp only [Act.put, List.setIfInBounds_toArray, List.set_cons_zero, List.set_cons_succ]
                refine wpAnyH_take (i := 11) (oi := { dst := some 84, op := Op.indexAddr 29 (Operand.tmp 81) (Operand.tmp 83), type := 0, pos := "ref.go:72", after := #[{ on := 8, ground := Ground.data }, { on := 10, ground := Ground.data }], guard := none }) (v := ?_) rfl (by kernel_rfl) (by kernel_rfl) (by kernel_rfl) (fun _ _ _ h => h) (Or.inl ⟨by rfl, ?_⟩) hHeld ?_
                rotate_left
                · intro u hSw
                  go_simp
                  try with_reducible rfl
                try simp only [Act.put, List.setIfInBounds_toArray, List.set_cons_zero, List.set_cons_succ]
                refine wpAnyH_take (i := 12) (oi := { dst := some 85, op := Op.load 26 (Operand.tmp 84), type := 26, pos := "ref.go:72", after := #[{ on := 11, ground := Ground.data }], guard := none }) (v := ?_) rfl (by kernel_rfl) (by kernel_rfl) (by kernel_rfl) (fun _ _ _ h => h) (Or.inl ⟨by rfl, ?_⟩) hHeld ?_
                rotate_left
                · intro u hSw
                  have k9 := PM.out u hSw
                  go_simp
                  try with_reducible rfl
                try simp only [Act.put, List.setIfInBounds_toArray, List.set_cons_zero, List.set_cons_succ]
                refine wpAnyH_take (i := 13) (oi := { dst := some 86, op := Op.move (Operand.tmp 12), type := 3, pos := "ref.go:72", after := #[], guard := none }) (v := ?_) rfl (by kernel_rfl) (by kernel_rfl) (by kernel_rfl) (fun _ _ _ h => h) (Or.inl ⟨by rfl, ?_⟩) hHeld ?_
                rotate_left
                · intro u hSw
                  go_simp
                  try with_reducible rfl
                try simp only [Act.put, List.setIfInBounds_toArray, List.set_cons_zero, List.set_cons_succ]
                refine wpAnyH_take (i := 14) (oi := { dst := some 87, op := Op.indexAddr 26 (Operand.tmp 85) (Operand.tmp 86), type := 0, pos := "ref.go:72", after := #[{ on := 12, ground := Ground.data }, { on := 13, ground := Ground.data }], guard := none }) (v := ?_) rfl (by kernel_rfl) (by kernel_rfl) (by kernel_rfl) (fun _ _ _ h => h) (Or.inl ⟨by rfl, ?_⟩) hHeld ?_
                rotate_left
                · intro u hSw
                  go_simp
                  try with_reducible rfl
                try simp only [Act.put, List.setIfInBounds_toArray, List.set_cons_zero, List.set_cons_succ]
                refine wpAnyH_ready (rs := [15]) (by kernel_rfl) (by simp) ?_
                refine (AllReadyH.cons (o := { dst := some 88, op := Op.load 5 (Operand.tmp 87), type := 5, pos := "ref.go:72", after := #[{ on := 14, ground := Ground.data }], guard := none }) rfl (fun K hK => ?_) AllReadyH.nil)
                have q9 := cellAt (HRX.out.row dq (by assumption)) b _ (vfs_get _ b (by rw [rowF_len]; exact hbh))
                rw [at8_rowF hbh, upTo_at] at q9
                go_simp
                refine hK.out _ _ ?_ (fun hHeld => ?_)
                · exact GX
                clear hK K
                try simp only [Act.put, List.setIfInBounds_toArray, List.set_cons_zero, List.set_cons_succ]
                refine wpAnyH_ready (rs := [16]) (by kernel_rfl) (by simp) ?_
                refine (AllReadyH.cons (o := { dst := some 89, op := Op.call { callee := Callee.value (Operand.func 16), args := #[Operand.tmp 80, Operand.tmp 88], argTypes := #[5, 5] }, type := 5, pos := "ref.go:72", after := #[{ on := 7, ground := Ground.data }, { on := 15, ground := Ground.data }], guard := none }) rfl (fun K hK => ?_) AllReadyH.nil)
                go_simp
                refine (rmul_F c (R9 (dq : Int) b) _).mono ?_
                rintro e w9 ⟨rfl, rfl⟩
                go_wp2_with fail
                refine hK.out _ _ ?_ (fun hHeld => ?_)
                · exact GX
                clear hK K
                try simp only [Act.put, List.setIfInBounds_toArray, List.set_cons_zero, List.set_cons_succ]
                refine wpAnyH_take (i := 17) (oi := { dst := some 90, op := Op.indexAddr 26 (Operand.tmp 77) (Operand.tmp 78), type := 0, pos := "ref.go:72", after := #[{ on := 4, ground := Ground.data }, { on := 5, ground := Ground.data }, { on := 0, ground := Ground.phase }, { on := 1, ground := Ground.phase }, { on := 2, ground := Ground.phase }, { on := 3, ground := Ground.phase }, { on := 4, ground := Ground.phase }, { on := 5, ground := Ground.phase }, { on := 6, ground := Ground.phase }, { on := 7, ground := Ground.phase }, { on := 8, ground := Ground.phase }, { on := 9, ground := Ground.phase }, { on := 10, ground := Ground.phase }, { on := 11, ground := Ground.phase }, { on := 12, ground := Ground.phase }, { on := 13, ground := Ground.phase }, { on := 14, ground := Ground.phase }, { on := 15, ground := Ground.phase }, { on := 16, ground := Ground.phase }], guard := none }) (v := ?_) rfl (by kernel_rfl) (by kernel_rfl) (by kernel_rfl) (fun _ _ _ h => h) (Or.inl ⟨by rfl, ?_⟩) hHeld ?_
                rotate_left
                · intro u hSw
                  go_simp
                  try with_reducible rfl
                try simp only [Act.put, List.setIfInBounds_toArray, List.set_cons_zero, List.set_cons_succ]
                refine wpAnyH_ready (rs := [18]) (by kernel_rfl) (by simp) ?_
                refine (AllReadyH.cons (o := { dst := none, op := Op.store 5 (Operand.tmp 90) (Operand.tmp 89), type := 0, pos := "ref.go:72", after := #[{ on := 17, ground := Ground.data }, { on := 16, ground := Ground.data }, { on := 16, ground := Ground.chain }, { on := 0, ground := Ground.phase }, { on := 1, ground := Ground.phase }, { on := 2, ground := Ground.phase }, { on := 3, ground := Ground.phase }, { on := 4, ground := Ground.phase }, { on := 5, ground := Ground.phase }, { on := 6, ground := Ground.phase }, { on := 7, ground := Ground.phase }, { on := 8, ground := Ground.phase }, { on := 9, ground := Ground.phase }, { on := 10, ground := Ground.phase }, { on := 11, ground := Ground.phase }, { on := 12, ground := Ground.phase }, { on := 13, ground := Ground.phase }, { on := 14, ground := Ground.phase }, { on := 15, ground := Ground.phase }, { on := 16, ground := Ground.phase }], guard := none }) rfl (fun K hK => ?_) AllReadyH.nil)
                have q0 := cellAt (HRX.out.row dq (by assumption)) b _ (vfs_get _ b (by rw [rowF_len]; exact hbh))
                have q1 : X.frozen? ⟨F0 + dq, b, none⟩ = false := frozen_of_row _ _ _ _ _ (HRX.out.row dq (by assumption))
                go_simp
                refine hK.out _ _ ?_ (fun hHeld => ?_)
                · exact grownBy_setCell GX _
                clear hK K
                try simp only [Act.put, List.setIfInBounds_toArray, List.set_cons_zero, List.set_cons_succ]
                refine wpAnyH_done (by kernel_rfl) ?_ _
                refine NoPanic.normal ?_
                obtain ⟨Z, hZ⟩ : ∃ Z, Z = X.setCell ⟨F0 + dq, b, none⟩ (.int .u8 ((gm c (R9 (dq : Int) b)).toNat : Int)) := ⟨_, rfl⟩
                have HZR : Hid (RunW w.heap.size Z M F0 Q k ol h g (upTo (inX L) ⟨3, (dq : Int), src, c⟩ R9 (b + 1)) O9) := by
                  show RunW ..
                  rw [hZ, upTo_next (k := dq) (x := gm c (R9 (dq : Int) b)) rfl (fun h => absurd (show (3 : Int) = 5 from h) (by decide)) (by rw [doR_3 rfl]; exact congrFun setR_same b)]
                  exact HRX.out.poke (by assumption) hbh _
                have HZB : Hid (Below w.heap.size w Z) := by show Below ..; rw [hZ]; exact HBX.out.setCell (p := ⟨F0 + dq, b, none⟩) (by show w.heap.size ≤ F0 + dq; have := HMB.out; omega) _
                have HZS : Hid (Z.heap[wo.heap.size]? = some (.cells #[.int .i64 3, .int .i64 (dq : Int), .int .i64 src, .int .u8 (c.toNat : Int)] 55 (0, 0))) := by show _ = _; rw [hZ]; exact (heap_setCell_other _ _ _ _ (HSN.out dq hdq)).trans HSX.out
                rw [← hZ]
                clear hZ
                go_wp2
                exact ⟨⟨b + 1, by omega, by go_num, HZB.out, HZR.out, HZS.out⟩, by simp [intOf]; omega⟩
              · obtain ⟨dq, rfl⟩ := Int.eq_ofNat_of_zero_le hd0
                obtain ⟨sq, rfl⟩ := Int.eq_ofNat_of_zero_le hs0
                have hdq : dq < k := by omega
                have hsq : sq < k := by omega
                clear hd0 hd1 hs0 hs1
                go_wp2
                have P1 : Hid (∀ u, wr.grownBy u (some (F0 + dq)) → u.cell? ⟨wo.heap.size, 1, none⟩ = some (.int .i64 (dq : Int))) := fun u hu => cellAt ((hu.block _ (ltHeap HS.out) (fun e => HSN.out dq hdq (Option.some.inj e))).trans HS.out) 1 _ rfl
                have P2 : Hid (∀ u, wr.grownBy u (some (F0 + dq)) → u.cell? ⟨wo.heap.size, 2, none⟩ = some (.int .i64 (sq : Int))) := fun u hu => cellAt ((hu.block _ (ltHeap HS.out) (fun e => HSN.out dq hdq (Option.some.inj e))).trans HS.out) 2 _ rfl
                have P3 : Hid (∀ u, wr.grownBy u (some (F0 + dq)) → u.cell? ⟨wo.heap.size, 3, none⟩ = some (.int .u8 (c.toNat : Int))) := fun u hu => cellAt ((hu.block _ (ltHeap HS.out) (fun e => HSN.out dq hdq (Option.some.inj e))).trans HS.out) 3 _ rfl
                have PM : Hid (∀ u, wr.grownBy u (some (F0 + dq)) → u.cell? ⟨M, dq, none⟩ = some (.slice (some ⟨F0 + dq, 0, none⟩) h h)) := fun u hu => cellAt ((hu.block _ (ltHeap HR.out.regs) (fun e => by have := Option.some.inj e; have := HR.out.hMF; omega)).trans HR.out.regs) dq _ (slF_at (by assumption))
                have PQ : Hid (∀ u, wr.grownBy u (some (F0 + dq)) → u.cell? ⟨M, sq, none⟩ = some (.slice (some ⟨F0 + sq, 0, none⟩) h h)) := fun u hu => cellAt ((hu.block _ (ltHeap HR.out.regs) (fun e => by have := Option.some.inj e; have := HR.out.hMF; omega)).trans HR.out.regs) sq _ (slF_at (by assumption))
                refine wp_region_noPanic ?_
                refine wp_region_held_drew (S := fun u => wr.grownBy u (some (F0 + dq))) (by kernel_rfl) ?_ (fun hHeld => ?_)
                · exact grownBy_drew (World.grownBy.refl _ _)
                obtain ⟨X, hX⟩ : ∃ X, X = wr.drew := ⟨_, rfl⟩
                have GX : wr.grownBy X (some (F0 + dq)) := by rw [hX]; exact grownBy_drew (World.grownBy.refl _ _)
                have HRX : Hid (RunW w.heap.size X M F0 Q k ol h g (upTo (inX L) ⟨4, (dq : Int), (sq : Int), c⟩ R9 b) O9) := by show RunW ..; rw [hX]; exact HR.out.drew
                have HBX : Hid (Below w.heap.size w X) := by show Below ..; rw [hX]; exact HB.out.drew
                have HSX : Hid (X.heap[wo.heap.size]? = some (.cells #[.int .i64 4, .int .i64 (dq : Int), .int .i64 (sq : Int), .int .u8 (c.toNat : Int)] 55 (0, 0))) := by show _ = _; rw [hX]; exact HS.out
                rw [← hX] at hHeld ⊢
                clear hX
                refine wpAnyH_take (i := 0) (oi := { dst := some 93, op := Op.move (Operand.tmp 7), type := 29, pos := "ref.go:74", after := #[], guard := none }) (v := ?_) rfl (by kernel_rfl) (by kernel_rfl) (by kernel_rfl) (fun _ _ _ h => h) (Or.inl ⟨by rfl, ?_⟩) hHeld ?_
                rotate_left
                · intro u hSw
                  go_simp
                  try with_reducible rfl
                try simp only [Act.put, List.setIfInBounds_toArray, List.set_cons_zero, List.set_cons_succ]
                refine wpAnyH_take (i := 1) (oi := { dst := some 94, op := Op.fieldAddr 55 (Operand.tmp 11) 1, type := 0, pos := "ref.go:74", after := #[], guard := none }) (v := ?_) rfl (by kernel_rfl) (by kernel_rfl) (by kernel_rfl) (fun _ _ _ h => h) (Or.inl ⟨by rfl, ?_⟩) hHeld ?_
                rotate_left
                · intro u hSw
                  go_simp
                  try with_reducible rfl
                try simp only [Act.put, List.setIfInBounds_toArray, List.set_cons_zero, List.set_cons_succ]
                refine wpAnyH_take (i := 2) (oi := { dst := some 95, op := Op.load 3 (Operand.tmp 94), type := 3, pos := "ref.go:74", after := #[{ on := 1, ground := Ground.data }], guard := none }) (v := ?_) rfl (by kernel_rfl) (by kernel_rfl) (by kernel_rfl) (fun _ _ _ h => h) (Or.inl ⟨by rfl, ?_⟩) hHeld ?_
                rotate_left
                · intro u hSw
                  have k9 := P1.out u hSw
                  go_simp
                  try with_reducible rfl
                try simp only [Act.put, List.setIfInBounds_toArray, List.set_cons_zero, List.set_cons_succ]
                refine wpAnyH_take (i := 3) (oi := { dst := some 96, op := Op.indexAddr 29 (Operand.tmp 93) (Operand.tmp 95), type := 0, pos := "ref.go:74", after := #[{ on := 0, ground := Ground.data }, { on := 2, ground := Ground.data }], guard := none }) (v := ?_) rfl (by kernel_rfl) (by kernel_rfl) (by kernel_rfl) (fun _ _ _ h => h) (Or.inl ⟨by rfl, ?_⟩) hHeld ?_
                rotate_left
                · intro u hSw
                  go_simp
                  try with_reducible rfl
                try simp only [Act.put, List.setIfInBounds_toArray, List.set_cons_zero, List.set_cons_succ]
                refine wpAnyH_take (i := 4) (oi := { dst := some 97, op := Op.load 26 (Operand.tmp 96), type := 26, pos := "ref.go:74", after := #[{ on := 3, ground := Ground.data }], guard := none }) (v := ?_) rfl (by kernel_rfl) (by kernel_rfl) (by kernel_rfl) (fun _ _ _ h => h) (Or.inl ⟨by rfl, ?_⟩) hHeld ?_
                rotate_left
                · intro u hSw
                  have k9 := PM.out u hSw
                  go_simp
                  try with_reducible rfl
                try simp only [Act.put, List.setIfInBounds_toArray, List.set_cons_zero, List.set_cons_succ]
                refine wpAnyH_take (i := 5) (oi := { dst := some 98, op := Op.move (Operand.tmp 12), type := 3, pos := "ref.go:74", after := #[], guard := none }) (v := ?_) rfl (by kernel_rfl) (by kernel_rfl) (by kernel_rfl) (fun _ _ _ h => h) (Or.inl ⟨by rfl, ?_⟩) hHeld ?_
                rotate_left
                · intro u hSw
                  go_simp
                  try with_reducible rfl
                try simp only [Act.put, List.setIfInBounds_toArray, List.set_cons_zero, List.set_cons_succ]
                refine wpAnyH_take (i := 6) (oi := { dst := some 99, op := Op.indexAddr 26 (Operand.tmp 97) (Operand.tmp 98), type := 0, pos := "ref.go:74", after := #[{ on := 4, ground := Ground.data }, { on := 5, ground := Ground.data }], guard := none }) (v := ?_) rfl (by kernel_rfl) (by kernel_rfl) (by kernel_rfl) (fun _ _ _ h => h) (Or.inl ⟨by rfl, ?_⟩) hHeld ?_
                rotate_left
                · intro u hSw
                  go_simp
                  try with_reducible rfl
                try simp only [Act.put, List.setIfInBounds_toArray, List.set_cons_zero, List.set_cons_succ]
                refine wpAnyH_take (i := 8) (oi := { dst := some 101, op := Op.fieldAddr 55 (Operand.tmp 11) 3, type := 0, pos := "ref.go:74", after := #[], guard := none }) (v := ?_) rfl (by kernel_rfl) (by kernel_rfl) (by kernel_rfl) (fun _ _ _ h => h) (Or.inl ⟨by rfl, ?_⟩) hHeld ?_
                rotate_left
                · intro u hSw
                  go_simp
                  try with_reducible rfl
                try simp only [Act.put, List.setIfInBounds_toArray, List.set_cons_zero, List.set_cons_succ]
                refine wpAnyH_take (i := 9) (oi := { dst := some 102, op := Op.load 5 (Operand.tmp 101), type := 5, pos := "ref.go:74", after := #[{ on := 8, ground := Ground.data }], guard := none }) (v := ?_) rfl (by kernel_rfl) (by kernel_rfl) (by kernel_rfl) (fun _ _ _ h => h) (Or.inl ⟨by rfl, ?_⟩) hHeld ?_
                rotate_left
                · intro u hSw
                  have k9 := P3.out u hSw
                  go_simp
                  try with_reducible rfl
                try simp only [Act.put, List.setIfInBounds_toArray, List.set_cons_zero, List.set_cons_succ]
                refine wpAnyH_take (i := 10) (oi := { dst := some 103, op := Op.move (Operand.tmp 7), type := 29, pos := "ref.go:74", after := #[], guard := none }) (v := ?_) rfl (by kernel_rfl) (by kernel_rfl) (by kernel_rfl) (fun _ _ _ h => h) (Or.inl ⟨by rfl, ?_⟩) hHeld ?_
                rotate_left
                · intro u hSw
                  go_simp
                  try with_reducible rfl
                try simp only [Act.put, List.setIfInBounds_toArray, List.set_cons_zero, List.set_cons_succ]
                refine wpAnyH_take (i := 11) (oi := { dst := some 104, op := Op.fieldAddr 55 (Operand.tmp 11) 2, type := 0, pos := "ref.go:74", after := #[], guard := none }) (v := ?_) rfl (by kernel_rfl) (by kernel_rfl) (by kernel_rfl) (fun _ _ _ h => h) (Or.inl ⟨by rfl, ?_⟩) hHeld ?_
                rotate_left
                · intro u hSw
                  go_simp
                  try with_reducible rfl
                try simp only [Act.put, List.setIfInBounds_toArray, List.set_cons_zero, List.set_cons_succ]
                refine wpAnyH_take (i := 12) (oi := { dst := some 105, op := Op.load 3 (Operand.tmp 104), type := 3, pos := "ref.go:74", after := #[{ on := 11, ground := Ground.data }], guard := none }) (v := ?_) rfl (by kernel_rfl) (by kernel_rfl) (by kernel_rfl) (fun _ _ _ h => h) (Or.inl ⟨by rfl, ?_⟩) hHeld ?_
                rotate_left
                · intro u hSw
                  have k9 := P2.out u hSw
                  go_simp
                  try with_reducible rfl
                try simp only [Act.put, List.setIfInBounds_toArray, List.set_cons_zero, List.set_cons_succ]
                refine wpAnyH_take (i := 13) (oi := { dst := some 106, op := Op.indexAddr 29 (Operand.tmp 103) (Operand.tmp 105), type := 0, pos := "ref.go:74", after := #[{ on := 10, ground := Ground.data }, { on := 12, ground := Ground.data }], guard := none }) (v := ?_) rfl (by kernel_rfl) (by kernel_rfl) (by kernel_rfl) (fun _ _ _ h => h) (Or.inl ⟨by rfl, ?_⟩) hHeld ?_
                rotate_left
                · intro u hSw
                  go_simp
                  try with_reducible rfl
                try simp only [Act.put, List.setIfInBounds_toArray, List.set_cons_zero, List.set_cons_succ]
                refine wpAnyH_take (i := 14) (oi := { dst := some 107, op := Op.load 26 (Operand.tmp 106), type := 26, pos := "ref.go:74", after := #[{ on := 13, ground := Ground.data }], guard := none }) (v := ?_) rfl (by kernel_rfl) (by kernel_rfl) (by kernel_rfl) (fun _ _ _ h => h) (Or.inl ⟨by rfl, ?_⟩) hHeld ?_
                rotate_left
                · intro u hSw
                  have k9 := PQ.out u hSw
                  go_simp
                  try with_reducible rfl
                try simp only [Act.put, List.setIfInBounds_toArray, List.set_cons_zero, List.set_cons_succ]
                refine wpAnyH_take (i := 15) (oi := { dst := some 108, op := Op.move (Operand.tmp 12), type := 3, pos := "ref.go:74", after := #[], guard := none }) (v := ?_) rfl (by kernel_rfl) (by kernel_rfl) (by kernel_rfl) (fun _ _ _ h => h) (Or.inl ⟨by rfl, ?_⟩) hHeld ?_
                rotate_left
                · intro u hSw
                  go_simp
                  try with_reducible rfl
                try simp only [Act.put, List.setIfInBounds_toArray, List.set_cons_zero, List.set_cons_succ]
                refine wpAnyH_take (i := 16) (oi := { dst := some 109, op := Op.indexAddr 26 (Operand.tmp 107) (Operand.tmp 108), type := 0, pos := "ref.go:74", after := #[{ on := 14, ground := Ground.data }, { on := 15, ground := Ground.data }], guard := none }) (v := ?_) rfl (by kernel_rfl) (by kernel_rfl) (by kernel_rfl) (fun _ _ _ h => h) (Or.inl ⟨by rfl, ?_⟩) hHeld ?_
                rotate_left
                · intro u hSw
                  go_simp
                  try with_reducible rfl
                try simp only [Act.put, List.setIfInBounds_toArray, List.set_cons_zero, List.set_cons_succ]
                refine wpAnyH_ready (rs := [7, 17]) (by kernel_rfl) (by simp) ?_
                refine (AllReadyH.cons (o := { dst := some 100, op := Op.load 5 (Operand.tmp 99), type := 5, pos := "ref.go:74", after := #[{ on := 6, ground := Ground.data }], guard := none }) rfl (fun K hK => ?_) (AllReadyH.cons (o := { dst := some 110, op := Op.load 5 (Operand.tmp 109), type := 5, pos := "ref.go:74", after := #[{ on := 16, ground := Ground.data }], guard := none }) rfl (fun K hK => ?_) AllReadyH.nil))
                · have q9 := cellAt (HRX.out.row dq (by assumption)) b _ (vfs_get _ b (by rw [rowF_len]; exact hbh))
                  rw [at8_rowF hbh, upTo_at] at q9
                  go_simp
                  refine hK.out _ _ ?_ (fun hHeld => ?_)
                  · exact GX
                  clear hK K
                  try simp only [Act.put, List.setIfInBounds_toArray, List.set_cons_zero, List.set_cons_succ]
                  refine wpAnyH_ready (rs := [17]) (by kernel_rfl) (by simp) ?_
                  refine (AllReadyH.cons (o := { dst := some 110, op := Op.load 5 (Operand.tmp 109), type := 5, pos := "ref.go:74", after := #[{ on := 16, ground := Ground.data }], guard := none }) rfl (fun K hK => ?_) AllReadyH.nil)
                  have q8 := cellAt (HRX.out.row sq (by assumption)) b _ (vfs_get _ b (by rw [rowF_len]; exact hbh))
                  rw [at8_rowF hbh, upTo_at] at q8
                  go_simp
                  refine hK.out _ _ ?_ (fun hHeld => ?_)
                  · exact GX
                  clear hK K
                  try simp only [Act.put, List.setIfInBounds_toArray, List.set_cons_zero, List.set_cons_succ]
                  refine wpAnyH_ready (rs := [18]) (by kernel_rfl) (by simp) ?_
                  refine (AllReadyH.cons (o := { dst := some 111, op := Op.call { callee := Callee.value (Operand.func 16), args := #[Operand.tmp 102, Operand.tmp 110], argTypes := #[5, 5] }, type := 5, pos := "ref.go:74", after := #[{ on := 9, ground := Ground.data }, { on := 17, ground := Ground.data }], guard := none }) rfl (fun K hK => ?_) AllReadyH.nil)
                  go_simp
                  refine (rmul_F c (R9 (sq : Int) b) _).mono ?_
                  rintro e w9 ⟨rfl, rfl⟩
                  go_wp2_with fail
                  refine hK.out _ _ ?_ (fun hHeld => ?_)
                  · exact GX
                  clear hK K
                  try simp only [Act.put, List.setIfInBounds_toArray, List.set_cons_zero, List.set_cons_succ]
                  refine wpAnyH_take (i := 19) (oi := { dst := some 112, op := Op.binOp BinOp.xor 5 (Operand.tmp 100) (Operand.tmp 111) 5, type := 5, pos := "ref.go:74", after := #[{ on := 7, ground := Ground.data }, { on := 18, ground := Ground.data }], guard := none }) (v := ?_) rfl (by kernel_rfl) (by kernel_rfl) (by kernel_rfl) (fun _ _ _ h => h) (Or.inl ⟨by rfl, ?_⟩) hHeld ?_
                  rotate_left
                  · intro u hSw
                    go_simp
                    try with_reducible rfl
                  try simp only [Act.put, List.setIfInBounds_toArray, List.set_cons_zero, List.set_cons_succ]
                  refine wpAnyH_take (i := 20) (oi := { dst := some 113, op := Op.indexAddr 26 (Operand.tmp 97) (Operand.tmp 98), type := 0, pos := "ref.go:74", after := #[{ on := 4, ground := Ground.data }, { on := 5, ground := Ground.data }, { on := 0, ground := Ground.phase }, { on := 1, ground := Ground.phase }, { on := 2, ground := Ground.phase }, { on := 3, ground := Ground.phase }, { on := 4, ground := Ground.phase }, { on := 5, ground := Ground.phase }, { on := 6, ground := Ground.phase }, { on := 7, ground := Ground.phase }, { on := 8, ground := Ground.phase }, { on := 9, ground := Ground.phase }, { on := 10, ground := Ground.phase }, { on := 11, ground := Ground.phase }, { on := 12, ground := Ground.phase }, { on := 13, ground := Ground.phase }, { on := 14, ground := Ground.phase }, { on := 15, ground := Ground.phase }, { on := 16, ground := Ground.phase }, { on := 17, ground := Ground.phase }, { on := 18, ground := Ground.phase }, { on := 19, ground := Ground.phase }], guard := none }) (v := ?_) rfl (by kernel_rfl) (by kernel_rfl) (by kernel_rfl) (fun _ _ _ h => h) (Or.inl ⟨by rfl, ?_⟩) hHeld ?_
                  rotate_left
                  · intro u hSw
                    go_simp
                    try with_reducible rfl
                  try simp only [Act.put, List.setIfInBounds_toArray, List.set_cons_zero, List.set_cons_succ]
                  refine wpAnyH_ready (rs := [21]) (by kernel_rfl) (by simp) ?_
                  refine (AllReadyH.cons (o := { dst := none, op := Op.store 5 (Operand.tmp 113) (Operand.tmp 112), type := 0, pos := "ref.go:74", after := #[{ on := 20, ground := Ground.data }, { on := 19, ground := Ground.data }, { on := 18, ground := Ground.chain }, { on := 0, ground := Ground.phase }, { on := 1, ground := Ground.phase }, { on := 2, ground := Ground.phase }, { on := 3, ground := Ground.phase }, { on := 4, ground := Ground.phase }, { on := 5, ground := Ground.phase }, { on := 6, ground := Ground.phase }, { on := 7, ground := Ground.phase }, { on := 8, ground := Ground.phase }, { on := 9, ground := Ground.phase }, { on := 10, ground := Ground.phase }, { on := 11, ground := Ground.phase }, { on := 12, ground := Ground.phase }, { on := 13, ground := Ground.phase }, { on := 14, ground := Ground.phase }, { on := 15, ground := Ground.phase }, { on := 16, ground := Ground.phase }, { on := 17, ground := Ground.phase }, { on := 18, ground := Ground.phase }, { on := 19, ground := Ground.phase }], guard := none }) rfl (fun K hK => ?_) AllReadyH.nil)
                  have q0 := cellAt (HRX.out.row dq (by assumption)) b _ (vfs_get _ b (by rw [rowF_len]; exact hbh))
                  have q1 : X.frozen? ⟨F0 + dq, b, none⟩ = false := frozen_of_row _ _ _ _ _ (HRX.out.row dq (by assumption))
                  go_simp
                  refine hK.out _ _ ?_ (fun hHeld => ?_)
                  · exact grownBy_setCell GX _
                  clear hK K
                  try simp only [Act.put, List.setIfInBounds_toArray, List.set_cons_zero, List.set_cons_succ]
                  refine wpAnyH_done (by kernel_rfl) ?_ _
                  refine NoPanic.normal ?_
                  obtain ⟨Z, hZ⟩ : ∃ Z, Z = X.setCell ⟨F0 + dq, b, none⟩ (.int .u8 ((ga (R9 (dq : Int) b) (gm c (R9 (sq : Int) b))).toNat : Int)) := ⟨_, rfl⟩
                  have HZR : Hid (RunW w.heap.size Z M F0 Q k ol h g (upTo (inX L) ⟨4, (dq : Int), (sq : Int), c⟩ R9 (b + 1)) O9) := by
                    show RunW ..
                    rw [hZ, upTo_next (k := dq) (x := ga (R9 (dq : Int) b) (gm c (R9 (sq : Int) b))) rfl (fun h => absurd (show (4 : Int) = 5 from h) (by decide)) (by rw [doR_4 rfl]; exact congrFun setR_same b)]
                    exact HRX.out.poke (by assumption) hbh _
                  have HZB : Hid (Below w.heap.size w Z) := by show Below ..; rw [hZ]; exact HBX.out.setCell (p := ⟨F0 + dq, b, none⟩) (by show w.heap.size ≤ F0 + dq; have := HMB.out; omega) _
                  have HZS : Hid (Z.heap[wo.heap.size]? = some (.cells #[.int .i64 4, .int .i64 (dq : Int), .int .i64 (sq : Int), .int .u8 (c.toNat : Int)] 55 (0, 0))) := by show _ = _; rw [hZ]; exact (heap_setCell_other _ _ _ _ (HSN.out dq hdq)).trans HSX.out
                  rw [xor_val, ← hZ]
                  clear hZ
                  go_wp2
                  exact ⟨⟨b + 1, by omega, by go_num, HZB.out, HZR.out, HZS.out⟩, by simp [intOf]; omega⟩
                · have q8 := cellAt (HRX.out.row sq (by assumption)) b _ (vfs_get _ b (by rw [rowF_len]; exact hbh))
                  rw [at8_rowF hbh, upTo_at] at q8
                  go_simp
                  refine hK.out _ _ ?_ (fun hHeld => ?_)
                  · exact GX
                  clear hK K
                  try simp only [Act.put, List.setIfInBounds_toArray, List.set_cons_zero, List.set_cons_succ]
                  refine wpAnyH_ready (rs := [7, 18]) (by kernel_rfl) (by simp) ?_
                  refine (AllReadyH.cons (o := { dst := some 100, op := Op.load 5 (Operand.tmp 99), type := 5, pos := "ref.go:74", after := #[{ on := 6, ground := Ground.data }], guard := none }) rfl (fun K hK => ?_) (AllReadyH.cons (o := { dst := some 111, op := Op.call { callee := Callee.value (Operand.func 16), args := #[Operand.tmp 102, Operand.tmp 110], argTypes := #[5, 5] }, type := 5, pos := "ref.go:74", after := #[{ on := 9, ground := Ground.data }, { on := 17, ground := Ground.data }], guard := none }) rfl (fun K hK => ?_) AllReadyH.nil))
                  · have q9 := cellAt (HRX.out.row dq (by assumption)) b _ (vfs_get _ b (by rw [rowF_len]; exact hbh))
                    rw [at8_rowF hbh, upTo_at] at q9
                    go_simp
                    refine hK.out _ _ ?_ (fun hHeld => ?_)
                    · exact GX
                    clear hK K
                    try simp only [Act.put, List.setIfInBounds_toArray, List.set_cons_zero, List.set_cons_succ]
                    refine wpAnyH_ready (rs := [18]) (by kernel_rfl) (by simp) ?_
                    refine (AllReadyH.cons (o := { dst := some 111, op := Op.call { callee := Callee.value (Operand.func 16), args := #[Operand.tmp 102, Operand.tmp 110], argTypes := #[5, 5] }, type := 5, pos := "ref.go:74", after := #[{ on := 9, ground := Ground.data }, { on := 17, ground := Ground.data }], guard := none }) rfl (fun K hK => ?_) AllReadyH.nil)
                    go_simp
                    refine (rmul_F c (R9 (sq : Int) b) _).mono ?_
                    rintro e w9 ⟨rfl, rfl⟩
                    go_wp2_with fail
                    refine hK.out _ _ ?_ (fun hHeld => ?_)
                    · exact GX
                    clear hK K
                    try simp only [Act.put, List.setIfInBounds_toArray, List.set_cons_zero, List.set_cons_succ]
                    refine wpAnyH_take (i := 19) (oi := { dst := some 112, op := Op.binOp BinOp.xor 5 (Operand.tmp 100) (Operand.tmp 111) 5, type := 5, pos := "ref.go:74", after := #[{ on := 7, ground := Ground.data }, { on := 18, ground := Ground.data }], guard := none }) (v := ?_) rfl (by kernel_rfl) (by kernel_rfl) (by kernel_rfl) (fun _ _ _ h => h) (Or.inl ⟨by rfl, ?_⟩) hHeld ?_
                    rotate_left
                    · intro u hSw
                      go_simp
                      try with_reducible rfl
                    try simp only [Act.put, List.setIfInBounds_toArray, List.set_cons_zero, List.set_cons_succ]
                    refine wpAnyH_take (i := 20) (oi := { dst := some 113, op := Op.indexAddr 26 (Operand.tmp 97) (Operand.tmp 98), type := 0, pos := "ref.go:74", after := #[{ on := 4, ground := Ground.data }, { on := 5, ground := Ground.data }, { on := 0, ground := Ground.phase }, { on := 1, ground := Ground.phase }, { on := 2, ground := Ground.phase }, { on := 3, ground := Ground.phase }, { on := 4, ground := Ground.phase }, { on := 5, ground := Ground.phase }, { on := 6, ground := Ground.phase }, { on := 7, ground := Ground.phase }, { on := 8, ground := Ground.phase }, { on := 9, ground := Ground.phase }, { on := 10, ground := Ground.phase }, { on := 11, ground := Ground.phase }, { on := 12, ground := Ground.phase }, { on := 13, ground := Ground.phase }, { on := 14, ground := Ground.phase }, { on := 15, ground := Ground.phase }, { on := 16, ground := Ground.phase }, { on := 17, ground := Ground.phase }, { on := 18, ground := Ground.phase }, { on := 19, ground := Ground.phase }], guard := none }) (v := ?_) rfl (by kernel_rfl) (by kernel_rfl) (by kernel_rfl) (fun _ _ _ h => h) (Or.inl ⟨by rfl, ?_⟩) hHeld ?_
                    rotate_left
                    · intro u hSw
                      go_simp
                      try with_reducible rfl
                    try simp only [Act.put, List.setIfInBounds_toArray, List.set_cons_zero, List.set_cons_succ]
                    refine wpAnyH_ready (rs := [21]) (by kernel_rfl) (by simp) ?_
                    refine (AllReadyH.cons (o := { dst := none, op := Op.store 5 (Operand.tmp 113) (Operand.tmp 112), type := 0, pos := "ref.go:74", after := #[{ on := 20, ground := Ground.data }, { on := 19, ground := Ground.data }, { on := 18, ground := Ground.chain }, { on := 0, ground := Ground.phase }, { on := 1, ground := Ground.phase }, { on := 2, ground := Ground.phase }, { on := 3, ground := Ground.phase }, { on := 4, ground := Ground.phase }, { on := 5, ground := Ground.phase }, { on := 6, ground := Ground.phase }, { on := 7, ground := Ground.phase }, { on := 8, ground := Ground.phase }, { on := 9, ground := Ground.phase }, { on := 10, ground := Ground.phase }, { on := 11, ground := Ground.phase }, { on := 12, ground := Ground.phase }, { on := 13, ground := Ground.phase }, { on := 14, ground := Ground.phase }, { on := 15, ground := Ground.phase }, { on := 16, ground := Ground.phase }, { on := 17, ground := Ground.phase }, { on := 18, ground := Ground.phase }, { on := 19, ground := Ground.phase }], guard := none }) rfl (fun K hK => ?_) AllReadyH.nil)
                    have q0 := cellAt (HRX.out.row dq (by assumption)) b _ (vfs_get _ b (by rw [rowF_len]; exact hbh))
                    have q1 : X.frozen? ⟨F0 + dq, b, none⟩ = false := frozen_of_row _ _ _ _ _ (HRX.out.row dq (by assumption))
                    go_simp
                    refine hK.out _ _ ?_ (fun hHeld => ?_)
                    · exact grownBy_setCell GX _
                    clear hK K
                    try simp only [Act.put, List.setIfInBounds_toArray, List.set_cons_zero, List.set_cons_succ]
                    refine wpAnyH_done (by kernel_rfl) ?_ _
                    refine NoPanic.normal ?_
                    obtain ⟨Z, hZ⟩ : ∃ Z, Z = X.setCell ⟨F0 + dq, b, none⟩ (.int .u8 ((ga (R9 (dq : Int) b) (gm c (R9 (sq : Int) b))).toNat : Int)) := ⟨_, rfl⟩
                    have HZR : Hid (RunW w.heap.size Z M F0 Q k ol h g (upTo (inX L) ⟨4, (dq : Int), (sq : Int), c⟩ R9 (b + 1)) O9) := by
                      show RunW ..
                      rw [hZ, upTo_next (k := dq) (x := ga (R9 (dq : Int) b) (gm c (R9 (sq : Int) b))) rfl (fun h => absurd (show (4 : Int) = 5 from h) (by decide)) (by rw [doR_4 rfl]; exact congrFun setR_same b)]
                      exact HRX.out.poke (by assumption) hbh _
                    have HZB : Hid (Below w.heap.size w Z) := by show Below ..; rw [hZ]; exact HBX.out.setCell (p := ⟨F0 + dq, b, none⟩) (by show w.heap.size ≤ F0 + dq; have := HMB.out; omega) _
                    have HZS : Hid (Z.heap[wo.heap.size]? = some (.cells #[.int .i64 4, .int .i64 (dq : Int), .int .i64 (sq : Int), .int .u8 (c.toNat : Int)] 55 (0, 0))) := by show _ = _; rw [hZ]; exact (heap_setCell_other _ _ _ _ (HSN.out dq hdq)).trans HSX.out
                    rw [xor_val, ← hZ]
                    clear hZ
                    go_wp2
                    exact ⟨⟨b + 1, by omega, by go_num, HZB.out, HZR.out, HZS.out⟩, by simp [intOf]; omega⟩
                  · go_simp
                    refine (rmul_F c (R9 (sq : Int) b) _).mono ?_
                    rintro e w9 ⟨rfl, rfl⟩
                    go_wp2_with fail
                    refine hK.out _ _ ?_ (fun hHeld => ?_)
                    · exact GX
                    clear hK K
                    try simp only [Act.put, List.setIfInBounds_toArray, List.set_cons_zero, List.set_cons_succ]
                    refine wpAnyH_ready (rs := [7]) (by kernel_rfl) (by simp) ?_
                    refine (AllReadyH.cons (o := { dst := some 100, op := Op.load 5 (Operand.tmp 99), type := 5, pos := "ref.go:74", after := #[{ on := 6, ground := Ground.data }], guard := none }) rfl (fun K hK => ?_) AllReadyH.nil)
                    have q9 := cellAt (HRX.out.row dq (by assumption)) b _ (vfs_get _ b (by rw [rowF_len]; exact hbh))
                    rw [at8_rowF hbh, upTo_at] at q9
                    go_simp
                    refine hK.out _ _ ?_ (fun hHeld => ?_)
                    · exact GX
                    clear hK K
                    try simp only [Act.put, List.setIfInBounds_toArray, List.set_cons_zero, List.set_cons_succ]
                    refine wpAnyH_take (i := 19) (oi := { dst := some 112, op := Op.binOp BinOp.xor 5 (Operand.tmp 100) (Operand.tmp 111) 5, type := 5, pos := "ref.go:74", after := #[{ on := 7, ground := Ground.data }, { on := 18, ground := Ground.data }], guard := none }) (v := ?_) rfl (by kernel_rfl) (by kernel_rfl) (by kernel_rfl) (fun _ _ _ h => h) (Or.inl ⟨by rfl, ?_⟩) hHeld ?_
                    rotate_left
                    · intro u hSw
                      go_simp
                      try with_reducible rfl
                    try simp only [Act.put, List.setIfInBounds_toArray, List.set_cons_zero, List.set_cons_succ]
                    refine wpAnyH_take (i := 20) (oi := { dst := some 113, op := Op.indexAddr 26 (Operand.tmp 97) (Operand.tmp 98), type := 0, pos := "ref.go:74", after := #[{ on := 4, ground := Ground.data }, { on := 5, ground := Ground.data }, { on := 0, ground := Ground.phase }, { on := 1, ground := Ground.phase }, { on := 2, ground := Ground.phase }, { on := 3, ground := Ground.phase }, { on := 4, ground := Ground.phase }, { on := 5, ground := Ground.phase }, { on := 6, ground := Ground.phase }, { on := 7, ground := Ground.phase }, { on := 8, ground := Ground.phase }, { on := 9, ground := Ground.phase }, { on := 10, ground := Ground.phase }, { on := 11, ground := Ground.phase }, { on := 12, ground := Ground.phase }, { on := 13, ground := Ground.phase }, { on := 14, ground := Ground.phase }, { on := 15, ground := Ground.phase }, { on := 16, ground := Ground.phase }, { on := 17, ground := Ground.phase }, { on := 18, ground := Ground.phase }, { on := 19, ground := Ground.phase }], guard := none }) (v := ?_) rfl (by kernel_rfl) (by kernel_rfl) (by kernel_rfl) (fun _ _ _ h => h) (Or.inl ⟨by rfl, ?_⟩) hHeld ?_
                    rotate_left
                    · intro u hSw
                      go_simp
                      try with_reducible rfl
                    try simp only [Act.put, List.setIfInBounds_toArray, List.set_cons_zero, List.set_cons_succ]
                    refine wpAnyH_ready (rs := [21]) (by kernel_rfl) (by simp) ?_
                    refine (AllReadyH.cons (o := { dst := none, op := Op.store 5 (Operand.tmp 113) (Operand.tmp 112), type := 0, pos := "ref.go:74", after := #[{ on := 20, ground := Ground.data }, { on := 19, ground := Ground.data }, { on := 18, ground := Ground.chain }, { on := 0, ground := Ground.phase }, { on := 1, ground := Ground.phase }, { on := 2, ground := Ground.phase }, { on := 3, ground := Ground.phase }, { on := 4, ground := Ground.phase }, { on := 5, ground := Ground.phase }, { on := 6, ground := Ground.phase }, { on := 7, ground := Ground.phase }, { on := 8, ground := Ground.phase }, { on := 9, ground := Ground.phase }, { on := 10, ground := Ground.phase }, { on := 11, ground := Ground.phase }, { on := 12, ground := Ground.phase }, { on := 13, ground := Ground.phase }, { on := 14, ground := Ground.phase }, { on := 15, ground := Ground.phase }, { on := 16, ground := Ground.phase }, { on := 17, ground := Ground.phase }, { on := 18, ground := Ground.phase }, { on := 19, ground := Ground.phase }], guard := none }) rfl (fun K hK => ?_) AllReadyH.nil)
                    have q0 := cellAt (HRX.out.row dq (by assumption)) b _ (vfs_get _ b (by rw [rowF_len]; exact hbh))
                    have q1 : X.frozen? ⟨F0 + dq, b, none⟩ = false := frozen_of_row _ _ _ _ _ (HRX.out.row dq (by assumption))
                    go_simp
                    refine hK.out _ _ ?_ (fun hHeld => ?_)
                    · exact grownBy_setCell GX _
                    clear hK K
                    try simp only [Act.put, List.setIfInBounds_toArray, List.set_cons_zero, List.set_cons_succ]
                    refine wpAnyH_done (by kernel_rfl) ?_ _
                    refine NoPanic.normal ?_
                    obtain ⟨Z, hZ⟩ : ∃ Z, Z = X.setCell ⟨F0 + dq, b, none⟩ (.int .u8 ((ga (R9 (dq : Int) b) (gm c (R9 (sq : Int) b))).toNat : Int)) := ⟨_, rfl⟩
                    have HZR : Hid (RunW w.heap.size Z M F0 Q k ol h g (upTo (inX L) ⟨4, (dq : Int), (sq : Int), c⟩ R9 (b + 1)) O9) := by
                      show RunW ..
                      rw [hZ, upTo_next (k := dq) (x := ga (R9 (dq : Int) b) (gm c (R9 (sq : Int) b))) rfl (fun h => absurd (show (4 : Int) = 5 from h) (by decide)) (by rw [doR_4 rfl]; exact congrFun setR_same b)]
                      exact HRX.out.poke (by assumption) hbh _
                    have HZB : Hid (Below w.heap.size w Z) := by show Below ..; rw [hZ]; exact HBX.out.setCell (p := ⟨F0 + dq, b, none⟩) (by show w.heap.size ≤ F0 + dq; have := HMB.out; omega) _
                    have HZS : Hid (Z.heap[wo.heap.size]? = some (.cells #[.int .i64 4, .int .i64 (dq : Int), .int .i64 (sq : Int), .int .u8 (c.toNat : Int)] 55 (0, 0))) := by show _ = _; rw [hZ]; exact (heap_setCell_other _ _ _ _ (HSN.out dq hdq)).trans HSX.out
                    rw [xor_val, ← hZ]
                    clear hZ
                    go_wp2
                    exact ⟨⟨b + 1, by omega, by go_num, HZB.out, HZR.out, HZS.out⟩, by simp [intOf]; omega⟩
              · clear hz1
                have HZR : Hid (RunW w.heap.size wr M F0 Q k ol h g (upTo (inX L) ⟨5, dst, src, c⟩ R9 (b + 1)) O9) := by
                  have h9 := HR.out
                  rw [upTo_idle rfl] at h9
                  show RunW ..
                  rw [upTo_idle rfl]
                  exact h9
                go_wp2
                exact ⟨⟨b + 1, by omega, by go_num, HB.out, HZR.out, HS.out⟩, by simp [intOf]; omega⟩
            · obtain rfl : b = h := by omega
              by_cases h5 : op = 5
              · subst h5
                have h9 := HR.out
                rw [upTo_idle rfl] at h9
                replace HR : Hid (RunW w.heap.size wr M F0 Q k ol b g R9 O9) := h9
                have hok5 : (0 ≤ dst ∧ dst < ol) ∧ (0 ≤ src ∧ src < k) := by omega
                obtain ⟨⟨hd0, hd1⟩, hs0, hs1⟩ := hok5
                obtain ⟨dq, rfl⟩ := Int.eq_ofNat_of_zero_le hd0
                obtain ⟨sq, rfl⟩ := Int.eq_ofNat_of_zero_le hs0
                have hdq : dq < ol := by omega
                have hsq : sq < k := by omega
                have HRE : Hid (∀ Z g' O', RunW w.heap.size Z M F0 Q k ol b g' R9 O' → O' = setR O9 (dq : Int) (R9 (sq : Int)) → RunW w.heap.size Z M F0 Q k ol b g' (runR (inX L) (ss.take (j + 1)) noR) (runO (inX L) (ss.take (j + 1)) noR noR)) := fun Z g' O' hz e => by
                  rw [HR1.out, HO1.out, doR_n (fun h => absurd (show (5 : Int) = 1 from h) (by decide)) (fun h => absurd (show (5 : Int) = 2 from h) (by decide)) (fun h => absurd (show (5 : Int) = 3 from h) (by decide)) (fun h => absurd (show (5 : Int) = 4 from h) (by decide)), show doO ⟨5, (dq : Int), (sq : Int), c⟩ R9 O9 = setR O9 (dq : Int) (R9 (sq : Int)) from if_pos rfl, ← e]; exact hz
                have HGE : Hid (∀ (p : Nat × Nat) (d : Nat), (if d = dq then some p else g d).isSome = decide (1 ≤ cntO (ss.take (j + 1)) d)) := fun p d => by
                  rw [HTK.out]
                  by_cases e2 : d = dq
                  · rw [cnt_out rfl (by rw [e2])]; simp [e2]
                  · rw [cnt_other (show (dq : Int) ≠ (d : Int) by omega), if_neg e2, HGS.out]
                clear h9 hok hd0 hd1 hs0 hs1
                go_wp2
                have P1 : Hid (∀ u, wr.grownBy u (some Q) → u.cell? ⟨wo.heap.size, 1, none⟩ = some (.int .i64 (dq : Int))) := fun u hu => cellAt ((hu.block _ (ltHeap HS.out) (fun e => HSQ.out (Option.some.inj e))).trans HS.out) 1 _ rfl
                have P2 : Hid (∀ u, wr.grownBy u (some Q) → u.cell? ⟨wo.heap.size, 2, none⟩ = some (.int .i64 (sq : Int))) := fun u hu => cellAt ((hu.block _ (ltHeap HS.out) (fun e => HSQ.out (Option.some.inj e))).trans HS.out) 2 _ rfl
                have PM : Hid (∀ u, wr.grownBy u (some Q) → u.cell? ⟨M, sq, none⟩ = some (.slice (some ⟨F0 + sq, 0, none⟩) b b)) := fun u hu => cellAt ((hu.block _ (ltHeap HR.out.regs) (fun e => by have := Option.some.inj e; have := HR.out.hMF; have := HR.out.hFQ; omega)).trans HR.out.regs) sq _ (slF_at (by assumption))
                refine wp_region_noPanic ?_
                refine wp_region_held_drew (S := fun u => wr.grownBy u (some Q)) (by kernel_rfl) ?_ (fun hHeld => ?_)
                · exact grownBy_drew (World.grownBy.refl _ _)
                obtain ⟨X, hX⟩ : ∃ X, X = wr.drew := ⟨_, rfl⟩
                have GX : wr.grownBy X (some Q) := by rw [hX]; exact grownBy_drew (World.grownBy.refl _ _)
                have HRX : Hid (RunW w.heap.size X M F0 Q k ol b g R9 O9) := by show RunW ..; rw [hX]; exact HR.out.drew
                have HBX : Hid (Below w.heap.size w X) := by show Below ..; rw [hX]; exact HB.out.drew
                rw [← hX] at hHeld ⊢
                clear hX
                refine wpAnyH_take (i := 0) (oi := { dst := some 117, op := Op.move (Operand.tmp 9), type := 29, pos := "ref.go:78", after := #[], guard := none }) (v := ?_) rfl (by kernel_rfl) (by kernel_rfl) (by kernel_rfl) (fun _ _ _ h => h) (Or.inl ⟨by rfl, ?_⟩) hHeld ?_
                rotate_left
                · intro u hSw
                  go_simp
                  try with_reducible rfl
                try simp only [Act.put, List.setIfInBounds_toArray, List.set_cons_zero, List.set_cons_succ]
                refine wpAnyH_take (i := 1) (oi := { dst := some 118, op := Op.fieldAddr 55 (Operand.tmp 11) 1, type := 0, pos := "ref.go:78", after := #[], guard := none }) (v := ?_) rfl (by kernel_rfl) (by kernel_rfl) (by kernel_rfl) (fun _ _ _ h => h) (Or.inl ⟨by rfl, ?_⟩) hHeld ?_
                rotate_left
                · intro u hSw
                  go_simp
                  try with_reducible rfl
                try simp only [Act.put, List.setIfInBounds_toArray, List.set_cons_zero, List.set_cons_succ]
                refine wpAnyH_take (i := 2) (oi := { dst := some 119, op := Op.load 3 (Operand.tmp 118), type := 3, pos := "ref.go:78", after := #[{ on := 1, ground := Ground.data }], guard := none }) (v := ?_) rfl (by kernel_rfl) (by kernel_rfl) (by kernel_rfl) (fun _ _ _ h => h) (Or.inl ⟨by rfl, ?_⟩) hHeld ?_
                rotate_left
                · intro u hSw
                  have k9 := P1.out u hSw
                  go_simp
                  try with_reducible rfl
                try simp only [Act.put, List.setIfInBounds_toArray, List.set_cons_zero, List.set_cons_succ]
                refine wpAnyH_take (i := 4) (oi := { dst := some 121, op := Op.move (Operand.tmp 7), type := 29, pos := "ref.go:78", after := #[], guard := none }) (v := ?_) rfl (by kernel_rfl) (by kernel_rfl) (by kernel_rfl) (fun _ _ _ h => h) (Or.inl ⟨by rfl, ?_⟩) hHeld ?_
                rotate_left
                · intro u hSw
                  go_simp
                  try with_reducible rfl
                try simp only [Act.put, List.setIfInBounds_toArray, List.set_cons_zero, List.set_cons_succ]
                refine wpAnyH_take (i := 5) (oi := { dst := some 122, op := Op.fieldAddr 55 (Operand.tmp 11) 2, type := 0, pos := "ref.go:78", after := #[], guard := none }) (v := ?_) rfl (by kernel_rfl) (by kernel_rfl) (by kernel_rfl) (fun _ _ _ h => h) (Or.inl ⟨by rfl, ?_⟩) hHeld ?_
                rotate_left
                · intro u hSw
                  go_simp
                  try with_reducible rfl
                try simp only [Act.put, List.setIfInBounds_toArray, List.set_cons_zero, List.set_cons_succ]
                refine wpAnyH_take (i := 6) (oi := { dst := some 123, op := Op.load 3 (Operand.tmp 122), type := 3, pos := "ref.go:78", after := #[{ on := 5, ground := Ground.data }], guard := none }) (v := ?_) rfl (by kernel_rfl) (by kernel_rfl) (by kernel_rfl) (fun _ _ _ h => h) (Or.inl ⟨by rfl, ?_⟩) hHeld ?_
                rotate_left
                · intro u hSw
                  have k9 := P2.out u hSw
                  go_simp
                  try with_reducible rfl
                try simp only [Act.put, List.setIfInBounds_toArray, List.set_cons_zero, List.set_cons_succ]
                refine wpAnyH_take (i := 7) (oi := { dst := some 124, op := Op.indexAddr 29 (Operand.tmp 121) (Operand.tmp 123), type := 0, pos := "ref.go:78", after := #[{ on := 4, ground := Ground.data }, { on := 6, ground := Ground.data }], guard := none }) (v := ?_) rfl (by kernel_rfl) (by kernel_rfl) (by kernel_rfl) (fun _ _ _ h => h) (Or.inl ⟨by rfl, ?_⟩) hHeld ?_
                rotate_left
                · intro u hSw
                  go_simp
                  try with_reducible rfl
                try simp only [Act.put, List.setIfInBounds_toArray, List.set_cons_zero, List.set_cons_succ]
                refine wpAnyH_take (i := 8) (oi := { dst := some 125, op := Op.load 26 (Operand.tmp 124), type := 26, pos := "ref.go:78", after := #[{ on := 7, ground := Ground.data }], guard := none }) (v := ?_) rfl (by kernel_rfl) (by kernel_rfl) (by kernel_rfl) (fun _ _ _ h => h) (Or.inl ⟨by rfl, ?_⟩) hHeld ?_
                rotate_left
                · intro u hSw
                  have k9 := PM.out u hSw
                  go_simp
                  try with_reducible rfl
                try simp only [Act.put, List.setIfInBounds_toArray, List.set_cons_zero, List.set_cons_succ]
                refine wpAnyH_ready (rs := [3]) (by kernel_rfl) (by simp) ?_
                refine (AllReadyH.cons (o := { dst := some 120, op := Op.buildSlice 26 0 #[], type := 26, pos := "ref.go:78", after := #[], guard := none }) rfl (fun K hK => ?_) AllReadyH.nil)
                have hbA : Below X.heap.size X (X.alloc (.cells #[] 5)) := (Below.refl _ _).alloc (Nat.le_refl _) _
                go_simp
                refine hK.out _ _ ?_ (fun hHeld => ?_)
                · exact grown_below GX hbA
                clear hK K
                try simp only [Act.put, List.setIfInBounds_toArray, List.set_cons_zero, List.set_cons_succ]
                refine wpAnyH_ready (rs := [9]) (by kernel_rfl) (by simp) ?_
                refine (AllReadyH.cons (o := { dst := some 126, op := Op.call { callee := Callee.builtin Builtin.append, args := #[Operand.tmp 120, Operand.tmp 125], argTypes := #[26, 26] }, type := 26, pos := "ref.go:78", after := #[{ on := 3, ground := Ground.data }, { on := 8, ground := Ground.data }], guard := none }) rfl (fun K hK => ?_) AllReadyH.nil)
                obtain ⟨q, cq, V, hrun, h8, hq, hbV⟩ := copy8E (w := X) (ca := b) 26 (rowF_len b (R9 (sq : Int))).symm (by omega) (row8T_own (HRX.out.row sq (by assumption))).row8
                have GV : wr.grownBy V (some Q) := grown_below GX hbV
                have HV : Hid _ := HRX.out.below hbV
                refine wanted_append_run rfl _ _ 26 rfl _ _ _ _ rfl rfl hrun ?_
                refine hK.out _ _ ?_ (fun hHeld => ?_)
                · exact GV
                clear hK K
                try simp only [Act.put, List.setIfInBounds_toArray, List.set_cons_zero, List.set_cons_succ]
                refine wpAnyH_take (i := 10) (oi := { dst := some 127, op := Op.indexAddr 29 (Operand.tmp 117) (Operand.tmp 119), type := 0, pos := "ref.go:78", after := #[{ on := 0, ground := Ground.data }, { on := 2, ground := Ground.data }, { on := 0, ground := Ground.phase }, { on := 1, ground := Ground.phase }, { on := 2, ground := Ground.phase }, { on := 3, ground := Ground.phase }, { on := 4, ground := Ground.phase }, { on := 5, ground := Ground.phase }, { on := 6, ground := Ground.phase }, { on := 7, ground := Ground.phase }, { on := 8, ground := Ground.phase }, { on := 9, ground := Ground.phase }], guard := none }) (v := ?_) rfl (by kernel_rfl) (by kernel_rfl) (by kernel_rfl) (fun _ _ _ h => h) (Or.inl ⟨by rfl, ?_⟩) hHeld ?_
                rotate_left
                · intro u hSw
                  go_simp
                  try with_reducible rfl
                try simp only [Act.put, List.setIfInBounds_toArray, List.set_cons_zero, List.set_cons_succ]
                refine wpAnyH_ready (rs := [11]) (by kernel_rfl) (by simp) ?_
                refine (AllReadyH.cons (o := { dst := none, op := Op.store 26 (Operand.tmp 127) (Operand.tmp 126), type := 0, pos := "ref.go:78", after := #[{ on := 10, ground := Ground.data }, { on := 9, ground := Ground.data }, { on := 9, ground := Ground.chain }, { on := 0, ground := Ground.phase }, { on := 1, ground := Ground.phase }, { on := 2, ground := Ground.phase }, { on := 3, ground := Ground.phase }, { on := 4, ground := Ground.phase }, { on := 5, ground := Ground.phase }, { on := 6, ground := Ground.phase }, { on := 7, ground := Ground.phase }, { on := 8, ground := Ground.phase }, { on := 9, ground := Ground.phase }], guard := none }) rfl (fun K hK => ?_) AllReadyH.nil)
                have q0 := cellAt HV.out.outs dq _ (slO_at (by assumption))
                have q1 : V.frozen? ⟨Q, dq, none⟩ = false := frozen_of_row _ _ _ _ _ HV.out.outs
                go_simp
                refine hK.out _ _ ?_ (fun hHeld => ?_)
                · exact grownBy_setCell GV _
                clear hK K
                try simp only [Act.put, List.setIfInBounds_toArray, List.set_cons_zero, List.set_cons_succ]
                refine wpAnyH_done (by kernel_rfl) ?_ _
                refine NoPanic.normal ?_
                obtain ⟨Z, hZ⟩ : ∃ Z, Z = V.setCell ⟨Q, dq, none⟩ (.slice (some ⟨q, 0, none⟩) b cq) := ⟨_, rfl⟩
                have HZR : Hid (RunW w.heap.size Z M F0 Q k ol b (fun x => if x = dq then some (q, cq) else g x) R9 (setR O9 (dq : Int) (R9 (sq : Int)))) := by
                  show RunW ..
                  rw [hZ]
                  exact HV.out.putO (by assumption) h8 (by have := ltHeap HRX.out.outs; omega)
                have HZB : Hid (Below w.heap.size w Z) := by show Below ..; rw [hZ]; exact (HBX.out.trans (hbV.mono HBX.out.size)).setCell (p := ⟨Q, dq, none⟩) (by show w.heap.size ≤ Q; have := HMB.out; have := HR.out.hFQ; omega) _
                rw [← hZ]
                clear hZ h8 hq hbV GV GX q0 q1 hrun hHeld hbA
                go_wp2
                exact ⟨⟨j + 1, _, by omega, by go_num, HZB.out, HRE.out _ _ _ HZR.out rfl, fun d => HGE.out (q, cq) d⟩, by simp [intOf]; omega⟩
              · have v5 : (op == 5) = false := beq_eq_false_iff_ne.2 h5
                have HZR : Hid (RunW w.heap.size wr M F0 Q k ol b g (runR (inX L) (ss.take (j + 1)) noR) (runO (inX L) (ss.take (j + 1)) noR noR)) := by
                  show RunW ..
                  rw [HR1.out, HO1.out, doO, if_neg h5]
                  exact HR.out.full
                have HGE : Hid (∀ d : Nat, (g d).isSome = decide (1 ≤ cntO (ss.take (j + 1)) d)) := fun d => by
                  rw [HTK.out, HGS.out, cnt_not h5]
                clear hok h5
                go_wp2
                exact ⟨⟨j + 1, g, by omega, by go_num, HB.out, HZR.out, HGE.out⟩, by simp [intOf]; omega⟩
        · obtain rfl : j = sl := by omega
          have hfull : ss.take j = ss := by rw [HSL.out, List.take_length]
          have hgs := HGS.out
          have hr := HRO.out
          rw [HRE9.out, HOE9.out, hfull] at hr
          rw [hfull] at hgs
          have HM9 : Hid (OutsW wr Q ol h (inX L) ss) := hr.made (fun d hd => by rw [hgs]; exact decide_eq_true (by have := HF.out.2.2.2.2.2 d (by rw [← HOL.out]; exact hd); omega))
          have HQ9 : Hid (w.heap.size ≤ Q) := by show _ ≤ _; have := hr.hFQ; have := HMB.out; omega
          clear hfull hgs hr
          go_wp2
          go_ret
          exact ⟨Q, rfl, HQ9.out, HM9.out, HBO.out⟩
end Go.Proofs.YtoalbopcapgojabDoor
