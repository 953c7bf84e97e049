/- Lists that the call itself makes and lets grow one by one, of lists and of numbers; lists of numbers that came in. -/
import Derived.Test.YtkoakingmnjdoaaGreatDoorGfApp
import Derived.Test.YtkoakingmnjdoaaGreatDoorMatA
import Derived.Deep.AppendLies
import Derived.Laws.OwnMore
namespace Go.Proofs.YtkoakingmnjdoaaGreatDoor
open Go.RowKit Gf
set_option linter.unusedVariables false
set_option maxRecDepth 20000
theorem infoS : ∃ i, Tryz.prog.info? 23 = some i ∧ i.size = 1 ∧ i.bytes = 24 ∧ i.zero = some (.slice none 0 0) := by
  have hi : (Tryz.prog.info? 23).map (fun i => (i.size, i.bytes, i.zero)) = some (1, 24, some (.slice none 0 0)) := by kernel_rfl
  cases hq : Tryz.prog.info? 23 with
  | none => simp [hq] at hi
  | some i =>
    simp only [hq, Option.map_some, Option.some.injEq, Prod.mk.injEq] at hi
    exact ⟨i, rfl, hi.1, hi.2.1, hi.2.2⟩
theorem infoI : ∃ i, Tryz.prog.info? 3 = some i ∧ i.size = 1 ∧ i.bytes = 8 ∧ i.zero = some (.int .i64 0) := by
  have hi : (Tryz.prog.info? 3).map (fun i => (i.size, i.bytes, i.zero)) = some (1, 8, some (.int .i64 0)) := by kernel_rfl
  cases hq : Tryz.prog.info? 3 with
  | none => simp [hq] at hi
  | some i =>
    simp only [hq, Option.map_some, Option.some.injEq, Prod.mk.injEq] at hi
    exact ⟨i, rfl, hi.1, hi.2.1, hi.2.2⟩
theorem news_one {w : World} {b : Nat} {x : Value} (hx : w.cell? ⟨b, 0, none⟩ = some x) : ∀ j u, [x][j]? = some u → w.cell? ((⟨b, 0, none⟩ : Addr).add j) = some u := by
  intro j u h
  match j, h with
  | 0, h => obtain rfl := Option.some.inj h; simpa [Addr.add] using hx
/-- one list more behind a list of lists of one's own -/
theorem appendS {w : World} {B n b c : Nat} {v x : Value} {xs : List Value} (ty : TypeId) (ho : w.ownsRow B 23 1 v n xs) (hx : w.cell? ⟨b, 0, none⟩ = some x) (h1 : x.oneCell' = true) (hn : n ≤ 4096) (hB : B ≤ w.heap.size) :
    ∃ g cap w', (Builtin.append_ #[49, 49] ty #[v, .slice (some ⟨b, 0, none⟩) 1 c]).run Tryz.prog w = .ok (.slice (some ⟨g, 0, none⟩) (n + 1) cap) w' ∧
      w'.ownsRow B 23 1 (.slice (some ⟨g, 0, none⟩) (n + 1) cap) (n + 1) (xs ++ [x]) ∧ w.grownBy w' v.ownBlock ∧ (v.ownBlock = some g ∨ g = w.heap.size) ∧ g < w'.heap.size := by
  obtain ⟨i, hi, h2, h3, h4⟩ := infoS
  exact run_append_lies (P := Tryz.prog) w 49 ty B 23 i _ 1 24 Tryz.underlying49 hi h4 h2 h3 rfl (by decide) v n xs ho ⟨b, 0, none⟩ 1 c [x] rfl (news_one hx) (by simpa using h1) (by decide) (by simp only [maxLen]; omega) (by omega) hB _ rfl
/-- one number more behind a list of numbers of one's own -/
theorem appendI {w : World} {B n b c : Nat} {v : Value} {x : Int} {xs : List Value} (ty : TypeId) (ho : w.ownsRow B 3 1 v n xs) (hx : w.cell? ⟨b, 0, none⟩ = some (.int .i64 x)) (hn : n ≤ 1000000) (hB : B ≤ w.heap.size) :
    ∃ g cap w', (Builtin.append_ #[22, 22] ty #[v, .slice (some ⟨b, 0, none⟩) 1 c]).run Tryz.prog w = .ok (.slice (some ⟨g, 0, none⟩) (n + 1) cap) w' ∧
      w'.ownsRow B 3 1 (.slice (some ⟨g, 0, none⟩) (n + 1) cap) (n + 1) (xs ++ [.int .i64 x]) ∧ w.grownBy w' v.ownBlock ∧ (v.ownBlock = some g ∨ g = w.heap.size) ∧ g < w'.heap.size := by
  obtain ⟨i, hi, h2, h3, h4⟩ := infoI
  exact run_append_lies (P := Tryz.prog) w 22 ty B 3 i _ 1 8 Tryz.underlying22 hi h4 h2 h3 rfl (by decide) v n xs ho ⟨b, 0, none⟩ 1 c [.int .i64 x] rfl (news_one hx) (by simp [Value.oneCell']) (by decide) (by simp only [maxLen]; omega) (by omega) hB _ rfl
theorem below_own {B size n : Nat} {w0 w w' : World} {v : Value} {e : TypeId} {xs : List Value} (hb : Below B w0 w) (ho : w.ownsRow B e size v n xs) (h : w.grownBy w' v.ownBlock) (hB : B ≤ w.heap.size) : Below B w0 w' :=
  hb.trans ⟨h.os, h.tape, h.output, h.size, fun k hk => h.block k (by omega) (fun e1 => by have := (ho.lt k e1.symm).1; omega)⟩
/-- a block of another kind stays -/
theorem own_other {w w' : World} {B size n k : Nat} {v : Value} {e t : TypeId} {xs : List Value} {cs : Array Value} {fr : Nat × Nat} (ho : w.ownsRow B e size v n xs) (h : w.grownBy w' v.ownBlock) (hk : w.heap[k]? = some (.cells cs t fr)) (hne : t ≠ e) :
    w'.heap[k]? = some (.cells cs t fr) := by
  refine (h.block k (ltHeap hk) (fun e1 => ?_)).trans hk
  rcases ho.2 with ⟨rfl, _⟩ | ⟨g, cap, cur, rfl, _, hg, _⟩
  · cases e1
  · obtain rfl : k = g := by simpa [Value.ownBlock] using e1
    rw [hk] at hg
    cases hg
    exact hne rfl
theorem own_below {w w' : World} {B size n : Nat} {v : Value} {e : TypeId} {xs : List Value} (ho : w.ownsRow B e size v n xs) (hb : Below w.heap.size w w') : w'.ownsRow B e size v n xs := by
  refine ⟨ho.1, ho.2.imp id fun ⟨g, cap, cur, h1, h2, h3, h4⟩ => ⟨g, cap, cur, h1, h2, (hb.block g (ltHeap h3)).trans h3, h4⟩⟩
/-- a list of numbers in memory -/
def RowI (w : World) (a : Option Addr) (ns : List Int) : Prop :=
  ns = [] ∨ ∃ b off, a = some ⟨b, off, none⟩ ∧ ∀ j n, ns[j]? = some n → w.cell? ⟨b, off + j, none⟩ = some (.int .i64 n)
theorem rowI_below {w w' : World} {a : Option Addr} {ns : List Int} (h : RowI w a ns) (hb : Below w.heap.size w w') : RowI w' a ns :=
  h.imp id fun ⟨b, off, e, h⟩ => ⟨b, off, e, fun j n hj => cell_later hb (h j n hj)⟩
theorem rowI_own {w : World} {B n g cap : Nat} {ns : List Int} (ho : w.ownsRow B 3 1 (.slice (some ⟨g, 0, none⟩) n cap) n (ns.map (Value.int .i64))) : RowI w (some ⟨g, 0, none⟩) ns :=
  .inr ⟨g, 0, rfl, fun j m hj => by
    have hl := ho.1
    rw [List.length_map] at hl
    have hlt : j < ns.length := (List.getElem?_eq_some_iff.1 hj).1
    rw [Nat.zero_add, ho.cellAt j (by omega), List.getElem?_map, hj]; rfl⟩
end Go.Proofs.YtkoakingmnjdoaaGreatDoor
