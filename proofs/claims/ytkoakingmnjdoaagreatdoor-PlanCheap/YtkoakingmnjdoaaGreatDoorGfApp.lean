/- Lists of bytes that the call itself makes and lets grow: append, of all lists; nothing that was there turns. -/
import Derived.Test.YtkoakingmnjdoaaGreatDoorGfScalesL
import Derived.Maps.AppendAt
namespace Go.Proofs.YtkoakingmnjdoaaGreatDoor
open Go.RowKit Gf
set_option linter.unusedVariables false
set_option maxRecDepth 20000
/-- a block of one's own whose first cells are a list of bytes -/
def Has8 (w : World) (g : Nat) (xs : List F) (cap : Nat) : Prop :=
  ∃ cur : Array Value, w.heap[g]? = some (.cells cur 5 (0, 0)) ∧ cur.size = cap ∧ xs.length ≤ cap ∧ cap ≤ maxLen ∧ cur.toList.take xs.length = xs.map vf
theorem has8_of {w : World} {g : Nat} {xs ys : List F} (h : w.heap[g]? = some (.cells (vfs (xs ++ ys)) 5 (0, 0))) (hl : xs.length + ys.length ≤ maxLen) : Has8 w g xs (xs.length + ys.length) := by
  refine ⟨_, h, by rw [vfs_size, List.length_append], by omega, hl, ?_⟩
  simp [vfs, List.take_left']
theorem has8_full {w : World} {g : Nat} {xs : List F} (h : w.heap[g]? = some (.cells (vfs xs) 5 (0, 0))) (hl : xs.length ≤ maxLen) : Has8 w g xs xs.length := by
  refine ⟨_, h, by rw [vfs_size], Nat.le_refl _, hl, ?_⟩
  simp only [vfs]
  exact List.take_of_length_le (by simp)
theorem row8_has {w : World} {g : Nat} {xs : List F} {cap : Nat} (h : Has8 w g xs cap) : Row8 w (some ⟨g, 0, none⟩) xs := by
  obtain ⟨cur, hg, hs, hl, hm, ht⟩ := h
  refine .inr ⟨g, 0, rfl, fun j hj => ?_⟩
  rw [cell_of_row _ _ _ _ _ _ hg, Nat.zero_add]
  have e : (cur.toList.take xs.length)[j]? = (xs.map vf)[j]? := by rw [ht]
  rw [List.getElem?_take_of_lt hj] at e
  simp only [Array.getElem?_toList, List.getElem?_map] at e
  rw [e]
  simp [at8, hj, vf]
theorem has8_grown {w w' : World} {g : Nat} {xs : List F} {cap : Nat} {r : Option Nat} (h : Has8 w g xs cap) (hb : w.grownBy w' r) (hne : some g ≠ r) : Has8 w' g xs cap := by
  obtain ⟨cur, hg, rest⟩ := h
  exact ⟨cur, (hb.block g (Array.getElem?_eq_some_iff.1 hg).1 hne).trans hg, rest⟩
theorem has8_below {w w' : World} {g : Nat} {xs : List F} {cap : Nat} (h : Has8 w g xs cap) (hb : Below w.heap.size w w') : Has8 w' g xs cap := by
  obtain ⟨cur, hg, rest⟩ := h
  exact ⟨cur, (hb.block g (Array.getElem?_eq_some_iff.1 hg).1).trans hg, rest⟩
theorem info8 : ∃ i, Tryz.prog.info? 5 = some i ∧ i.size = 1 ∧ i.bytes = 1 ∧ i.zero = some (.int .u8 0) := by
  have hi : (Tryz.prog.info? 5).map (fun i => (i.size, i.bytes, i.zero)) = some (1, 1, some (.int .u8 0)) := by kernel_rfl
  cases hq : Tryz.prog.info? 5 with
  | none => simp [hq] at hi
  | some i =>
    simp only [hq, Option.map_some, Option.some.injEq, Prod.mk.injEq] at hi
    exact ⟨i, rfl, hi.1, hi.2.1, hi.2.2⟩
theorem append8 {w : World} {g n cap : Nat} {xs ys : List F} {ad : Addr} {m c : Nat} (ty : TypeId) (h : Has8 w g xs cap) (hn : n = xs.length) (hm : m = ys.length) (hb : n + m ≤ 140737488355328)
    (hy : ∀ j, j < ys.length → w.cell? (ad.add j) = some (.int .u8 ((at8 ys j).toNat : Int))) :
    ∃ g' cap' w', (Builtin.append_ #[23, 23] ty #[.slice (some ⟨g, 0, none⟩) n cap, .slice (some ad) m c]).run Tryz.prog w = .ok (.slice (some ⟨g', 0, none⟩) (n + m) cap') w' ∧
      Has8 w' g' (xs ++ ys) cap' ∧ w.grownBy w' (some g) ∧ (g' = g ∨ g' = w.heap.size) := by
  subst hn hm
  obtain ⟨i, hi, h1, h2, h3⟩ := info8
  obtain ⟨cur, hg, hs, hl, hmx, ht⟩ := h
  have hown : w.ownsRow 0 5 1 (.slice (some ⟨g, 0, none⟩) xs.length cap) xs.length (xs.map vf) :=
    ⟨by simp, .inr ⟨g, cap, cur, rfl, Nat.zero_le _, hg, hl, hmx, by omega, by rw [Nat.mul_one]; exact ht⟩⟩
  obtain ⟨v', w', hrun, ho, hgr, hnil, hat⟩ := run_append_own_at (P := Tryz.prog) w 0 23 ty 5 i _ 1 1 Tryz.underlying23 hi h3 h1 h2 rfl (by decide)
    _ xs.length _ hown ad ys.length c (ys.map vf) (by simp) (fun j v hv => by
      simp only [List.getElem?_map, Option.map_eq_some_iff] at hv
      obtain ⟨x, hx1, rfl⟩ := hv
      have hj : j < ys.length := (List.getElem?_eq_some_iff.1 hx1).1
      have e : at8 ys j = x := by simp [at8, hx1]
      rw [hy j hj, e]; rfl) (fun v hv => by
      simp only [List.mem_map] at hv
      obtain ⟨x, _, rfl⟩ := hv
      rfl) (by simp only [maxLen]; omega) (by omega) (Nat.zero_le _)
  rcases ho.2 with ⟨hv, _⟩ | ⟨g', cap', cur', hv, _, hg', hl', hm', hs', ht'⟩
  · have := (hnil.1 hv).1
    cases this
  · subst hv
    refine ⟨g', cap', w', hrun, ⟨cur', hg', by omega, by simpa using hl', hm', ?_⟩, hgr, ?_⟩
    · rw [List.length_append, List.map_append, ← ht', Nat.mul_one]
    · rcases hat with e | e
      · left; simpa [Value.ownBlock] using e
      · right; simpa [Value.ownBlock] using e
/-- an append whose run is known, in a walk -/
theorem wpList_append_run {P : Program} {w : World} {ops : Array Oper} {rest : List Oper} {o : Oper} {a : Act} {Q : Exit → Act → World → Prop} (hgd : o.guard = none) (s x : Operand) (t : TypeId)
    (ho : o.op = .call { callee := .builtin .append, args := #[s, x], argTypes := #[t, t] }) (v u r : Value) (w' : World) (hs : a.eval s = v) (hx : a.eval x = u)
    (hr : (Builtin.append_ #[t, t] o.type #[v, u]).run P w = .ok r w') (h : wpList P ops Q rest (a.put o.dst r) w') : wpList P ops Q (o :: rest) a w := by
  refine wpList_plain hgd fun K hK => ?_
  unfold Oper.wp execOp
  simp only [ho, resolve, invoke, builtin, Sem.run_bind, Sem.run_pure, Result.andThen_ok, List.map_toArray, List.map_cons, List.map_nil, hs, hx, hr]
  exact hK _ _ h
theorem grownBy_below {B : Nat} {w0 w w' : World} {g : Nat} (hb : Below B w0 w) (h : w.grownBy w' (some g)) (hg : B ≤ g) (hB : B ≤ w.heap.size) : Below B w0 w' :=
  hb.trans ⟨h.os, h.tape, h.output, h.size, fun k hk => h.block k (by omega) (by simp; omega)⟩
end Go.Proofs.YtkoakingmnjdoaaGreatDoor
