/- Steps in memory, four cells each; lists of steps of one's own that grow. -/
import Derived.Test.YtkoakingmnjdoaaGreatDoorStepL
import Derived.Test.YtkoakingmnjdoaaGreatDoorOwn
import Derived.Test.YtkoakingmnjdoaaGreatDoorInts
import Derived.Test.YtkoakingmnjdoaaGreatDoorGfMem
namespace Go.Proofs.YtkoakingmnjdoaaGreatDoor
open Go.RowKit Gf
set_option linter.unusedVariables false
set_option maxRecDepth 20000
def stpL (s : Stp) : List Value := [.int .i64 s.op, .int .i64 s.dst, .int .i64 s.src, vf s.c]
def stpsL (ss : List Stp) : List Value := ss.flatMap stpL
theorem stpsL_len : ∀ ss : List Stp, (stpsL ss).length = ss.length * 4
  | [] => rfl
  | s :: ss => by
    have := stpsL_len ss
    show (stpL s ++ stpsL ss).length = _
    rw [List.length_append, this, List.length_cons]
    show 4 + _ = _
    omega
theorem stpsL_app (ss ts : List Stp) : stpsL (ss ++ ts) = stpsL ss ++ stpsL ts := by simp [stpsL]
theorem stpsL_at : ∀ (ss : List Stp) (j q : Nat), q < 4 → (stpsL ss)[j * 4 + q]? = ss[j]?.bind fun s => (stpL s)[q]?
  | [], j, q, _ => by simp [stpsL]
  | s :: ss, 0, q, h => by
    match q, h with
    | 0, _ => rfl
    | 1, _ => rfl
    | 2, _ => rfl
    | 3, _ => rfl
  | s :: ss, j + 1, q, h => by
    have := stpsL_at ss j q h
    rw [show (j + 1) * 4 + q = (j * 4 + q) + 4 by omega]
    exact this
/-- steps in memory -/
def StpW (w : World) (a : Option Addr) (ss : List Stp) : Prop :=
  ss = [] ∨ ∃ b off, a = some ⟨b, off, none⟩ ∧ ∀ j s, ss[j]? = some s → w.cell? ⟨b, off + j * 4, none⟩ = some (.int .i64 s.op) ∧
    w.cell? ⟨b, off + j * 4 + 1, none⟩ = some (.int .i64 s.dst) ∧ w.cell? ⟨b, off + j * 4 + 2, none⟩ = some (.int .i64 s.src) ∧ w.cell? ⟨b, off + j * 4 + 3, none⟩ = some (vf s.c)
theorem stpW_below {w w' : World} {a : Option Addr} {ss : List Stp} (h : StpW w a ss) (hb : Below w.heap.size w w') : StpW w' a ss :=
  h.imp id fun ⟨b, off, e, h⟩ => ⟨b, off, e, fun j s hj => ⟨cell_later hb (h j s hj).1, cell_later hb (h j s hj).2.1, cell_later hb (h j s hj).2.2.1, cell_later hb (h j s hj).2.2.2⟩⟩
/-- the cells of a step that is there, the block's number named -/
theorem stpW_get {w : World} {a : Option Addr} {ss : List Stp} {j : Nat} (h : StpW w a ss) (hj : j < ss.length) : ∃ b off, a = some ⟨b, off, none⟩ ∧ ∀ i (hi : i < ss.length), w.cell? ⟨b, off + i * 4, none⟩ = some (.int .i64 ss[i].op) ∧
    w.cell? ⟨b, off + i * 4 + 1, none⟩ = some (.int .i64 ss[i].dst) ∧ w.cell? ⟨b, off + i * 4 + 2, none⟩ = some (.int .i64 ss[i].src) ∧ w.cell? ⟨b, off + i * 4 + 3, none⟩ = some (.int .u8 (ss[i].c.toNat : Int)) := by
  rcases h with rfl | ⟨b, off, e, h⟩
  · cases hj
  · exact ⟨b, off, e, fun i hi => h i _ (List.getElem?_eq_getElem hi)⟩
theorem stpW_cells {w : World} {g o : Nat} {ss : List Stp} {cs : Array Value} {t : TypeId} {fr : Nat × Nat} (h : w.heap[g]? = some (.cells cs t fr)) (hc : ∀ j, j < ss.length * 4 → cs[o + j]? = (stpsL ss)[j]?) : StpW w (some ⟨g, o, none⟩) ss := by
  refine .inr ⟨g, o, rfl, fun j s hj => ?_⟩
  have hl : j < ss.length := by
    rcases Nat.lt_or_ge j ss.length with h | h
    · exact h
    · rw [List.getElem?_eq_none h] at hj; cases hj
  have H : ∀ q, q < 4 → cs[o + j * 4 + q]? = (stpL s)[q]? := fun q hq => by
    rw [Nat.add_assoc, hc _ (by omega), stpsL_at ss j q hq, hj]; rfl
  exact ⟨cellAt h _ _ (H 0 (by omega)), cellAt h _ _ (H 1 (by omega)), cellAt h _ _ (H 2 (by omega)), cellAt h _ _ (H 3 (by omega))⟩
theorem infoT4 : ∃ i, Tryz.prog.info? 105 = some i ∧ i.size = 4 ∧ i.bytes = 32 ∧ i.zero = some (.agg #[.int .i64 0, .int .i64 0, .int .i64 0, .int .u8 0]) := by
  have hi : (Tryz.prog.info? 105).map (fun i => (i.size, i.bytes, i.zero)) = some (4, 32, some (.agg #[.int .i64 0, .int .i64 0, .int .i64 0, .int .u8 0])) := by kernel_rfl
  cases hq : Tryz.prog.info? 105 with
  | none => simp [hq] at hi
  | some i =>
    simp only [hq, Option.map_some, Option.some.injEq, Prod.mk.injEq] at hi
    exact ⟨i, rfl, hi.1, hi.2.1, hi.2.2⟩
theorem stpsL_one : ∀ (ss : List Stp), ∀ u ∈ stpsL ss, u.oneCell' = true := fun ss u hu => by
  obtain ⟨s, _, hs⟩ := List.mem_flatMap.1 hu
  simp only [stpL, List.mem_cons, List.not_mem_nil, or_false] at hs
  rcases hs with rfl | rfl | rfl | rfl <;> rfl
theorem news_stps {w : World} {b o : Nat} {ss : List Stp} (h : StpW w (some ⟨b, o, none⟩) ss) : ∀ j u, (stpsL ss)[j]? = some u → w.cell? ((⟨b, o, none⟩ : Addr).add j) = some u := by
  intro j u hu
  have ha : (⟨b, o, none⟩ : Addr).add j = ⟨b, o + j, none⟩ := by unfold Addr.add; split <;> simp_all
  rw [ha]
  rcases h with rfl | ⟨b', off, e, h⟩
  · cases hu
  cases e
  obtain ⟨i, q, rfl, hq⟩ : ∃ i q, j = i * 4 + q ∧ q < 4 := ⟨j / 4, j % 4, by omega, by omega⟩
  rw [stpsL_at ss i q hq] at hu
  cases hs : ss[i]? with
  | none => rw [hs] at hu; cases hu
  | some s =>
    rw [hs] at hu
    obtain ⟨h0, h1, h2, h3⟩ := h i s hs
    rw [← Nat.add_assoc]
    match q, hq, hu with
    | 0, _, hu => cases hu; exact h0
    | 1, _, hu => cases hu; exact h1
    | 2, _, hu => cases hu; exact h2
    | 3, _, hu => cases hu; exact h3
/-- steps more behind a list of steps of one's own -/
theorem appendT {w : World} {B n b o m c : Nat} {v : Value} {xs ss : List Stp} (ty : TypeId) (ho : w.ownsRow B 105 4 v n (stpsL xs)) (hx : StpW w (some ⟨b, o, none⟩) ss) (hm : m = ss.length) (h0 : 0 < m) (hn : (n + m) * 32 ≤ 140737488355328) (hB : B ≤ w.heap.size) :
    ∃ g cap w', (Builtin.append_ #[28, 28] ty #[v, .slice (some ⟨b, o, none⟩) m c]).run Tryz.prog w = .ok (.slice (some ⟨g, 0, none⟩) (n + m) cap) w' ∧
      w'.ownsRow B 105 4 (.slice (some ⟨g, 0, none⟩) (n + m) cap) (n + m) (stpsL (xs ++ ss)) ∧ w.grownBy w' v.ownBlock ∧ (v.ownBlock = some g ∨ g = w.heap.size) ∧ g < w'.heap.size := by
  obtain ⟨i, hi, h2, h3, h4⟩ := infoT4
  rw [stpsL_app]
  exact run_append_lies (P := Tryz.prog) w 28 ty B 105 i _ 4 32 Tryz.underlying28 hi h4 h2 h3 rfl (by decide) v n (stpsL xs) ho ⟨b, o, none⟩ m c (stpsL ss) (by rw [stpsL_len, hm]) (news_stps hx) (stpsL_one ss) h0 (by simp only [maxLen]; omega) hn hB _ rfl
theorem stpW_own {w : World} {B n : Nat} {v : Value} {ss : List Stp} (hn : n = ss.length) (ho : w.ownsRow B 105 4 v n (stpsL ss)) : ∃ a cap, v = .slice a n cap ∧ n ≤ cap ∧ (a = none → cap = 0) ∧ StpW w a ss := by
  rcases ho.2 with ⟨rfl, rfl⟩ | ⟨g, cap, cur, rfl, hB, hg, hle, h5, h6, h7⟩
  · exact ⟨none, 0, rfl, Nat.le_refl _, fun _ => rfl, .inl (List.eq_nil_of_length_eq_zero hn.symm)⟩
  · refine ⟨_, cap, rfl, hle, fun h => (by cases h), stpW_cells hg fun j hj => ?_⟩
    rw [Nat.zero_add, ← h7, List.getElem?_take_of_lt (by omega), Array.getElem?_toList]
end Go.Proofs.YtkoakingmnjdoaaGreatDoor
