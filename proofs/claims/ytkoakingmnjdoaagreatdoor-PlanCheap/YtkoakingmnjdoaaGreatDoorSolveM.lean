/- Rows of elements behind one block of slices: what elimination holds in memory. -/
import Derived.Test.YtkoakingmnjdoaaGreatDoorSolveL
import Derived.Test.YtkoakingmnjdoaaGreatDoorMatP
import Derived.Test.YtkoakingmnjdoaaGreatDoorOwn
namespace Go.Proofs.YtkoakingmnjdoaaGreatDoor
open Go.RowKit Gf
set_option linter.unusedVariables false
set_option maxRecDepth 20000
/-- n slices of c elements each -/
def slF (n c : Nat) (f : Nat → Option Addr × Nat) : Array Value := ((List.range n).map fun k => Value.slice (f k).1 c (f k).2).toArray
theorem slF_size (n c : Nat) (f : Nat → Option Addr × Nat) : (slF n c f).size = n := by simp [slF]
theorem slF_at {n c k : Nat} {f : Nat → Option Addr × Nat} (h : k < n) : (slF n c f)[k]? = some (.slice (f k).1 c (f k).2) := by simp [slF, h]
theorem slF_kind {n c k : Nat} {f : Nat → Option Addr × Nat} {v : Value} (h : (slF n c f)[k]? = some v) : ∃ a l m, v = .slice a l m := by
  simp only [slF, List.getElem?_toArray, List.getElem?_map, Option.map_eq_some_iff] at h
  obtain ⟨x, _, rfl⟩ := h
  exact ⟨_, _, _, rfl⟩
theorem slF_set {n c k : Nat} {f : Nat → Option Addr × Nat} (a : Option Addr) (m : Nat) (h : k < n) : (slF n c f).setIfInBounds k (.slice a c m) = slF n c (fun x => if x = k then (a, m) else f x) := by
  apply Array.ext_getElem?
  intro i
  rw [Array.getElem?_setIfInBounds]
  by_cases hi : i < n
  · rw [slF_at hi, slF_at hi, slF_size]
    by_cases e : k = i
    · subst e; simp [hi]
    · simp [e, show ¬ i = k from fun h => e h.symm]
  · rw [Array.getElem?_eq_none (by rw [slF_size]; omega), Array.getElem?_eq_none (by rw [slF_size]; omega), slF_size]
    simp; omega
theorem slF_congr {n c : Nat} {f g : Nat → Option Addr × Nat} (h : ∀ k, k < n → f k = g k) : slF n c f = slF n c g := by
  simp only [slF]; congr 1
  apply List.map_congr_left
  intro k hk
  rw [h k (List.mem_range.1 hk)]
/-- a list of elements in a block of elements -/
def Row8T (w : World) (a : Option Addr) (xs : List F) : Prop :=
  xs = [] ∨ ∃ b off cs fr, a = some ⟨b, off, none⟩ ∧ w.heap[b]? = some (.cells cs 5 fr) ∧ ∀ j, j < xs.length → w.cell? ⟨b, off + j, none⟩ = some (.int .u8 ((at8 xs j).toNat : Int))
theorem Row8T.row8 {w : World} {a : Option Addr} {xs : List F} (h : Row8T w a xs) : Row8 w a xs := h.imp id fun ⟨b, off, _, _, e, _, h⟩ => ⟨b, off, e, h⟩
theorem row8T_own {w : World} {g : Nat} {xs : List F} {fr : Nat × Nat} (h : w.heap[g]? = some (.cells (vfs xs) 5 fr)) : Row8T w (some ⟨g, 0, none⟩) xs :=
  .inr ⟨g, 0, _, _, rfl, h, fun j hj => by rw [Nat.zero_add]; exact cellAt h j _ (vfs_get _ _ hj)⟩
/-- the block of this number, if there is one, holds no elements -/
def NoElems (w : World) (r : Option Nat) : Prop := ∀ g, r = some g → ∃ cs t fr, w.heap[g]? = some (.cells cs t fr) ∧ t ≠ 5
theorem noElems_some {w : World} {g : Nat} {cs : Array Value} {t : TypeId} {fr : Nat × Nat} (h : w.heap[g]? = some (.cells cs t fr)) (ht : t ≠ 5) : NoElems w (some g) := fun g' e => by cases e; exact ⟨_, _, _, h, ht⟩
theorem noElems_own {w : World} {B size n : Nat} {v : Value} {e : TypeId} {xs : List Value} (ho : w.ownsRow B e size v n xs) (he : e ≠ 5) : NoElems w v.ownBlock := fun g hg => by
  rcases ho.2 with ⟨rfl, _⟩ | ⟨g', cap, cur, rfl, _, h, _⟩
  · cases hg
  · obtain rfl : g' = g := by simpa [Value.ownBlock] using hg
    exact ⟨_, _, _, h, he⟩
theorem row8T_grown {w w' : World} {r : Option Nat} {a : Option Addr} {xs : List F} (h : Row8T w a xs) (hg : w.grownBy w' r) (hr : NoElems w r) : Row8T w' a xs := by
  rcases h with e | ⟨b, off, cs, fr, e, hb, h⟩
  · exact .inl e
  · have hne : some b ≠ r := by
      intro e2
      obtain ⟨cs2, t2, fr2, h2, h3⟩ := hr b e2.symm
      rw [hb] at h2
      cases h2
      exact h3 rfl
    have hblk := hg.block b (ltHeap hb) hne
    refine .inr ⟨b, off, cs, fr, e, hblk.trans hb, fun j hj => ?_⟩
    rw [← h j hj]
    simp only [World.cell?, hblk]
theorem row8T_below {w w' : World} {a : Option Addr} {xs : List F} (h : Row8T w a xs) (hb : Below w.heap.size w w') : Row8T w' a xs :=
  h.imp id fun ⟨b, off, cs, fr, e, h1, h⟩ => ⟨b, off, cs, fr, e, heap_later h1 hb, fun j hj => cell_later hb (h j hj)⟩
theorem row8_other {w w' : World} {M n c : Nat} {f : Nat → Option Addr × Nat} {fr : Nat × Nat} {a : Option Addr} {xs : List F} (hM : w.heap[M]? = some (.cells (slF n c f) 23 fr)) (hg : w.grownBy w' (some M)) (h : Row8T w a xs) : Row8T w' a xs :=
  row8T_grown h hg (noElems_some hM (by decide))
structure RowsW (w : World) (M n c : Nat) (f : Nat → Option Addr × Nat) (R : Mt) : Prop where
  blk : w.heap[M]? = some (.cells (slF n c f) 23 (0, 0))
  row : ∀ k, k < n → Row8T w (f k).1 (rowF c (R k))
  cap : ∀ k, k < n → c ≤ (f k).2
  nil : ∀ k, k < n → (f k).1 = none → (f k).2 = 0
theorem RowsW.congr {w : World} {M n c : Nat} {f : Nat → Option Addr × Nat} {R R' : Mt} (h : RowsW w M n c f R) (e : ∀ k, k < n → ∀ j, j < c → R k j = R' k j) : RowsW w M n c f R' :=
  ⟨h.blk, fun k hk => by rw [← rowF_congr (e k hk)]; exact h.row k hk, h.cap, h.nil⟩
theorem RowsW.below {w w' : World} {M n c : Nat} {f : Nat → Option Addr × Nat} {R : Mt} (h : RowsW w M n c f R) (hb : Below w.heap.size w w') : RowsW w' M n c f R :=
  ⟨heap_later h.blk hb, fun k hk => row8T_below (h.row k hk) hb, h.cap, h.nil⟩
theorem RowsW.drew {w : World} {M n c : Nat} {f : Nat → Option Addr × Nat} {R : Mt} (h : RowsW w M n c f R) : RowsW w.drew M n c f R := ⟨h.blk, h.row, h.cap, h.nil⟩
theorem RowsW.put {w : World} {M n c : Nat} {f : Nat → Option Addr × Nat} {R : Mt} (h : RowsW w M n c f R) {k : Nat} (hk : k < n) {a : Option Addr} {m : Nat} {v : Nat → F} (ha : Row8T w a (rowF c v)) (hm : c ≤ m) (hn : a = none → m = 0) :
    RowsW (w.setCell ⟨M, k, none⟩ (.slice a c m)) M n c (fun x => if x = k then (a, m) else f x) (fun x => if x = k then v else R x) := by
  have hg : w.grownBy (w.setCell ⟨M, k, none⟩ (.slice a c m)) (some M) := grownBy_setCell (World.grownBy.refl _ _) _
  refine ⟨?_, fun x hx => ?_, fun x hx => ?_, fun x hx => ?_⟩
  · rw [heap_setCell_same _ _ _ _ _ _ h.blk, slF_set _ _ hk]
  · by_cases e : x = k
    · simp only [e, if_true]; exact row8_other h.blk hg ha
    · simp only [e, if_false]; exact row8_other h.blk hg (h.row x hx)
  · by_cases e : x = k
    · simp only [e, if_true]; exact hm
    · simp only [e, if_false]; exact h.cap x hx
  · by_cases e : x = k
    · simp only [e, if_true]; exact hn
    · simp only [e, if_false]; exact h.nil x hx
theorem scaled_row (x : F) (c : Nat) (f g : Nat → F) : scaled x (rowF c f) (rowF c g) = rowF c (fun j => ga (f j) (gm x (g j))) :=
  rowF_eq (by rw [scaled_len, rowF_len, rowF_len]; omega) fun j hj => by rw [at8_scaled, at8_rowF hj, at8_rowF hj]
theorem scaled_none (x : F) (c : Nat) (g : Nat → F) : scaled x [] (rowF c g) = rowF c (fun j => gm x (g j)) :=
  rowF_eq (by rw [scaled_len, rowF_len]; simp) fun j hj => by rw [at8_scaled, at8_nil, at8_rowF hj, F.zero_add]
theorem scale_R (x : F) (b : Option Addr) (c cb : Nat) (g : Nat → F) (W : World) (hc : c ≤ 128) (hy : Row8 W b (rowF c g)) :
    Calls Tryz.prog 125 #[.int .u8 x.toNat, .slice b c cb] W fun e w' => ∃ q, e = .returned (.slice (some ⟨q, 0, none⟩) c c) ∧ Below W.heap.size W w' ∧ Row8T w' (some ⟨q, 0, none⟩) (rowF c (fun j => gm x (g j))) ∧ W.heap.size ≤ q :=
  (scale_B x b c cb (rowF c g) _ W.heap.size W W (Below.refl _ _) (Nat.le_refl _) rfl (rowF_len _ _).symm (by omega) hy).mono fun e w' ⟨q, he, h3, h1, _, h2⟩ => by
    rw [scaled_none] at he h2
    rw [rowF_len] at he
    exact ⟨q, he, h1, row8T_own h2, h3⟩
theorem addScaled_R (x : F) (a b : Option Addr) (c ca cb : Nat) (f g : Nat → F) (W : World) (hc : c ≤ 128) (hx : Row8 W a (rowF c f)) (hy : Row8 W b (rowF c g)) :
    Calls Tryz.prog 122 #[.slice a c ca, .int .u8 x.toNat, .slice b c cb] W fun e w' => ∃ q, e = .returned (.slice (some ⟨q, 0, none⟩) c c) ∧ Below W.heap.size W w' ∧ Row8T w' (some ⟨q, 0, none⟩) (rowF c (fun j => ga (f j) (gm x (g j)))) ∧ W.heap.size ≤ q :=
  (addScaled_B x a b c ca c cb (rowF c f) (rowF c g) _ W.heap.size W W (Below.refl _ _) (Nat.le_refl _) rfl (rowF_len _ _).symm (rowF_len _ _).symm (by omega) (by omega) hx hy).mono fun e w' ⟨q, he, h3, h1, _, h2⟩ => by
    rw [scaled_row] at he h2
    rw [rowF_len] at he
    exact ⟨q, he, h1, row8T_own h2, h3⟩
theorem RowsW.own {w w' : World} {M n c B size m : Nat} {f : Nat → Option Addr × Nat} {R : Mt} {v : Value} {e : TypeId} {xs : List Value} (h : RowsW w M n c f R) (ho : w.ownsRow B e size v m xs) (he : e ≠ 5) (he2 : 23 ≠ e) (hg : w.grownBy w' v.ownBlock) : RowsW w' M n c f R :=
  ⟨own_other ho hg h.blk he2, fun k hk => row8T_grown (h.row k hk) hg (noElems_own ho he), h.cap, h.nil⟩
/-- a list of one's own of another kind stays when the rows' block turns -/
theorem own_rows {w w' : World} {M n c B size m : Nat} {f : Nat → Option Addr × Nat} {fr : Nat × Nat} {v : Value} {e : TypeId} {xs : List Value} (ho : w.ownsRow B e size v m xs) (hM : w.heap[M]? = some (.cells (slF n c f) 23 fr)) (he : 23 ≠ e) (hg : w.grownBy w' (some M)) : w'.ownsRow B e size v m xs :=
  ho.kept hg (by
    rcases ho.2 with ⟨rfl, _⟩ | ⟨g, cap, cur, rfl, _, h, _⟩
    · exact .inl rfl
    · refine .inr fun e2 => ?_
      have e3 : g = M := by simpa [Value.ownBlock] using e2
      rw [e3, hM] at h
      cases h
      exact he rfl)
theorem grown_trans {a b c : World} {r s : Option Nat} (h : a.grownBy b r) (k : b.grownBy c s) (hs : ∀ j, j < a.heap.size → some j ≠ r → some j ≠ s) : a.grownBy c r :=
  ⟨k.os.trans h.os, k.tape.trans h.tape, k.output.trans h.output, Nat.le_trans h.size k.size, fun j hj hne => (k.block j (Nat.lt_of_lt_of_le hj h.size) (hs j hj hne)).trans (h.block j hj hne)⟩
theorem own_lower {w : World} {B B' size n : Nat} {v : Value} {e : TypeId} {xs : List Value} (h : w.ownsRow B e size v n xs) (hb : B' ≤ B) : w.ownsRow B' e size v n xs :=
  ⟨h.1, h.2.imp id fun ⟨g, cap, cur, h1, h2, h3⟩ => ⟨g, cap, cur, h1, Nat.le_trans hb h2, h3⟩⟩
theorem own_shape {w : World} {B n : Nat} {v : Value} {e : TypeId} {xs : List Value} (ho : w.ownsRow B e 1 v n xs) : ∃ a cap, v = .slice a n cap := by
  rcases ho.2 with ⟨rfl, e⟩ | ⟨g, cap, cur, rfl, h2⟩
  · exact ⟨none, 0, by rw [e]⟩
  · exact ⟨_, _, rfl⟩
/-- what is one's own lies behind all that was there -/
theorem grown_own {w w1 w2 : World} {r : Option Nat} {size n : Nat} {v : Value} {e : TypeId} {xs : List Value} (h : w.grownBy w1 r) (ho : w1.ownsRow w.heap.size e size v n xs) (hg : w1.grownBy w2 v.ownBlock) : w.grownBy w2 r :=
  ⟨hg.os.trans h.os, hg.tape.trans h.tape, hg.output.trans h.output, Nat.le_trans h.size hg.size, fun k hk hne => (hg.block k (Nat.lt_of_lt_of_le hk h.size) (fun e1 => by have := (ho.lt k e1.symm).1; omega)).trans (h.block k hk hne)⟩
/-- a cell of a row -/
theorem RowsW.get {w : World} {M n c : Nat} {f : Nat → Option Addr × Nat} {R : Mt} (h : RowsW w M n c f R) {k j : Nat} (hk : k < n) (hj : j < c) :
    ∃ b off m, f k = (some ⟨b, off, none⟩, m) ∧ c ≤ m ∧ b ≠ M ∧ b < w.heap.size ∧ w.cell? ⟨M, k, none⟩ = some (.slice (some ⟨b, off, none⟩) c m) ∧ w.cell? ⟨b, off + j, none⟩ = some (.int .u8 ((R k j).toNat : Int)) := by
  obtain ⟨b, off, e, hb, hc⟩ := row8_cell (h.row k hk).row8 (j := j) (by rw [rowF_len]; exact hj)
  have h2 := hc j (by rw [rowF_len]; exact hj)
  rw [at8_rowF hj] at h2
  have h1 := cellAt h.blk k _ (slF_at hk)
  rw [e] at h1
  refine ⟨b, off, (f k).2, by rw [← e], h.cap k hk, fun e => ?_, hb, h1, h2⟩
  rw [e, cell_of_row w M _ _ _ _ h.blk] at h2
  obtain ⟨_, _, _, h3⟩ := slF_kind h2
  cases h3
end Go.Proofs.YtkoakingmnjdoaaGreatDoor
