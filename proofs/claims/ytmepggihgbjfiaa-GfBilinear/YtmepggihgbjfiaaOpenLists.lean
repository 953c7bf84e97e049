/- How the statements' three lists and an element come in: facts for the frames of the laws; nothing of the program is proved here. -/
import Derived.Test.YtmepggihgbjfiaaOpen
import Derived.Lib.SmallJoins
namespace Go.Proofs.Ytmepggihgbjfiaa
open Go.ChangeShapes Go.WideShapes Go.ChangeAt Go.RowKit Gf Go.Joins
theorem cellsLists : Try.prog.cellsOf 42 = 4 := by kernel_rfl
/-- a list's datum, and its room -/
def Room {H : Type} (d : DataW H) (cap : Nat) : Prop := d = .nil ∧ cap = 0 ∨ ∃ es sp, d = .slice es sp ∧ es.length + sp.length = cap
theorem room_le {H : Type} {d : DataW H} {cap : Nat} (h : Room d cap) (hw : ∀ n ∈ DataW.weights Try.prog 31 d, n ≤ reachBytes) : cap ≤ 140737488351232 := by
  rcases h with ⟨_, rfl⟩ | ⟨es, sp, rfl, rfl⟩
  · omega
  · have := hw ((es.length + sp.length) * Try.prog.bytesOf 5) (by simp [DataW.weights, Try.underlying31])
    rw [bytes8] at this
    simp only [reachBytes] at this
    omega
theorem openLists {H : Type} {enc : TypeId × Value → H} {W : World} {v : Value} {d : DataW H} {p : List MemPlace} {base : Nat} {ts : List TypeId} {ds : List (DataW H)} {j : Nat}
    (hv : Value.okWide Try.prog W .any base 42 v) (h : DataW.Trod enc Try.prog W 0 (fun _ => true) true 42 v d p)
    (hsz : (DataW.weightsEach Try.prog ts ds).all (· ≤ reachBytes) = true) (ht : ts[j]? = some 42) (hd : ds[j]? = some d) :
    ∃ a ca xs b cb ys e ce zs, ∃ c : F, v = .agg #[.slice a (List.length xs) ca, .slice b (List.length ys) cb, .slice e (List.length zs) ce, .int .u8 c.toNat] ∧ Row8 W a xs ∧ Row8 W b ys ∧ Row8 W e zs ∧
      xs.length ≤ ca ∧ ys.length ≤ cb ∧ zs.length ≤ ce ∧ ca ≤ 140737488351232 ∧ cb ≤ 140737488351232 ∧ ce ≤ 140737488351232 := by
  obtain ⟨v0, v1, v2, v3, y0, y1, y2, y3, n, rfl, rfl, _, e0, e1, e2, e3⟩ := open_agg4 Try.underlying42 (by kernel_rfl) cellsLists hv h
  obtain ⟨a, la, ca, xs, s0, rfl, ka, ra, da, _⟩ := open8_cells e0
  obtain ⟨b, lb, cb, ys, s1, rfl, kb, rb, db, _⟩ := open8_cells e1
  obtain ⟨e, le, ce, zs, s2, rfl, ke, re, de, _⟩ := open8_cells e2
  obtain ⟨c, s3, _, wc⟩ := DataW.trod_int Try.underlying5 e3
  simp only [List.cons.injEq, and_true] at s0 s1 s2 s3
  subst s0 s1 s2 s3
  obtain ⟨x, rfl⟩ := exists_F (bounds_u8 wc).1 (bounds_u8 wc).2
  have hw : ∀ n ∈ DataW.weights Try.prog 42 (.agg [y0.1, y1.1, y2.1, y3.1]), n ≤ reachBytes := fun n hn => by
    simpa using List.all_eq_true.1 hsz _ (DataW.weights_mem_each ht hd n hn)
  simp only [DataW.weights, Try.underlying42] at hw
  have r0 : Room y0.1 ca := da.imp (fun h => ⟨h.1, h.2.2⟩) id
  have r1 : Room y1.1 cb := db.imp (fun h => ⟨h.1, h.2.2⟩) id
  have r2 : Room y2.1 ce := de.imp (fun h => ⟨h.1, h.2.2⟩) id
  refine ⟨a, ca, xs, b, cb, ys, e, ce, zs, x, rfl, ra, rb, re, ka, kb, ke, room_le r0 ?_, room_le r1 ?_, room_le r2 ?_⟩
  · exact fun n hn => hw n (by simp [DataW.weightsEach, hn])
  · exact fun n hn => hw n (by simp [DataW.weightsEach, hn])
  · exact fun n hn => hw n (by simp [DataW.weightsEach, hn])
end Go.Proofs.Ytmepggihgbjfiaa
