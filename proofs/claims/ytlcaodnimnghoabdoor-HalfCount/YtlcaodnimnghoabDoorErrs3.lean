/- The errors' variables, by the rows' condition, where tables stand ahead of them; nothing of the program is proved here. -/
import Derived.Test.YtlcaodnimnghoabDoorErrs
namespace Go.Proofs.YtlcaodnimnghoabDoor
open Go.RowKit Gf
set_option linter.unusedVariables false
set_option maxRecDepth 20000
theorem laidMet_drop {P : Program} {w : World} : ∀ (n : Nat) (laid : List (String × DataW Unit)), laidMet P laid w → laidMet P (laid.drop n) w
  | 0, _, h => h
  | n + 1, [], h => h
  | n + 1, _ :: r, h => laidMet_drop n r h.tail
theorem errs_of_laid_drop {W : World} {laid : List (String × DataW Unit)} {gs : List Nat} (n : Nat) (h : laidMetH Tryd.prog laid W) (hp : (laid.all fun x => x.2.handleName?.isNone) = true)
    (hn : (laid.drop n).map (fun x => Tryd.prog.globalNamed x.1) = gs.map some) (ht : ∀ g ∈ gs, (Tryd.prog.globals[g]?).map (·.type) = some 25) (hd : ∀ x ∈ laid.drop n, ∃ text, x.2 = errD text) : ∃ es, ErrsAt W gs es := by
  rw [MakeChecks.laidMetH_plain _ _ _ hp] at h
  have hp2 : ((laid.drop n).all fun x => x.2.handleName?.isNone) = true := List.all_eq_true.2 fun x hx => List.all_eq_true.1 hp x (List.mem_of_mem_drop hx)
  have h2 : laidMetH Tryd.prog (laid.drop n) W := by
    rw [MakeChecks.laidMetH_plain _ _ _ hp2]
    exact laidMet_drop n laid h
  exact errs_of_laid h2 hp2 hn ht hd
end Go.Proofs.YtlcaodnimnghoabDoor
