/- What the small functions of package half answer: there, placeOf, number, find, carrier, carrying, Of, Split, Carrier; and the document's own Carrier; nothing that was there turns. -/
import Derived.Test.YtbjjmlebpohmcaaDoorBaseW
import Derived.Test.YtbjjmlebpohmcaaDoorHolds
namespace Go.Proofs.YtbjjmlebpohmcaaDoor
open Go.RowKit Gf
set_option linter.unusedVariables false
set_option maxRecDepth 20000
/-- the parity that carries a data shard -/
def carN (g j : Nat) : Nat := j / g + 1
theorem carN_le {g j : Nat} : carN g j ≤ j + 1 := by
  have := Nat.div_le_self j g
  simp only [carN]; omega
end Go.Proofs.YtbjjmlebpohmcaaDoor
