/- What the document's own Rows of package half's chapter answers, of all legal numbers; nothing that was there turns. -/
import Derived.Test.YtmlpijlcpeoeaaaDoorHalfQ
import Derived.Test.YtmlpijlcpeoeaaaDoorRefOf
import Derived.Test.YtmlpijlcpeoeaaaDoorPlacesK
namespace Go.Proofs.YtmlpijlcpeoeaaaDoor
open Go.RowKit Gf
set_option linter.unusedVariables false
set_option maxRecDepth 20000
theorem hown_set {w : World} {B g i n : Nat} {v x : Value} {e : TypeId} {s : Nat} {xs : List Value} (h : w.ownsRow B e s v n xs) (hg : g < B) : (w.setCell ⟨g, i, none⟩ x).ownsRow B e s v n xs :=
  ⟨h.1, h.2.imp id fun ⟨g2, cap, cur, h1, h2, h3, h4⟩ => ⟨g2, cap, cur, h1, h2, (heap_setCell_other _ _ _ _ (by show g2 ≠ g; omega)).trans h3, h4⟩⟩
end Go.Proofs.YtmlpijlcpeoeaaaDoor
