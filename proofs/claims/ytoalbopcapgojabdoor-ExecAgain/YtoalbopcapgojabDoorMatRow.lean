/- What Row of package mat answers, of all matrices and numbers; nothing that was there turns. -/
import Derived.Test.YtoalbopcapgojabDoorMatR
namespace Go.Proofs.YtoalbopcapgojabDoor
open Go.RowKit Gf
set_option linter.unusedVariables false
set_option maxRecDepth 20000
end Go.Proofs.YtoalbopcapgojabDoor
