/- What find, Of, Split and Carrier of package half answer, at all numbers; nothing that was there turns. -/
import Derived.Test.YtbjjmlebpohmcaaDoorHalfW
namespace Go.Proofs.YtbjjmlebpohmcaaDoor
open Go.RowKit Gf
set_option linter.unusedVariables false
set_option maxRecDepth 20000
end Go.Proofs.YtbjjmlebpohmcaaDoor
