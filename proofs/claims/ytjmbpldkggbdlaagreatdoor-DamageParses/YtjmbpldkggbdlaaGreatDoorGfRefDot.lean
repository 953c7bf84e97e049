/- What the document's own Dot of package gf's chapter returns, of all lists: the sum of products; nothing is written. -/
import Derived.Test.YtjmbpldkggbdlaaGreatDoorGfRefW
namespace Go.Proofs.YtjmbpldkggbdlaaGreatDoor
open Go.RowKit Gf
set_option linter.unusedVariables false
set_option maxRecDepth 20000
end Go.Proofs.YtjmbpldkggbdlaaGreatDoor
