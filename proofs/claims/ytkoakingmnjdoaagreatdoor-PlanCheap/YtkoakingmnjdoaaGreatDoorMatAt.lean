/- What At of package mat answers, of all matrices and places; nothing that was there turns. -/
import Derived.Test.YtkoakingmnjdoaaGreatDoorMatA
namespace Go.Proofs.YtkoakingmnjdoaaGreatDoor
open Go.RowKit Gf
set_option linter.unusedVariables false
set_option maxRecDepth 20000
end Go.Proofs.YtkoakingmnjdoaaGreatDoor
