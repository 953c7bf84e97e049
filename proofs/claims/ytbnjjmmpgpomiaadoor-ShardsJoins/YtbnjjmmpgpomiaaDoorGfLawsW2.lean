/- The walks of the statements GfLaws and GfPowers: each returns true of all elements and numbers. -/
import Derived.Test.YtbnjjmmpgpomiaaDoorGfLawsW
namespace Go.Proofs.YtbnjjmmpgpomiaaDoor
open Go.RowKit Gf
set_option maxRecDepth 20000
end Go.Proofs.YtbnjjmmpgpomiaaDoor
