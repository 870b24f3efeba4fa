/- What loans rest on: spans, quotients rounded down. -/
import Derived.Test.YtipmaepkhmnhjaaDoorYpL
import Derived.Test.YtipmaepkhmnhjaaDoorMinMax
namespace Go.Proofs.YtipmaepkhmnhjaaDoor
open Go.RowKit
end Go.Proofs.YtipmaepkhmnhjaaDoor
