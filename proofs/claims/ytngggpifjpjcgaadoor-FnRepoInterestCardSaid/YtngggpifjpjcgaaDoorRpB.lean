/- What loans rest on: spans, quotients rounded down. -/
import Derived.Test.YtngggpifjpjcgaaDoorYpL
import Derived.Test.YtngggpifjpjcgaaDoorMinMax
namespace Go.Proofs.YtngggpifjpjcgaaDoor
open Go.RowKit
end Go.Proofs.YtngggpifjpjcgaaDoor
