/- What loans rest on: spans, quotients rounded down. -/
import Derived.Test.YtgncgbaoijcinaaDoorYpL
import Derived.Test.YtgncgbaoijcinaaDoorMinMax
namespace Go.Proofs.YtgncgbaoijcinaaDoor
open Go.RowKit
end Go.Proofs.YtgncgbaoijcinaaDoor
