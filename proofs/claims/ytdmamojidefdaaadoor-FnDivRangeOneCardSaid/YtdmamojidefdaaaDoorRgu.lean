/- The walk of the model's powers of ranges. -/
import Derived.Test.YtdmamojidefdaaaDoorRgt
namespace Go.Proofs.YtdmamojidefdaaaDoor
open Go.RowKit
end Go.Proofs.YtdmamojidefdaaaDoor
