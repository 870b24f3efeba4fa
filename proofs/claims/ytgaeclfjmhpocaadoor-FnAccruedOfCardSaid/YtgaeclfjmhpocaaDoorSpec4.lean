/- The walks of the calendar's model, fourth part. -/
import Derived.Test.YtgaeclfjmhpocaaDoorSpec3
namespace Go.Proofs.YtgaeclfjmhpocaaDoor
open Go.RowKit
end Go.Proofs.YtgaeclfjmhpocaaDoor
