/- The walks of the calendar's model, fourth part. -/
import Derived.Test.YtbihadelhknlnaaDoorSpec3
namespace Go.Proofs.YtbihadelhknlnaaDoor
open Go.RowKit
end Go.Proofs.YtbihadelhknlnaaDoor
