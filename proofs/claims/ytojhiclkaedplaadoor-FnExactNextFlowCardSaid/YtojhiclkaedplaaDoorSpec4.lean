/- The walks of the calendar's model, fourth part. -/
import Derived.Test.YtojhiclkaedplaaDoorSpec3
namespace Go.Proofs.YtojhiclkaedplaaDoor
open Go.RowKit
end Go.Proofs.YtojhiclkaedplaaDoor
