/- The walks of the calendar's model, fourth part. -/
import Derived.Test.YtcckopnpmcbbcaaDoorSpec3
namespace Go.Proofs.YtcckopnpmcbbcaaDoor
open Go.RowKit
end Go.Proofs.YtcckopnpmcbbcaaDoor
