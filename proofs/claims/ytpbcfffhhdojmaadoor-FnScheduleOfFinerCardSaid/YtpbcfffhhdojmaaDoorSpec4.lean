/- The walks of the calendar's model, fourth part. -/
import Derived.Test.YtpbcfffhhdojmaaDoorSpec3
namespace Go.Proofs.YtpbcfffhhdojmaaDoor
open Go.RowKit
end Go.Proofs.YtpbcfffhhdojmaaDoor
