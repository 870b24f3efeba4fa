/- The walks of the calendar's model, fourth part. -/
import Derived.Test.YtjghcecannapcaaDoorSpec3
namespace Go.Proofs.YtjghcecannapcaaDoor
open Go.RowKit
end Go.Proofs.YtjghcecannapcaaDoor
