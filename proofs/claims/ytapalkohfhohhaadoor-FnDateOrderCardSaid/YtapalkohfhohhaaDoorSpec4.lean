/- The walks of the calendar's model, fourth part. -/
import Derived.Test.YtapalkohfhohhaaDoorSpec3
namespace Go.Proofs.YtapalkohfhohhaaDoor
open Go.RowKit
end Go.Proofs.YtapalkohfhohhaaDoor
