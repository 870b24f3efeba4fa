/- Lots and gains, the model whole. -/
import Derived.Test.YthdoeckoljflpaaLtS
namespace Go.Proofs.Ythdoeckoljflpaa
open Go.RowKit
end Go.Proofs.Ythdoeckoljflpaa
