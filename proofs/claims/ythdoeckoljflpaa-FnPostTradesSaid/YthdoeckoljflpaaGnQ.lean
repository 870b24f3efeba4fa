/- The laws of lots: signs. -/
import Derived.Test.YthdoeckoljflpaaGnP
namespace Go.Proofs.Ythdoeckoljflpaa
open Go.RowKit
end Go.Proofs.Ythdoeckoljflpaa
