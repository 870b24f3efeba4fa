/- Trades: the exact law of valid ones. -/
import Derived.Test.YthdoeckoljflpaaTrXTrade
import Derived.Test.YthdoeckoljflpaaTd
namespace Go.Proofs.Ythdoeckoljflpaa
open Go.RowKit
end Go.Proofs.Ythdoeckoljflpaa
