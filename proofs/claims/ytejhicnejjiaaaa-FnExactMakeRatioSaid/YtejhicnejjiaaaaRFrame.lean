/- What the rows' proofs of ratios share. -/
import Derived.Test.YtejhicnejjiaaaaRows
import Derived.Test.YtejhicnejjiaaaaRw1
import Derived.ProofKit
import Derived.OpenShut
import Derived.Lib.SmallJoins
import Derived.ChangeOld
namespace Go.Proofs.Ytejhicnejjiaaaa
open Go.ChangeShapes Go.WideShapes Go.ChangeAt Go.RowKit
theorem own : ownKnob Try.prog.godebug = none := by kernel_rfl
theorem laidOut : laidOutB Try.prog = true := by kernel_rfl
end Go.Proofs.Ytejhicnejjiaaaa
