/- The walks of comparing. -/
import Derived.Test.YtgncgbaoijcinaaDoorRw5
namespace Go.Proofs.YtgncgbaoijcinaaDoor
open Go.RowKit
def cmpV (a b c d : Int) : Int := if vrB a b = true ∧ vrB c d = true then (if a * d < c * b then -1 else if c * b < a * d then 1 else 0) else 2
end Go.Proofs.YtgncgbaoijcinaaDoor
