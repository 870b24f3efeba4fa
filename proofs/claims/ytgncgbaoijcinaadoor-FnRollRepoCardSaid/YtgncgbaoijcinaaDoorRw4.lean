/- The walks of the program's sums and products of ratios. -/
import Derived.Test.YtgncgbaoijcinaaDoorRw3
namespace Go.Proofs.YtgncgbaoijcinaaDoor
open Go.RowKit

def addRV (a b c d : Int) : Value := if vrB a b = true ∧ vrB c d = true then lowV (a * d + c * b) (b * d) else .tuple #[.agg #[.int .i64 0, .int .i64 0], .bool false]
def mulRV (a b c d : Int) : Value := if vrB a b = true ∧ vrB c d = true then lowV (a * c) (b * d) else .tuple #[.agg #[.int .i64 0, .int .i64 0], .bool false]
end Go.Proofs.YtgncgbaoijcinaaDoor
