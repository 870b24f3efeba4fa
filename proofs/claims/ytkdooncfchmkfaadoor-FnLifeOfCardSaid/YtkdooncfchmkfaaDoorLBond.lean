/- Laws of bonds. -/
import Derived.Test.YtkdooncfchmkfaaDoorDrawBond
import Derived.Test.YtkdooncfchmkfaaDoorZB
namespace Go.Proofs.YtkdooncfchmkfaaDoor
open Go.RowKit
/-- A bond drawn out of a law's input. -/
def DBn (w : World) (x : Ending) (w' : World) : Prop :=
  ∃ s e m r : Int, x = .returned (.agg #[.int .i64 s, .int .i64 e, .int .i64 m, .int .i64 r]) ∧ (0 ≤ s ∧ s ≤ 20000) ∧ (-2 ≤ e ∧ e ≤ 60000) ∧ (0 ≤ m ∧ m ≤ 12) ∧ (-1 ≤ r ∧ r ≤ 3001) ∧ Below w.heap.size w w'
end Go.Proofs.YtkdooncfchmkfaaDoor
