/- Days in ascending order, on both sides. -/
import Derived.Test.YthlnmbnaimobgaaRep
import Derived.Test.YthlnmbnaimobgaaI1
namespace Go.Proofs.Ythlnmbnaimobgaa
open Go.RowKit
def dayB (n : Int) : Bool := btw n 0 36524
theorem vdayB_any (n : Int) (w : World) : Calls Try.prog 96 #[.int .i64 n] w fun e w' => e = .returned (.bool (dayB n)) ∧ Below w.heap.size w w' :=
  (vday_any n w).mono fun _ _ ⟨he, hw⟩ => ⟨he, hw ▸ Below.refl _ _⟩
end Go.Proofs.Ythlnmbnaimobgaa
