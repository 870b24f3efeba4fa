/- Valid days, for lists of holidays. -/
import Derived.Test.YtcmmlgpaijfkeaaHolS
import Derived.Test.YtcmmlgpaijfkeaaAvB
namespace Go.Proofs.Ytcmmlgpaijfkeaa
open Go.RowKit
set_option maxHeartbeats 400000 in
theorem vday_any (n : Int) (w : World) : Calls Try.prog 28 #[.int .i64 n] w fun e w' => e = .returned (.bool (btw n 0 36524)) ∧ w = w' := by
  go_enter Try.func28, Try.ntmps28
  go_wp2_with (go_at_call 34; refine (between_any _ _ _ _).mono ?_; rintro e w' ⟨rfl, rfl⟩)
  go_ret
  exact ⟨rfl, rfl⟩
def dayB (n : Int) : Bool := btw n 0 36524
theorem vdayB_any (n : Int) (w : World) : Calls Try.prog 28 #[.int .i64 n] w fun e w' => e = .returned (.bool (dayB n)) ∧ Below w.heap.size w w' :=
  (vday_any n w).mono fun _ _ ⟨he, hw⟩ => ⟨he, hw ▸ Below.refl _ _⟩
end Go.Proofs.Ytcmmlgpaijfkeaa
