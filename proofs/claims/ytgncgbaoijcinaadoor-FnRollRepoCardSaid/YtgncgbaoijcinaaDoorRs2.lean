/- The walks of the model's sums, products and comparing. -/
import Derived.Test.YtgncgbaoijcinaaDoorRs1
namespace Go.Proofs.YtgncgbaoijcinaaDoor
open Go.RowKit
set_option maxHeartbeats 400000 in
theorem toInt_any (b : Bool) (w : World) : Calls Tryd.prog 53 #[.bool b] w fun e w' => e = .returned (.int .i64 (if b = true then 1 else 0)) ∧ w = w' := by
  cases b
  · go_enter Tryd.func53, Tryd.ntmps53
    go_wp2
    go_ret
    exact ⟨rfl, rfl⟩
  · go_enter Tryd.func53, Tryd.ntmps53
    go_wp2
    go_ret
    exact ⟨rfl, rfl⟩
end Go.Proofs.YtgncgbaoijcinaaDoor
