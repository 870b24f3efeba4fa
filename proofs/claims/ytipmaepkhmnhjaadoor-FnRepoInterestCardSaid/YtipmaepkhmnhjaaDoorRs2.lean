/- The walks of the model's sums, products and comparing. -/
import Derived.Test.YtipmaepkhmnhjaaDoorRs1
namespace Go.Proofs.YtipmaepkhmnhjaaDoor
open Go.RowKit
set_option maxHeartbeats 400000 in
theorem toInt_any (b : Bool) (w : World) : Calls Tryd.prog 81 #[.bool b] w fun e w' => e = .returned (.int .i64 (if b = true then 1 else 0)) ∧ w = w' := by
  cases b
  · go_enter Tryd.func81, Tryd.ntmps81
    go_wp2
    go_ret
    exact ⟨rfl, rfl⟩
  · go_enter Tryd.func81, Tryd.ntmps81
    go_wp2
    go_ret
    exact ⟨rfl, rfl⟩
end Go.Proofs.YtipmaepkhmnhjaaDoor
