/- The walks of the model's sums, products and comparing. -/
import Derived.Test.YtcckopnpmcbbcaaDoorRs1
namespace Go.Proofs.YtcckopnpmcbbcaaDoor
open Go.RowKit
set_option maxHeartbeats 400000 in
theorem toInt_any (b : Bool) (w : World) : Calls Tryd.prog 99 #[.bool b] w fun e w' => e = .returned (.int .i64 (if b = true then 1 else 0)) ∧ w = w' := by
  cases b
  · go_enter Tryd.func99, Tryd.ntmps99
    go_wp2
    go_ret
    exact ⟨rfl, rfl⟩
  · go_enter Tryd.func99, Tryd.ntmps99
    go_wp2
    go_ret
    exact ⟨rfl, rfl⟩
end Go.Proofs.YtcckopnpmcbbcaaDoor
