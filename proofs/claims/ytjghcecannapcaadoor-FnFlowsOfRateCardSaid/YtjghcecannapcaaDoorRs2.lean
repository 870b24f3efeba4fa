/- The walks of the model's sums, products and comparing. -/
import Derived.Test.YtjghcecannapcaaDoorRs1
namespace Go.Proofs.YtjghcecannapcaaDoor
open Go.RowKit
set_option maxHeartbeats 400000 in
theorem toInt_any (b : Bool) (w : World) : Calls Tryd.prog 80 #[.bool b] w fun e w' => e = .returned (.int .i64 (if b = true then 1 else 0)) ∧ w = w' := by
  cases b
  · go_enter Tryd.func80, Tryd.ntmps80
    go_wp2
    go_ret
    exact ⟨rfl, rfl⟩
  · go_enter Tryd.func80, Tryd.ntmps80
    go_wp2
    go_ret
    exact ⟨rfl, rfl⟩
end Go.Proofs.YtjghcecannapcaaDoor
