/- The walks of the model's functions of ratios. -/
import Derived.Test.YtcckopnpmcbbcaaDoorRw6
namespace Go.Proofs.YtcckopnpmcbbcaaDoor
open Go.RowKit
theorem g_natAbs (a b : Int) : Rt.g (a.natAbs : Int) b = Rt.g a b := by
  rcases Int.natAbs_eq a with h | h
  · rw [← h]
  · have : (a.natAbs : Int) = -a := by omega
    rw [this, Rt.g_neg]
theorem vr_low {n d : Int} (hd : 1 ≤ d) : vrB (Rt.ln n d) (Rt.ld n d) = termsB (Rt.ln n d) (Rt.ld n d) := by
  unfold vrB
  rw [Rt.g_one (Rt.gcd_lo (n := n) (d := d) (by omega))]
  simp
def chkV (p q : Int) : Value := if vrB p q = true then .tuple #[.agg #[.int .i64 p, .int .i64 q], .bool true] else .tuple #[.agg #[.int .i64 0, .int .i64 0], .bool false]
theorem chk_low {n d : Int} (hd : 1 ≤ d) : chkV (Rt.ln n d) (Rt.ld n d) = lowV n d := by unfold chkV lowV; rw [vr_low hd]
end Go.Proofs.YtcckopnpmcbbcaaDoor
