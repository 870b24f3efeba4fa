/- The walks of the program's functions of ratios, third part. -/
import Derived.Test.YtcckopnpmcbbcaaDoorRw2
import Derived.RegionTactic
import Derived.ChangeAlike
namespace Go.Proofs.YtcckopnpmcbbcaaDoor
open Go.RowKit
theorem q_bd {n d : Int} (hd : 1 ≤ d) (h0 : -10000000000000 ≤ n) (h1 : n ≤ 10000000000000) (h2 : d ≤ 10000000000000) :
    (-10000000000000 ≤ Rt.ln n d ∧ Rt.ln n d ≤ 10000000000000) ∧ (1 ≤ Rt.ld n d ∧ Rt.ld n d ≤ 10000000000000) ∧ (1 ≤ Rt.g n d ∧ Rt.g n d ≤ 10000000000000) := by
  have a := Rt.ln_abs (n := n) (d := d) (by omega)
  have b := Rt.ld_pos (n := n) (d := d) (by omega)
  have c := Rt.ld_le (n := n) (d := d) (by omega)
  have e := Rt.g_pos (n := n) (d := d) (by omega)
  have f := Rt.g_le (n := n) (d := d) (by omega)
  omega
/-- The ratio in lowest terms if it is valid. -/
def lowV (n d : Int) : Value := if termsB (Rt.ln n d) (Rt.ld n d) = true then .tuple #[.agg #[.int .i64 (Rt.ln n d), .int .i64 (Rt.ld n d)], .bool true] else .tuple #[.agg #[.int .i64 0, .int .i64 0], .bool false]
end Go.Proofs.YtcckopnpmcbbcaaDoor
