/- The walks of the program's other functions of ratios. -/
import Derived.Test.YtapalkohfhohhaaDoorRw4
namespace Go.Proofs.YtapalkohfhohhaaDoor
open Go.RowKit
theorem floor_neg {a b : Int} (hb : 1 ≤ b) (h : a.tmod b < 0) : a.tdiv b - 1 = a / b := by
  have h1 := Int.mul_tdiv_add_tmod a b
  have h2 := Int.lt_tmod_of_pos a (show 0 < b by omega)
  exact ((Int.ediv_emod_unique (a := a) (b := b) (r := a.tmod b + b) (q := a.tdiv b - 1) (by omega)).2 ⟨by rw [Int.mul_sub]; omega, by omega, by omega⟩).1.symm
theorem floor_pos {a b : Int} (hb : 1 ≤ b) (h : 0 ≤ a.tmod b) : a.tdiv b = a / b := by
  have h1 := Int.mul_tdiv_add_tmod a b
  have h2 := Int.tmod_lt_of_pos a (show 0 < b by omega)
  exact ((Int.ediv_emod_unique (a := a) (b := b) (r := a.tmod b) (q := a.tdiv b) (by omega)).2 ⟨by omega, by omega, by omega⟩).1.symm
theorem tdiv_bd {a b : Int} (h0 : -2000000000000000000 ≤ a) (h1 : a ≤ 2000000000000000000) : -2000000000000000001 ≤ a.tdiv b ∧ a.tdiv b ≤ 2000000000000000001 := by
  have := Int.natAbs_tdiv_le_natAbs a b
  omega
def makeV (n d : Int) : Value := if termsB n d = true then .tuple #[.agg #[.int .i64 (Rt.ln n d), .int .i64 (Rt.ld n d)], .bool true] else .tuple #[.agg #[.int .i64 0, .int .i64 0], .bool false]
end Go.Proofs.YtapalkohfhohhaaDoor
