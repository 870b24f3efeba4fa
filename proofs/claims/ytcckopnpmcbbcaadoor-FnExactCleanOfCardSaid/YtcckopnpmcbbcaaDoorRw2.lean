/- The walks of the program's functions of ratios, second part. -/
import Derived.Test.YtcckopnpmcbbcaaDoorRw1
namespace Go.Proofs.YtcckopnpmcbbcaaDoor
open Go.RowKit
theorem mul_bd {a b A B : Int} (h1 : -A ≤ a) (h2 : a ≤ A) (h3 : -B ≤ b) (h4 : b ≤ B) : -(A * B) ≤ a * b ∧ a * b ≤ A * B := by
  have hA : 0 ≤ A := by omega
  have hB : 0 ≤ B := by omega
  have n1 : a.natAbs ≤ A.natAbs := by omega
  have n2 : b.natAbs ≤ B.natAbs := by omega
  have n3 := Nat.mul_le_mul n1 n2
  rw [← Int.natAbs_mul, ← Int.natAbs_mul] at n3
  have : 0 ≤ A * B := Int.mul_nonneg hA hB
  omega
def termsB (n d : Int) : Bool := btw n (-2000000) 2000000 && btw d 1 2000000
def vrB (n d : Int) : Bool := termsB n d && (Rt.g n d == 1)
theorem termsB_iff {n d : Int} : termsB n d = true ↔ -2000000 ≤ n ∧ n ≤ 2000000 ∧ 1 ≤ d ∧ d ≤ 2000000 := by
  unfold termsB
  rw [Bool.and_eq_true, btw_iff, btw_iff]
  omega
theorem vrB_iff {n d : Int} : vrB n d = true ↔ Rt.vr n d := by
  unfold vrB Rt.vr
  rw [Bool.and_eq_true, termsB_iff, beq_iff_eq]
  omega
end Go.Proofs.YtcckopnpmcbbcaaDoor
