/- What loans rest on: spans, quotients rounded down. -/
import Derived.Test.YtgiejiiiokdbpaaBtw
import Derived.Test.YtgiejiiiokdbpaaDrawB
import Derived.Test.YtgiejiiiokdbpaaChecked
import Derived.Test.YtgiejiiiokdbpaaMinMax
namespace Go.Proofs.Ytgiejiiiokdbpaa
open Go.RowKit
/-- Two days in order, near each other. -/
def Span (x y : Int) : Prop := 0 ≤ x ∧ x ≤ y ∧ y ≤ 36524 ∧ y ≤ x + 4000
def spanB (x y : Int) : Bool := decide (0 ≤ x ∧ x ≤ y ∧ y ≤ 36524 ∧ y ≤ x + 4000)
theorem spanB_iff {x y : Int} : spanB x y = true ↔ Span x y := by unfold spanB Span; simp
theorem spanB_iff_f {x y : Int} : spanB x y = false ↔ ¬ Span x y := by unfold spanB Span; rw [decide_eq_false_iff_not]
theorem span_s1 {x y : Int} (h : btw x 0 36524 = true) (hs : x + 4000 ≤ 36524) : btw y x (x + 4000) = spanB x y := by
  have := btw_iff.1 h
  cases e : spanB x y with
  | true => have := spanB_iff.1 e; unfold Span at this; exact btw_t (by omega) (by omega)
  | false => have := spanB_iff_f.1 e; unfold Span at this; exact btw_f (by omega)
theorem span_s2 {x y : Int} (h : btw x 0 36524 = true) (hs : 36524 ≤ x + 4000) : btw y x 36524 = spanB x y := by
  have := btw_iff.1 h
  cases e : spanB x y with
  | true => have := spanB_iff.1 e; unfold Span at this; exact btw_t (by omega) (by omega)
  | false => have := spanB_iff_f.1 e; unfold Span at this; exact btw_f (by omega)
theorem span_0 {x y : Int} (h : btw x 0 36524 = false) : spanB x y = false := by
  have := btw_iff_f.1 h
  rw [spanB_iff_f]; unfold Span; omega
theorem floor_neg {a b : Int} (hb : 1 ≤ b) (h : a.tmod b < 0) : a.tdiv b - 1 = a / b := by
  have h1 := Int.mul_tdiv_add_tmod a b
  have h2 := Int.lt_tmod_of_pos a (show 0 < b by omega)
  exact ((Int.ediv_emod_unique (a := a) (b := b) (r := a.tmod b + b) (q := a.tdiv b - 1) (by omega)).2 ⟨by rw [Int.mul_sub]; omega, by omega, by omega⟩).1.symm
theorem floor_pos {a b : Int} (hb : 1 ≤ b) (h : 0 ≤ a.tmod b) : a.tdiv b = a / b := by
  have h1 := Int.mul_tdiv_add_tmod a b
  have h2 := Int.tmod_lt_of_pos a (show 0 < b by omega)
  exact ((Int.ediv_emod_unique (a := a) (b := b) (r := a.tmod b) (q := a.tdiv b) (by omega)).2 ⟨by omega, by omega, by omega⟩).1.symm
theorem tdiv_bd {a b : Int} (h0 : -2000000000000000000 ≤ a) (h1 : a ≤ 2000000000000000000) : -2000000000000000001 ≤ a.tdiv b ∧ a.tdiv b ≤ 2000000000000000001 := by
  have := Int.natAbs_tdiv_le_natAbs a b
  omega
end Go.Proofs.Ytgiejiiiokdbpaa
