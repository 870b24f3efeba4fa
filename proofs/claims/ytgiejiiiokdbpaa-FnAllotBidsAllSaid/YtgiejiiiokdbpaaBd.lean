/- Bids: which are valid, on both sides. -/
import Derived.Test.YtgiejiiiokdbpaaRep
import Derived.Test.YtgiejiiiokdbpaaAvB
import Derived.Test.YtgiejiiiokdbpaaTq
import Derived.Test.YtgiejiiiokdbpaaBdM
namespace Go.Proofs.Ytgiejiiiokdbpaa
open Go.RowKit
def Bd.one (p : Int × Int) : Bool := btw p.1 0 3000 && btw p.2 1 9999
theorem Bd.one_iff {p : Int × Int} : Bd.one p = true ↔ (0 ≤ p.1 ∧ p.1 ≤ 3000) ∧ (1 ≤ p.2 ∧ p.2 ≤ 9999) := by
  unfold Bd.one
  rw [Bool.and_eq_true, btw_iff, btw_iff]
def Bd.ok (ps : List (Int × Int)) : Bool := btw ps.length 0 8 && ps.all Bd.one
set_option maxHeartbeats 800000 in
theorem bid1_any (p : Int × Int) (w : World) :
    Calls Try.prog 89 #[floV p] w fun e w' => e = .returned (.bool (Bd.one p)) ∧ Below w.heap.size w w' := by
  obtain ⟨d, a⟩ := p
  have hbA := (Below.refl w.heap.size w).alloc (Nat.le_refl _) (.cells #[.int .i64 d, .int .i64 a] 42)
  cases h0 : btw d 0 3000 with
  | false =>
    have E := Lib.hid (show Bd.one (d, a) = false by unfold Bd.one; simp only [h0]; rfl)
    go_enter Try.func89, Try.ntmps89
    go_wp2_with fail
    refine (vrate_any _ _).mono ?_
    rintro e w1 ⟨rfl, rfl⟩
    rw [h0]
    go_wp2_with fail
    go_ret
    exact ⟨ret_bool E.out.symm, hbA⟩
  | true =>
    have E := Lib.hid (show Bd.one (d, a) = btw a 1 9999 by unfold Bd.one; simp only [h0]; rfl)
    go_enter Try.func89, Try.ntmps89
    go_wp2_with fail
    refine (vrate_any _ _).mono ?_
    rintro e w1 ⟨rfl, rfl⟩
    rw [h0]
    go_wp2_with fail
    refine (between_any _ _ _ _).mono ?_
    rintro e w1 ⟨rfl, rfl⟩
    go_wp2_with fail
    go_ret
    exact ⟨ret_bool E.out.symm, hbA⟩
end Go.Proofs.Ytgiejiiiokdbpaa
