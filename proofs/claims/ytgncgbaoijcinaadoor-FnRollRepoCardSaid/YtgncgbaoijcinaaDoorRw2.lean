/- The walks of the program's functions of ratios, second part. -/
import Derived.Test.YtgncgbaoijcinaaDoorRw1
namespace Go.Proofs.YtgncgbaoijcinaaDoor
open Go.RowKit
theorem mul_bd {a b A B : Int} (h1 : -A ≤ a) (h2 : a ≤ A) (h3 : -B ≤ b) (h4 : b ≤ B) : -(A * B) ≤ a * b ∧ a * b ≤ A * B := by
  have hA : 0 ≤ A := by omega
  have hB : 0 ≤ B := by omega
  have n1 : a.natAbs ≤ A.natAbs := by omega
  have n2 : b.natAbs ≤ B.natAbs := by omega
  have n3 := Nat.mul_le_mul n1 n2
  rw [← Int.natAbs_mul, ← Int.natAbs_mul] at n3
  have : 0 ≤ A * B := Int.mul_nonneg hA hB
  omega
def termsB (n d : Int) : Bool := btw n (-2000000) 2000000 && btw d 1 2000000
def vrB (n d : Int) : Bool := termsB n d && (Rt.g n d == 1)
theorem termsB_iff {n d : Int} : termsB n d = true ↔ -2000000 ≤ n ∧ n ≤ 2000000 ∧ 1 ≤ d ∧ d ≤ 2000000 := by
  unfold termsB
  rw [Bool.and_eq_true, btw_iff, btw_iff]
  omega
theorem vrB_iff {n d : Int} : vrB n d = true ↔ Rt.vr n d := by
  unfold vrB Rt.vr
  rw [Bool.and_eq_true, termsB_iff, beq_iff_eq]
  omega
set_option maxHeartbeats 400000 in
theorem hasTerms_any (n d : Int) (w : World) :
    Calls Tryd.prog 42 #[.agg #[.int .i64 n, .int .i64 d]] w fun e w' => e = .returned (.bool (termsB n d)) ∧ Below w.heap.size w w' := by
  cases h1 : btw n (-2000000) 2000000 with
  | false =>
    have E := Lib.hid (show termsB n d = false by unfold termsB; rw [h1]; rfl)
    have c1 : ∀ W : World, Calls Tryd.prog 16 #[.int .i64 n, .int .i64 (-2000000), .int .i64 2000000] W fun e w' => e = .returned (.bool false) ∧ W = w' := fun W => by
      have := between_any n (-2000000) 2000000 W; rw [h1] at this; exact this
    have C1 := Lib.hid c1
    clear c1 h1
    go_enter Tryd.func42, Tryd.ntmps42
    go_wp2_with (go_at_call 16; refine (C1.out _).mono ?_; rintro e w' ⟨rfl, rfl⟩)
    first
      | (go_ret; exact ⟨ret_bool E.out.symm, (Below.refl _ _).alloc (Nat.le_refl _) _⟩)
      | (go_quiet ((go_at_call 16; exact quiet_left (C1.out _)))
         go_wp2_with fail
         go_ret
         exact ⟨ret_bool E.out.symm, below_drewN ((Below.refl _ _).alloc (Nat.le_refl _) _) _⟩)
  | true =>
    have E := Lib.hid (show termsB n d = btw d 1 2000000 by unfold termsB; rw [h1]; rfl)
    have c1 : ∀ W : World, Calls Tryd.prog 16 #[.int .i64 n, .int .i64 (-2000000), .int .i64 2000000] W fun e w' => e = .returned (.bool true) ∧ W = w' := fun W => by
      have := between_any n (-2000000) 2000000 W; rw [h1] at this; exact this
    have C1 := Lib.hid c1
    clear c1 h1
    go_enter Tryd.func42, Tryd.ntmps42
    go_wp2_with fail
    first
      | (go_quiet ((first | (go_at_call 16; with_reducible exact quiet_left (C1.out _)) | (go_at_call 16; with_reducible exact quiet_left (between_any _ _ _ _))))
         go_wp2_with fail
         go_ret
         exact ⟨ret_bool E.out.symm, below_drewN ((Below.refl _ _).alloc (Nat.le_refl _) _) _⟩)
      | (go_wp2_with (first | (go_at_call 16; with_reducible refine (C1.out _).mono ?_; rintro e w' ⟨rfl, rfl⟩) | (go_at_call 16; with_reducible refine (between_any _ _ _ _).mono ?_; rintro e w' ⟨rfl, rfl⟩))
         go_ret
         exact ⟨ret_bool E.out.symm, (Below.refl _ _).alloc (Nat.le_refl _) _⟩)
end Go.Proofs.YtgncgbaoijcinaaDoor
