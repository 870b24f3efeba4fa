/- Valid notes, in the program. -/
import Derived.Test.YtmamnljgkkjkcaaMnT
import Derived.Test.YtmamnljgkkjkcaaBtw
namespace Go.Proofs.Ytmamnljgkkjkcaa
open Go Go.RowKit
theorem vdayN_any (n : Int) (w : World) : Calls Try.prog 100 #[.int .i64 n] w fun x w' => x = .returned (.bool (btw n 0 36524)) ∧ w = w' := by
  go_enter Try.func100, Try.ntmps100
  go_wp2_with fail
  refine (between_any _ _ _ _).mono ?_
  rintro e w1 ⟨rfl, rfl⟩
  go_wp2_with fail
  go_ret
  exact ⟨rfl, rfl⟩
theorem vprN_any (n : Int) (w : World) : Calls Try.prog 93 #[.int .i64 n] w fun x w' => x = .returned (.bool (btw n 0 50000)) ∧ w = w' := by
  go_enter Try.func93, Try.ntmps93
  go_wp2_with fail
  refine (between_any _ _ _ _).mono ?_
  rintro e w1 ⟨rfl, rfl⟩
  go_wp2_with fail
  go_ret
  exact ⟨rfl, rfl⟩
theorem pprN_any (n : Int) (w : World) : Calls Try.prog 101 #[.int .i64 n] w fun x w' => x = .returned (.bool (btw n 1 50000)) ∧ w = w' := by
  by_cases h : n > 0
  · have h' := decide_eq_true h
    have E := Lib.hid (show btw n 0 50000 = btw n 1 50000 by
      by_cases c : n ≤ 50000
      · rw [btw_t (by omega) (by omega), btw_t (by omega) (by omega)]
      · rw [btw_f (.inr (by omega)), btw_f (.inr (by omega))])
    go_enter Try.func101, Try.ntmps101
    go_wp2_with fail
    refine (vprN_any _ _).mono ?_
    rintro e w1 ⟨rfl, rfl⟩
    go_wp2_with fail
    go_ret
    exact ⟨ret_bool E.out, rfl⟩
  · have h' := decide_eq_false h
    have E := Lib.hid (show btw n 1 50000 = false from btw_f (.inl (by omega)))
    go_enter Try.func101, Try.ntmps101
    go_wp2_with fail
    go_ret
    exact ⟨ret_bool E.out.symm, rfl⟩
/-- A valid note. -/
def Mn.one (t : Tri) : Bool := btw t.1 0 36524 && (btw t.2.1 1 9999 && btw t.2.2 1 50000)
set_option maxHeartbeats 800000 in
theorem nvalid_any (p : Tri) (w : World) :
    Calls Try.prog 92 #[triV p] w fun e w' => e = .returned (.bool (Mn.one p)) ∧ Below w.heap.size w w' := by
  obtain ⟨f, t, a⟩ := p
  have hbA := (Below.refl w.heap.size w).alloc (Nat.le_refl _) (.cells #[.int .i64 f, .int .i64 t, .int .i64 a] 48)
  cases h0 : btw f 0 36524 with
  | false =>
    have E := Lib.hid (show Mn.one (f, t, a) = false by unfold Mn.one; simp only [h0]; rfl)
    go_enter Try.func92, Try.ntmps92
    go_wp2_with fail
    refine (vdayN_any _ _).mono ?_
    rintro e w1 ⟨rfl, rfl⟩
    rw [h0]
    go_wp2_with fail
    go_ret
    exact ⟨ret_bool E.out.symm, hbA⟩
  | true =>
    cases h1 : btw t 1 9999 with
    | false =>
      have E := Lib.hid (show Mn.one (f, t, a) = false by unfold Mn.one; simp only [h0, h1]; rfl)
      go_enter Try.func92, Try.ntmps92
      go_wp2_with fail
      refine (vdayN_any _ _).mono ?_
      rintro e w1 ⟨rfl, rfl⟩
      rw [h0]
      go_wp2_with fail
      refine (between_any _ _ _ _).mono ?_
      rintro e w1 ⟨rfl, rfl⟩
      rw [h1]
      go_wp2_with fail
      go_ret
      exact ⟨ret_bool E.out.symm, hbA⟩
    | true =>
      have E := Lib.hid (show Mn.one (f, t, a) = btw a 1 50000 by unfold Mn.one; simp only [h0, h1]; rfl)
      go_enter Try.func92, Try.ntmps92
      go_wp2_with fail
      refine (vdayN_any _ _).mono ?_
      rintro e w1 ⟨rfl, rfl⟩
      rw [h0]
      go_wp2_with fail
      refine (between_any _ _ _ _).mono ?_
      rintro e w1 ⟨rfl, rfl⟩
      rw [h1]
      go_wp2_with fail
      refine (pprN_any _ _).mono ?_
      rintro e w1 ⟨rfl, rfl⟩
      go_wp2_with fail
      go_ret
      exact ⟨ret_bool E.out.symm, hbA⟩
end Go.Proofs.Ytmamnljgkkjkcaa
