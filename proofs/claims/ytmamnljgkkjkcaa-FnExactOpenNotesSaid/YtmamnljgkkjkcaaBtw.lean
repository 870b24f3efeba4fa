/- Tests of bounds. -/
import Derived.Test.YtmamnljgkkjkcaaProg
import Derived.WalkKit
import Derived.WalkSpells
import Derived.WalkLawsBesides
import Derived.Lib.Hide
import Derived.Below
import Derived.Deep.QuietTactic
import Derived.BigQuiet
import Derived.IntWalk
namespace Go.Proofs.Ytmamnljgkkjkcaa
open Go.RowKit
theorem ret_int {k : IntKind} {a b : Int} (h : a = b) : Ending.returned (.int k a) = .returned (.int k b) := by rw [h]
theorem ret_bool {a b : Bool} (h : a = b) : Ending.returned (.bool a) = .returned (.bool b) := by rw [h]
/-- Between two numbers. -/
def btw (n l h : Int) : Bool := decide (l ≤ n ∧ n ≤ h)
theorem btw_t {n l h : Int} (a : l ≤ n) (b : n ≤ h) : btw n l h = true := by unfold btw; exact decide_eq_true ⟨a, b⟩
theorem btw_f {n l h : Int} (a : n < l ∨ h < n) : btw n l h = false := by unfold btw; exact decide_eq_false (by omega)
theorem btw_iff {n l h : Int} : btw n l h = true ↔ l ≤ n ∧ n ≤ h := by unfold btw; simp
theorem btw_iff_f {n l h : Int} : btw n l h = false ↔ n < l ∨ h < n := by unfold btw; rw [decide_eq_false_iff_not]; omega
set_option maxHeartbeats 400000 in
theorem between_any (n l h : Int) (w : World) :
    Calls Try.prog 88 #[.int .i64 n, .int .i64 l, .int .i64 h] w fun e w' => e = .returned (.bool (btw n l h)) ∧ w = w' := by
  by_cases a : l ≤ n
  · by_cases b : n ≤ h
    · have E := Lib.hid (btw_t a b)
      have a1 := decide_eq_true a
      have b1 := decide_eq_true b
      clear a b
      go_enter Try.func88, Try.ntmps88
      go_wp2
      go_ret
      exact ⟨ret_bool E.out.symm, rfl⟩
    · have E := Lib.hid (btw_f (n := n) (l := l) (h := h) (.inr (by omega)))
      have a1 := decide_eq_true a
      have b1 := decide_eq_false b
      clear a b
      go_enter Try.func88, Try.ntmps88
      go_wp2
      go_ret
      exact ⟨ret_bool E.out.symm, rfl⟩
  · have E := Lib.hid (btw_f (n := n) (l := l) (h := h) (.inl (by omega)))
    have a1 := decide_eq_false a
    clear a
    go_enter Try.func88, Try.ntmps88
    go_wp2
    go_ret
    exact ⟨ret_bool E.out.symm, rfl⟩
set_option maxHeartbeats 400000 in
theorem inRange_any (n l h : Int) (w : World) :
    Calls Try.prog 71 #[.int .i64 n, .int .i64 l, .int .i64 h] w fun e w' => e = .returned (.bool (btw n l h)) ∧ w = w' := by
  by_cases a : l ≤ n
  · by_cases b : n ≤ h
    · have E := Lib.hid (btw_t a b)
      have a1 := decide_eq_true a
      have b1 := decide_eq_true b
      clear a b
      go_enter Try.func71, Try.ntmps71
      go_wp2
      go_ret
      exact ⟨ret_bool E.out.symm, rfl⟩
    · have E := Lib.hid (btw_f (n := n) (l := l) (h := h) (.inr (by omega)))
      have a1 := decide_eq_true a
      have b1 := decide_eq_false b
      clear a b
      go_enter Try.func71, Try.ntmps71
      go_wp2
      go_ret
      exact ⟨ret_bool E.out.symm, rfl⟩
  · have E := Lib.hid (btw_f (n := n) (l := l) (h := h) (.inl (by omega)))
    have a1 := decide_eq_false a
    clear a
    go_enter Try.func71, Try.ntmps71
    go_wp2
    go_ret
    exact ⟨ret_bool E.out.symm, rfl⟩
end Go.Proofs.Ytmamnljgkkjkcaa
