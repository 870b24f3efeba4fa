/- Two days in order. -/
import Derived.Test.YtgncgbaoijcinaaDoorSpec
namespace Go.Proofs.YtgncgbaoijcinaaDoor
open Go.RowKit
set_option maxHeartbeats 400000 in
theorem vday_any (n : Int) (w : World) : Calls Tryd.prog 25 #[.int .i64 n] w fun e w' => e = .returned (.bool (btw n 0 36524)) ∧ w = w' := by
  go_enter Tryd.func25, Tryd.ntmps25
  go_wp2_with (go_at_call 16; refine (between_any _ _ _ _).mono ?_; rintro e w' ⟨rfl, rfl⟩)
  go_ret
  exact ⟨rfl, rfl⟩
/-- Two days in order, near each other. -/
def Span (x y : Int) : Prop := 0 ≤ x ∧ x ≤ y ∧ y ≤ 36524 ∧ y ≤ x + 4000
def spanB (x y : Int) : Bool := decide (0 ≤ x ∧ x ≤ y ∧ y ≤ 36524 ∧ y ≤ x + 4000)
theorem spanB_iff {x y : Int} : spanB x y = true ↔ Span x y := by unfold spanB Span; simp
theorem spanB_iff_f {x y : Int} : spanB x y = false ↔ ¬ Span x y := by unfold spanB Span; rw [decide_eq_false_iff_not]
set_option maxHeartbeats 400000 in
theorem span_any (x y : Int) (w : World) : Calls Tryd.prog 18 #[.int .i64 x, .int .i64 y] w fun e w' => e = .returned (.bool (spanB x y)) ∧ w = w' := by
  cases h1 : btw x 0 36524 with
  | false =>
    have E := Lib.hid (show spanB x y = false by rw [spanB_iff_f]; have := btw_iff_f.1 h1; unfold Span; omega)
    go_enter Tryd.func18, Tryd.ntmps18
    go_wp2_with (first | (go_at_call 25; refine (vday_any _ _).mono ?_; rintro e w' ⟨rfl, rfl⟩) | (go_at_call 16; refine (between_any _ _ _ _).mono ?_; rintro e w' ⟨rfl, rfl⟩))
    go_ret
    exact ⟨ret_bool E.out.symm, rfl⟩
  | true =>
    cases h2 : btw y 0 36524 with
    | false =>
      have E := Lib.hid (show spanB x y = false by rw [spanB_iff_f]; have := btw_iff_f.1 h2; have := btw_iff.1 h1; unfold Span; omega)
      go_enter Tryd.func18, Tryd.ntmps18
      go_wp2_with (first | (go_at_call 25; refine (vday_any _ _).mono ?_; rintro e w' ⟨rfl, rfl⟩) | (go_at_call 16; refine (between_any _ _ _ _).mono ?_; rintro e w' ⟨rfl, rfl⟩))
      go_ret
      exact ⟨ret_bool E.out.symm, rfl⟩
    | true =>
      obtain ⟨x0, x1⟩ := btw_iff.1 h1
      obtain ⟨y0, y1⟩ := btw_iff.1 h2
      have E := Lib.hid (show spanB x y = btw (y - x) 0 4000 by
        cases h : btw (y - x) 0 4000 with
        | true => rw [spanB_iff]; have := btw_iff.1 h; unfold Span; omega
        | false => rw [spanB_iff_f]; have := btw_iff_f.1 h; unfold Span; omega)
      go_enter Tryd.func18, Tryd.ntmps18
      go_wp2_with (first | (go_at_call 25; refine (vday_any _ _).mono ?_; rintro e w' ⟨rfl, rfl⟩) | (go_at_call 16; refine (between_any _ _ _ _).mono ?_; rintro e w' ⟨rfl, rfl⟩))
      go_ret
      exact ⟨ret_bool E.out.symm, rfl⟩
theorem span_s1 {x y : Int} (h : btw x 0 36524 = true) (hs : x + 4000 ≤ 36524) : btw y x (x + 4000) = spanB x y := by
  have := btw_iff.1 h
  cases e : spanB x y with
  | true => have := spanB_iff.1 e; unfold Span at this; exact btw_t (by omega) (by omega)
  | false => have := spanB_iff_f.1 e; unfold Span at this; exact btw_f (by omega)
theorem span_s2 {x y : Int} (h : btw x 0 36524 = true) (hs : 36524 ≤ x + 4000) : btw y x 36524 = spanB x y := by
  have := btw_iff.1 h
  cases e : spanB x y with
  | true => have := spanB_iff.1 e; unfold Span at this; exact btw_t (by omega) (by omega)
  | false => have := spanB_iff_f.1 e; unfold Span at this; exact btw_f (by omega)
theorem span_0 {x y : Int} (h : btw x 0 36524 = false) : spanB x y = false := by
  have := btw_iff_f.1 h
  rw [spanB_iff_f]; unfold Span; omega
end Go.Proofs.YtgncgbaoijcinaaDoor
