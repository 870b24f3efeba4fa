/- What loans rest on: spans, quotients rounded down. -/
import Derived.Test.YtcakdjmmlcjkbaaBtw
import Derived.Test.YtcakdjmmlcjkbaaDrawB
import Derived.Test.YtcakdjmmlcjkbaaChecked
import Derived.Test.YtcakdjmmlcjkbaaMinMax
namespace Go.Proofs.Ytcakdjmmlcjkbaa
open Go.RowKit
set_option maxHeartbeats 400000 in
theorem vday_any (n : Int) (w : World) : Calls Try.prog 58 #[.int .i64 n] w fun e w' => e = .returned (.bool (btw n 0 36524)) ∧ w = w' := by
  go_enter Try.func58, Try.ntmps58
  go_wp2_with (go_at_call 39; refine (between_any _ _ _ _).mono ?_; rintro e w' ⟨rfl, rfl⟩)
  go_ret
  exact ⟨rfl, rfl⟩
/-- Two days in order, near each other. -/
def Span (x y : Int) : Prop := 0 ≤ x ∧ x ≤ y ∧ y ≤ 36524 ∧ y ≤ x + 4000
def spanB (x y : Int) : Bool := decide (0 ≤ x ∧ x ≤ y ∧ y ≤ 36524 ∧ y ≤ x + 4000)
theorem spanB_iff {x y : Int} : spanB x y = true ↔ Span x y := by unfold spanB Span; simp
theorem spanB_iff_f {x y : Int} : spanB x y = false ↔ ¬ Span x y := by unfold spanB Span; rw [decide_eq_false_iff_not]
set_option maxHeartbeats 400000 in
theorem span_any (x y : Int) (w : World) : Calls Try.prog 51 #[.int .i64 x, .int .i64 y] w fun e w' => e = .returned (.bool (spanB x y)) ∧ w = w' := by
  cases h1 : btw x 0 36524 with
  | false =>
    have E := Lib.hid (show spanB x y = false by rw [spanB_iff_f]; have := btw_iff_f.1 h1; unfold Span; omega)
    go_enter Try.func51, Try.ntmps51
    go_wp2_with (first | (go_at_call 58; refine (vday_any _ _).mono ?_; rintro e w' ⟨rfl, rfl⟩) | (go_at_call 39; refine (between_any _ _ _ _).mono ?_; rintro e w' ⟨rfl, rfl⟩))
    go_ret
    exact ⟨ret_bool E.out.symm, rfl⟩
  | true =>
    cases h2 : btw y 0 36524 with
    | false =>
      have E := Lib.hid (show spanB x y = false by rw [spanB_iff_f]; have := btw_iff_f.1 h2; have := btw_iff.1 h1; unfold Span; omega)
      go_enter Try.func51, Try.ntmps51
      go_wp2_with (first | (go_at_call 58; refine (vday_any _ _).mono ?_; rintro e w' ⟨rfl, rfl⟩) | (go_at_call 39; refine (between_any _ _ _ _).mono ?_; rintro e w' ⟨rfl, rfl⟩))
      go_ret
      exact ⟨ret_bool E.out.symm, rfl⟩
    | true =>
      obtain ⟨x0, x1⟩ := btw_iff.1 h1
      obtain ⟨y0, y1⟩ := btw_iff.1 h2
      have E := Lib.hid (show spanB x y = btw (y - x) 0 4000 by
        cases h : btw (y - x) 0 4000 with
        | true => rw [spanB_iff]; have := btw_iff.1 h; unfold Span; omega
        | false => rw [spanB_iff_f]; have := btw_iff_f.1 h; unfold Span; omega)
      go_enter Try.func51, Try.ntmps51
      go_wp2_with (first | (go_at_call 58; refine (vday_any _ _).mono ?_; rintro e w' ⟨rfl, rfl⟩) | (go_at_call 39; refine (between_any _ _ _ _).mono ?_; rintro e w' ⟨rfl, rfl⟩))
      go_ret
      exact ⟨ret_bool E.out.symm, rfl⟩
theorem span_s1 {x y : Int} (h : btw x 0 36524 = true) (hs : x + 4000 ≤ 36524) : btw y x (x + 4000) = spanB x y := by
  have := btw_iff.1 h
  cases e : spanB x y with
  | true => have := spanB_iff.1 e; unfold Span at this; exact btw_t (by omega) (by omega)
  | false => have := spanB_iff_f.1 e; unfold Span at this; exact btw_f (by omega)
theorem span_s2 {x y : Int} (h : btw x 0 36524 = true) (hs : 36524 ≤ x + 4000) : btw y x 36524 = spanB x y := by
  have := btw_iff.1 h
  cases e : spanB x y with
  | true => have := spanB_iff.1 e; unfold Span at this; exact btw_t (by omega) (by omega)
  | false => have := spanB_iff_f.1 e; unfold Span at this; exact btw_f (by omega)
theorem span_0 {x y : Int} (h : btw x 0 36524 = false) : spanB x y = false := by
  have := btw_iff_f.1 h
  rw [spanB_iff_f]; unfold Span; omega
theorem floor_neg {a b : Int} (hb : 1 ≤ b) (h : a.tmod b < 0) : a.tdiv b - 1 = a / b := by
  have h1 := Int.mul_tdiv_add_tmod a b
  have h2 := Int.lt_tmod_of_pos a (show 0 < b by omega)
  exact ((Int.ediv_emod_unique (a := a) (b := b) (r := a.tmod b + b) (q := a.tdiv b - 1) (by omega)).2 ⟨by rw [Int.mul_sub]; omega, by omega, by omega⟩).1.symm
theorem floor_pos {a b : Int} (hb : 1 ≤ b) (h : 0 ≤ a.tmod b) : a.tdiv b = a / b := by
  have h1 := Int.mul_tdiv_add_tmod a b
  have h2 := Int.tmod_lt_of_pos a (show 0 < b by omega)
  exact ((Int.ediv_emod_unique (a := a) (b := b) (r := a.tmod b) (q := a.tdiv b) (by omega)).2 ⟨by omega, by omega, by omega⟩).1.symm
theorem tdiv_bd {a b : Int} (h0 : -2000000000000000000 ≤ a) (h1 : a ≤ 2000000000000000000) : -2000000000000000001 ≤ a.tdiv b ∧ a.tdiv b ≤ 2000000000000000001 := by
  have := Int.natAbs_tdiv_le_natAbs a b
  omega
set_option maxHeartbeats 400000 in
theorem floored_any (a b : Int) (w : World) (h0 : -2000000000000000000 ≤ a) (h1 : a ≤ 2000000000000000000) (h2 : 1 ≤ b) (h3 : b ≤ 1000000000000000000) :
    Calls Try.prog 53 #[.int .i64 a, .int .i64 b] w fun e w' => e = .returned (.int .i64 (a / b)) ∧ w = w' := by
  obtain ⟨q0, q1⟩ := tdiv_bd (b := b) h0 h1
  have r0 := Int.lt_tmod_of_pos a (show 0 < b by omega)
  have r1 := Int.tmod_lt_of_pos a (show 0 < b by omega)
  have e0 : (b == 0) = false := by simp; omega
  by_cases hm : a.tmod b < 0
  · have HE := Lib.hid (floor_neg h2 hm)
    have f1 : IntKind.i64.wrap (a.tdiv b) = a.tdiv b := IntWalk.i64_in _ (by omega)
    go_enter Try.func53, Try.ntmps53
    go_wp2_with fail
    go_ret
    exact ⟨ret_int HE.out, rfl⟩
  · have HE := Lib.hid (floor_pos (a := a) h2 (by omega))
    have hm' := decide_eq_false hm
    have f1 : IntKind.i64.wrap (a.tdiv b) = a.tdiv b := IntWalk.i64_in _ (by omega)
    go_enter Try.func53, Try.ntmps53
    go_wp2_with fail
    go_ret
    exact ⟨ret_int HE.out, rfl⟩
set_option maxHeartbeats 400000 in
theorem sFloored_any (a b : Int) (w : World) (h0 : -2000000000000000000 ≤ a) (h1 : a ≤ 2000000000000000000) (h2 : 1 ≤ b) (h3 : b ≤ 1000000000000000000) :
    Calls Try.prog 54 #[.int .i64 a, .int .i64 b] w fun e w' => e = .returned (.int .i64 (a / b)) ∧ w = w' := by
  obtain ⟨q0, q1⟩ := tdiv_bd (b := b) h0 h1
  have r0 := Int.lt_tmod_of_pos a (show 0 < b by omega)
  have r1 := Int.tmod_lt_of_pos a (show 0 < b by omega)
  have e0 : (b == 0) = false := by simp; omega
  by_cases hm : a.tmod b < 0
  · have HE := Lib.hid (floor_neg h2 hm)
    have f1 : IntKind.i64.wrap (a.tdiv b) = a.tdiv b := IntWalk.i64_in _ (by omega)
    go_enter Try.func54, Try.ntmps54
    go_wp2_with fail
    go_ret
    exact ⟨ret_int HE.out, rfl⟩
  · have HE := Lib.hid (floor_pos (a := a) h2 (by omega))
    have hm' := decide_eq_false hm
    have f1 : IntKind.i64.wrap (a.tdiv b) = a.tdiv b := IntWalk.i64_in _ (by omega)
    go_enter Try.func54, Try.ntmps54
    go_wp2_with fail
    go_ret
    exact ⟨ret_int HE.out, rfl⟩
end Go.Proofs.Ytcakdjmmlcjkbaa
