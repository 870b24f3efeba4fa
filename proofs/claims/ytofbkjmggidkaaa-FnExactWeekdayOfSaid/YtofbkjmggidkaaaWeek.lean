/- The walks of the days of the week. -/
import Derived.Test.YtofbkjmggidkaaaDrawB
import Derived.Test.YtofbkjmggidkaaaBtw
namespace Go.Proofs.Ytofbkjmggidkaaa
open Go.RowKit
set_option maxHeartbeats 400000 in
theorem drawWeekday_any (w : World) (a : Option Addr) (len cap : Nat) (zs : List Int) (h : IsRow .u8 w a len cap zs) :
    Calls Try.prog 13 #[.slice a len cap] w (Drawn1 (-1) 36525 w) := by
  have H := Lib.hid h; clear h
  go_enter Try.func13, Try.ntmps13
  go_wp2_with fail
  refine (newReader_any _ _ _ _ _ H.out).mono ?_
  rintro e w1 ⟨g, rfl, hg, hr, hb⟩
  go_wp2_with fail
  refine (anyDay_any _ _ _ hr (by omega)).mono ?_
  rintro e w2 ⟨x, rfl, hx, _, hk⟩
  go_wp2_with fail
  go_ret
  exact ⟨x, rfl, hx, below_grown hb hk hg⟩
def weekV (n : Int) : Int := if btw n 0 36524 = true then n % 7 else -1
theorem weekV_bd (n : Int) : -1 ≤ weekV n ∧ weekV n ≤ 6 := by unfold weekV; split <;> omega
set_option maxHeartbeats 400000 in
theorem week_any (n : Int) (w : World) : Calls Try.prog 14 #[.int .i64 n] w fun e w' => e = .returned (.int .i64 (weekV n)) ∧ w = w' := by
  have vd : ∀ W : World, Calls Try.prog 30 #[.int .i64 n] W fun e w' => e = .returned (.bool (btw n 0 36524)) ∧ W = w' := by
    intro W
    go_enter Try.func30, Try.ntmps30
    go_wp2_with (go_at_call 38; refine (between_any _ _ _ _).mono ?_; rintro e w' ⟨rfl, rfl⟩)
    go_ret
    exact ⟨rfl, rfl⟩
  have VD := Lib.hid vd; clear vd
  cases h : btw n 0 36524 with
  | false =>
    have E := Lib.hid (show weekV n = -1 by unfold weekV; rw [if_neg (by rw [h]; decide)])
    go_enter Try.func14, Try.ntmps14
    go_wp2_with (go_at_call 30; refine (VD.out _).mono ?_; rintro e w' ⟨rfl, rfl⟩)
    go_ret
    exact ⟨ret_int E.out.symm, rfl⟩
  | true =>
    have hb := btw_iff.1 h
    have E := Lib.hid (show weekV n = n % 7 by unfold weekV; rw [if_pos h])
    go_enter Try.func14, Try.ntmps14
    go_wp2_with (go_at_call 30; refine (VD.out _).mono ?_; rintro e w' ⟨rfl, rfl⟩)
    go_ret
    exact ⟨ret_int E.out.symm, rfl⟩
set_option maxHeartbeats 400000 in
theorem sWeek_any (n : Int) (w : World) : Calls Try.prog 15 #[.int .i64 n] w fun e w' => e = .returned (.int .i64 (weekV n)) ∧ w = w' := by
  cases h : btw n 0 36524 with
  | false =>
    have E := Lib.hid (show weekV n = -1 by unfold weekV; rw [if_neg (by rw [h]; decide)])
    go_enter Try.func15, Try.ntmps15
    go_wp2_with (go_at_call 31; refine (inRange_any _ _ _ _).mono ?_; rintro e w' ⟨rfl, rfl⟩)
    go_ret
    exact ⟨ret_int E.out.symm, rfl⟩
  | true =>
    have hb := btw_iff.1 h
    have E := Lib.hid (show weekV n = n % 7 by unfold weekV; rw [if_pos h])
    go_enter Try.func15, Try.ntmps15
    go_wp2_with (go_at_call 31; refine (inRange_any _ _ _ _).mono ?_; rintro e w' ⟨rfl, rfl⟩)
    go_ret
    exact ⟨ret_int E.out.symm, rfl⟩
set_option maxHeartbeats 400000 in
theorem exWeekday (n : Int) (w : World) : Calls Try.prog 9 #[.int .i64 n] w fun e w' => e = .returned (.bool true) ∧ Below w.heap.size w w' := by
  have hne : (weekV n != weekV n) = false := by simp
  go_enter Try.func9, Try.ntmps9
  go_wp2_with (first | (go_at_call 15; refine (sWeek_any _ _).mono ?_; rintro e w' ⟨rfl, rfl⟩) | (go_at_call 14; refine (week_any _ _).mono ?_; rintro e w' ⟨rfl, rfl⟩))
  go_ret
  exact ⟨rfl, Below.refl _ _⟩
set_option maxHeartbeats 1000000 in
theorem lawWeekday (a : Option Addr) (len cap : Nat) (zs : List Int) (w : World) (h : IsRow .u8 w a len cap zs) :
    Calls Try.prog 3 #[.slice a len cap] w fun e w' => e = .returned (.bool true) ∧ Below w.heap.size w w' := by
  have H := Lib.hid h; clear h
  by_cases hl : 1048576 < (len : Int)
  · go_enter Try.func3, Try.ntmps3
    go_wp2_with fail
    go_ret
    exact ⟨rfl, Below.refl _ _⟩
  · have hl' := decide_eq_false hl
    clear hl
    go_enter Try.func3, Try.ntmps3
    go_wp2_with fail
    refine (drawWeekday_any _ _ _ _ _ H.out).mono ?_
    rintro e w1 ⟨n, rfl, ⟨n0, n1⟩, hb1⟩
    have hne : (weekV n != weekV n) = false := by simp
    obtain ⟨bd0, bd1⟩ := weekV_bd n
    by_cases c1 : weekV n < 0
    · go_wp2_with (first | (go_at_call 15; refine (sWeek_any _ _).mono ?_; rintro e w' ⟨rfl, rfl⟩) | (go_at_call 14; refine (week_any _ _).mono ?_; rintro e w' ⟨rfl, rfl⟩))
      go_ret
      exact ⟨ret_bool (by simp), hb1⟩
    · have c1' := decide_eq_false c1
      by_cases c2 : 36524 < n + 7
      · go_wp2_with (first | (go_at_call 15; refine (sWeek_any _ _).mono ?_; rintro e w' ⟨rfl, rfl⟩) | (go_at_call 14; refine (week_any _ _).mono ?_; rintro e w' ⟨rfl, rfl⟩))
        go_ret
        exact ⟨ret_bool (by simp), hb1⟩
      · have c2' := decide_eq_false c2
        have hb : btw n 0 36524 = true := by
          cases hc : btw n 0 36524 with
          | true => rfl
          | false => exfalso; apply c1; unfold weekV; rw [if_neg (by rw [hc]; decide)]; omega
        have hbb := btw_iff.1 hb
        have e0 : weekV n = n % 7 := by unfold weekV; rw [if_pos hb]
        have e7 : weekV (n + 7) = weekV n := by rw [e0]; unfold weekV; rw [if_pos (btw_t (by omega) (by omega))]; omega
        have e1 : weekV (n + 1) = (weekV n + 1) % 7 := by rw [e0]; unfold weekV; rw [if_pos (btw_t (by omega) (by omega))]; omega
        have q7 : (weekV (n + 7) == weekV n) = true := by rw [e7]; simp
        have q1 : (weekV (n + 1) == (weekV n + 1) % 7) = true := by rw [e1]; simp
        obtain ⟨u0, u1⟩ := weekV_bd (n + 7)
        obtain ⟨u2, u3⟩ := weekV_bd (n + 1)
        clear e0 e7 e1 hb
        go_wp2_with (first | (go_at_call 15; refine (sWeek_any _ _).mono ?_; rintro e w' ⟨rfl, rfl⟩) | (go_at_call 14; refine (week_any _ _).mono ?_; rintro e w' ⟨rfl, rfl⟩))
        go_ret
        exact ⟨ret_bool (by simp), hb1⟩
end Go.Proofs.Ytofbkjmggidkaaa
