/- The walks of the program's ranges: validity, quotients. -/
import Derived.Test.YtfelledogdplaaaDoorRgw
namespace Go.Proofs.YtfelledogdplaaaDoor
open Go.RowKit
theorem rfloor_neg {a b : Int} (hb : 1 ≤ b) (h : a.tmod b < 0) : a.tdiv b - 1 = a / b := by
  have h1 := Int.mul_tdiv_add_tmod a b
  have h2 := Int.lt_tmod_of_pos a (show 0 < b by omega)
  exact ((Int.ediv_emod_unique (a := a) (b := b) (r := a.tmod b + b) (q := a.tdiv b - 1) (by omega)).2 ⟨by rw [Int.mul_sub]; omega, by omega, by omega⟩).1.symm
theorem rfloor_pos {a b : Int} (hb : 1 ≤ b) (h : 0 ≤ a.tmod b) : a.tdiv b = a / b := by
  have h1 := Int.mul_tdiv_add_tmod a b
  have h2 := Int.tmod_lt_of_pos a (show 0 < b by omega)
  exact ((Int.ediv_emod_unique (a := a) (b := b) (r := a.tmod b) (q := a.tdiv b) (by omega)).2 ⟨by omega, by omega, by omega⟩).1.symm
theorem rtdiv_bd {a b : Int} (h0 : -5000000000000000000 ≤ a) (h1 : a ≤ 5000000000000000000) : -5000000000000000001 ≤ a.tdiv b ∧ a.tdiv b ≤ 5000000000000000001 := by
  have := Int.natAbs_tdiv_le_natAbs a b
  omega
theorem ediv_bd {a b : Int} (h0 : -5000000000000000000 ≤ a) (h1 : a ≤ 5000000000000000000) (hb : 1 ≤ b) : -5000000000000000000 ≤ a / b ∧ a / b ≤ 5000000000000000000 := by
  constructor
  · exact Int.le_trans (by omega) ((Int.le_ediv_iff_mul_le (c := b) (by omega)).2 (show -5000000000000000000 * b ≤ a by
      have := Int.mul_le_mul_of_nonneg_left hb (show (0:Int) ≤ 5000000000000000000 by decide); omega))
  · exact Int.le_trans (Int.ediv_le_ediv (by omega) h1) (Int.ediv_le_self _ (by decide))
set_option maxHeartbeats 400000 in
theorem rFloored_any (a b : Int) (w : World) (h0 : -5000000000000000000 ≤ a) (h1 : a ≤ 5000000000000000000) (h2 : 1 ≤ b) (h3 : b ≤ 1000000000000000000) :
    Calls Tryd.prog 27 #[.int .i64 a, .int .i64 b] w fun e w' => e = .returned (.int .i64 (a / b)) ∧ w = w' := by
  obtain ⟨q0, q1⟩ := rtdiv_bd (b := b) h0 h1
  have r0 := Int.lt_tmod_of_pos a (show 0 < b by omega)
  have r1 := Int.tmod_lt_of_pos a (show 0 < b by omega)
  have e0 : (b == 0) = false := by simp; omega
  by_cases hm : a.tmod b < 0
  · have HE := Lib.hid (rfloor_neg h2 hm)
    have f1 : IntKind.i64.wrap (a.tdiv b) = a.tdiv b := IntWalk.i64_in _ (by omega)
    go_enter Tryd.func27, Tryd.ntmps27
    go_wp2_with fail
    go_ret
    exact ⟨ret_int HE.out, rfl⟩
  · have HE := Lib.hid (rfloor_pos (a := a) h2 (by omega))
    have hm' := decide_eq_false hm
    have f1 : IntKind.i64.wrap (a.tdiv b) = a.tdiv b := IntWalk.i64_in _ (by omega)
    go_enter Tryd.func27, Tryd.ntmps27
    go_wp2_with fail
    go_ret
    exact ⟨ret_int HE.out, rfl⟩
set_option maxHeartbeats 400000 in
theorem rCeiled_any (a b : Int) (w : World) (h0 : -5000000000000000000 ≤ a) (h1 : a ≤ 5000000000000000000) (h2 : 1 ≤ b) (h3 : b ≤ 1000000000000000000) :
    Calls Tryd.prog 28 #[.int .i64 a, .int .i64 b] w fun e w' => e = .returned (.int .i64 (-((-a) / b))) ∧ w = w' := by
  obtain ⟨q0, q1⟩ := ediv_bd (a := -a) (b := b) (by omega) (by omega) h2
  go_enter Tryd.func28, Tryd.ntmps28
  go_wp2_with (go_at_call 27; refine (rFloored_any _ _ _ (by omega) (by omega) (by omega) (by omega)).mono ?_; rintro e w2 ⟨rfl, rfl⟩)
  go_ret
  exact ⟨rfl, rfl⟩
set_option maxHeartbeats 400000 in
theorem rsFloored_any (a b : Int) (w : World) (h0 : -5000000000000000000 ≤ a) (h1 : a ≤ 5000000000000000000) (h2 : 1 ≤ b) (h3 : b ≤ 1000000000000000000) :
    Calls Tryd.prog 29 #[.int .i64 a, .int .i64 b] w fun e w' => e = .returned (.int .i64 (a / b)) ∧ w = w' := by
  obtain ⟨q0, q1⟩ := rtdiv_bd (b := b) h0 h1
  have r0 := Int.lt_tmod_of_pos a (show 0 < b by omega)
  have r1 := Int.tmod_lt_of_pos a (show 0 < b by omega)
  have e0 : (b == 0) = false := by simp; omega
  by_cases hm : a.tmod b < 0
  · have HE := Lib.hid (rfloor_neg h2 hm)
    have f1 : IntKind.i64.wrap (a.tdiv b) = a.tdiv b := IntWalk.i64_in _ (by omega)
    go_enter Tryd.func29, Tryd.ntmps29
    go_wp2_with fail
    go_ret
    exact ⟨ret_int HE.out, rfl⟩
  · have HE := Lib.hid (rfloor_pos (a := a) h2 (by omega))
    have hm' := decide_eq_false hm
    have f1 : IntKind.i64.wrap (a.tdiv b) = a.tdiv b := IntWalk.i64_in _ (by omega)
    go_enter Tryd.func29, Tryd.ntmps29
    go_wp2_with fail
    go_ret
    exact ⟨ret_int HE.out, rfl⟩
set_option maxHeartbeats 400000 in
theorem rsCeiled_any (a b : Int) (w : World) (h0 : -5000000000000000000 ≤ a) (h1 : a ≤ 5000000000000000000) (h2 : 1 ≤ b) (h3 : b ≤ 1000000000000000000) :
    Calls Tryd.prog 30 #[.int .i64 a, .int .i64 b] w fun e w' => e = .returned (.int .i64 (-((-a) / b))) ∧ w = w' := by
  obtain ⟨q0, q1⟩ := ediv_bd (a := -a) (b := b) (by omega) (by omega) h2
  go_enter Tryd.func30, Tryd.ntmps30
  go_wp2_with (go_at_call 29; refine (rsFloored_any _ _ _ (by omega) (by omega) (by omega) (by omega)).mono ?_; rintro e w2 ⟨rfl, rfl⟩)
  go_ret
  exact ⟨rfl, rfl⟩
set_option maxHeartbeats 400000 in
theorem validR_any (p q : Int) (w : World) :
    Calls Tryd.prog 36 #[rV p q] w fun e w' => e = .returned (.bool (Rg.vr p q)) ∧ Below w.heap.size w w' := by
  have hbA := (Below.refl w.heap.size w).alloc (Nat.le_refl _) (.cells #[.int .i64 p, .int .i64 q] 26)
  by_cases h1 : -2000000000 ≤ p
  · have d1 := decide_eq_true h1
    by_cases h2 : p ≤ q
    · have d2 := decide_eq_true h2
      by_cases h3 : q ≤ 2000000000
      · have E := Lib.hid (Rg.vr_iff.2 ⟨h1, h2, h3⟩)
        have d3 := decide_eq_true h3
        clear h1 h2 h3
        go_enter Tryd.func36, Tryd.ntmps36
        go_wp2_with fail
        go_ret
        exact ⟨ret_bool E.out.symm, hbA⟩
      · have E := Lib.hid (Rg.vr_f (l := p) (h := q) (fun k => h3 k.2.2))
        have d3 := decide_eq_false h3
        clear h1 h2 h3
        go_enter Tryd.func36, Tryd.ntmps36
        go_wp2_with fail
        go_ret
        exact ⟨ret_bool E.out.symm, hbA⟩
    · have E := Lib.hid (Rg.vr_f (l := p) (h := q) (fun k => h2 k.2.1))
      have d2 := decide_eq_false h2
      clear h1 h2
      go_enter Tryd.func36, Tryd.ntmps36
      go_wp2_with fail
      go_ret
      exact ⟨ret_bool E.out.symm, hbA⟩
  · have E := Lib.hid (Rg.vr_f (l := p) (h := q) (fun k => h1 k.1))
    have d1 := decide_eq_false h1
    clear h1
    go_enter Tryd.func36, Tryd.ntmps36
    go_wp2_with fail
    go_ret
    exact ⟨ret_bool E.out.symm, hbA⟩
end Go.Proofs.YtfelledogdplaaaDoor
