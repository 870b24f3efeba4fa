/- The walks of the model's ranges. -/
import Derived.Test.YtfelledogdplaaaDoorRgv
namespace Go.Proofs.YtfelledogdplaaaDoor
open Go.RowKit
theorem sh_two (p q : Int) : (tv (Rg.chk p q) = .tuple #[rV p q, .bool true] ∧ Rg.vr p q = true) ∨ (tv (Rg.chk p q) = .tuple #[rV 0 0, .bool false] ∧ Rg.vr p q = false) := by
  cases h : Rg.vr p q with
  | true => exact .inl ⟨tv_yes (Rg.chk_eq h), rfl⟩
  | false => exact .inr ⟨tv_no (Rg.chk_no h), rfl⟩
set_option maxHeartbeats 1000000 in
theorem sMulR_any (p q r s : Int) (w : World) (g1 : -2000000000 ≤ p) (g2 : p ≤ q) (g3 : q ≤ 2000000000) (i1 : -2000000000 ≤ r) (i2 : r ≤ s) (i3 : s ≤ 2000000000) :
    Calls Tryd.prog 31 #[rV p q, rV r s] w fun e w' => e = .returned (rV (Rg.fl (Rg.pl p q r s)) (Rg.cl (Rg.ph p q r s))) ∧ Below w.heap.size w w' := by
  obtain ⟨m1a, m1b⟩ := Rg.prod_bd (a := p) (b := r) (by omega) (by omega) (by omega) (by omega)
  obtain ⟨m2a, m2b⟩ := Rg.prod_bd (a := p) (b := s) (by omega) (by omega) (by omega) (by omega)
  obtain ⟨m3a, m3b⟩ := Rg.prod_bd (a := q) (b := r) (by omega) (by omega) (by omega) (by omega)
  obtain ⟨m4a, m4b⟩ := Rg.prod_bd (a := q) (b := s) (by omega) (by omega) (by omega) (by omega)
  have l0 : -5000000000000000000 ≤ Rg.pl p q r s ∧ Rg.pl p q r s ≤ 5000000000000000000 := by unfold Rg.pl; omega
  have h0 : -5000000000000000000 ≤ Rg.ph p q r s ∧ Rg.ph p q r s ≤ 5000000000000000000 := by unfold Rg.ph; omega
  have PL : Hid (min (p * r) (min (p * s) (min (q * r) (q * s))) = Rg.pl p q r s) := Lib.hid (by unfold Rg.pl; omega)
  have PH : Hid (max (p * r) (max (p * s) (max (q * r) (q * s))) = Rg.ph p q r s) := Lib.hid (by unfold Rg.ph; omega)
  have fmin := fun (x y : Int) (W : World) => run_min2' #[3, 3] 3 x y W
  have fmax := fun (x y : Int) (W : World) => run_max2' #[3, 3] 3 x y W
  generalize Rg.pl p q r s = lo at *
  generalize Rg.ph p q r s = hi at *
  go_enter Tryd.func31, Tryd.ntmps31
  go_wp2_with fail
  refine wp_loop_rounds 4 ?_
  rw [rounds_succ]
  go_wp2_with fail
  rw [rounds_succ]
  go_wp2_with fail
  rw [rounds_succ]
  go_wp2_with fail
  rw [rounds_succ]
  go_wp2_with fail
  rw [PL.out]
  refine (rsFloored_any _ _ _ l0.1 l0.2 (by omega) (by omega)).mono ?_
  rintro e w2 ⟨rfl, rfl⟩
  go_wp2_with fail
  rw [PH.out]
  refine (rsCeiled_any _ _ _ h0.1 h0.2 (by omega) (by omega)).mono ?_
  rintro e w2 ⟨rfl, rfl⟩
  go_wp2_with fail
  refine bodyPost_ret (v := rV (lo / 1000000) (-((-hi) / 1000000))) (by simp [results, Tryd.results31, go_sem]) rfl ⟨rfl, ?_⟩
  repeat (first | exact Below.refl _ _ | refine Below.drew ?_ | refine Below.setCell ?_ (by simp <;> omega) _ | refine Below.alloc ?_ (by simp <;> omega) _)
end Go.Proofs.YtfelledogdplaaaDoor
