/- The walks of the model's ranges: the functions that the laws call. -/
import Derived.Test.YtfelledogdplaaaDoorRgs
namespace Go.Proofs.YtfelledogdplaaaDoor
open Go.RowKit
set_option maxHeartbeats 1000000 in
theorem sDivR_any (p q r s : Int) (w : World) (g1 : -2000000000 ≤ p) (g2 : p ≤ q) (g3 : q ≤ 2000000000) (i1 : 0 < r) (i2 : r ≤ s) (i3 : s ≤ 2000000000) :
    Calls Tryd.prog 33 #[rV p q, rV r s] w fun e w' => e = .returned (rV (p * 1000000 / s) (-((-(q * 1000000)) / r))) ∧ Below w.heap.size w w' := by
  have kA := ((Blk.new w #[.int .i64 p, .int .i64 q] 26).alloc (.cells #[.int .i64 r, .int .i64 s] 26)).alloc (.cells #[.int .i64 0, .int .i64 0] 26)
  have kB := (Blk.new (w.alloc (.cells #[.int .i64 p, .int .i64 q] 26)) #[.int .i64 r, .int .i64 s] 26).alloc (.cells #[.int .i64 0, .int .i64 0] 26)
  have kR := Blk.new ((w.alloc (.cells #[.int .i64 p, .int .i64 q] 26)).alloc (.cells #[.int .i64 r, .int .i64 s] 26)) #[.int .i64 0, .int .i64 0] 26
  have hbA := (((Below.refl w.heap.size w).alloc (Nat.le_refl _) (.cells #[.int .i64 p, .int .i64 q] 26)).alloc (by simp) (.cells #[.int .i64 r, .int .i64 s] 26)).alloc (by simp; omega) (.cells #[.int .i64 0, .int .i64 0] 26)
  simp only [World.size_alloc] at kA kB kR
  have K := Lib.hid (Ov.mk kA.two.1.1 kA.two.1.2 kB.two.1.1 kB.two.1.2 kR hbA)
  clear kA kB kR hbA
  have W1 : IntKind.i64.wrap (p * 1000000) = p * 1000000 := IntWalk.i64_in _ (by omega)
  have W2 : IntKind.i64.wrap (q * 1000000) = q * 1000000 := IntWalk.i64_in _ (by omega)
  go_enter Tryd.func33, Tryd.ntmps33
  go_wp2_with fail
  generalize ((w.alloc (.cells #[.int .i64 p, .int .i64 q] 26)).alloc (.cells #[.int .i64 r, .int .i64 s] 26)).alloc (.cells #[.int .i64 0, .int .i64 0] 26) = W0 at K ⊢
  obtain ⟨⟨r0, r1⟩, f0, f1⟩ := K.out.kR.two
  go_region_held3 (OvS w.heap.size p q r s) (first | exact K.out.drew.cells | exact K.out.drew.cells_set _ _) (first | (go_at_call 29; (try rw [W1]); with_reducible refine (rsFloored_any (p * 1000000) s _ (by omega) (by omega) (by omega) (by omega)).mono ?_; rintro e w4 ⟨rfl, rfl⟩) | (go_at_call 30; (try rw [W2]); with_reducible refine (rsCeiled_any (q * 1000000) r _ (by omega) (by omega) (by omega) (by omega)).mono ?_; rintro e w4 ⟨rfl, rfl⟩))
  all_goals go_wp2_with fail
  all_goals
    have hbA := K.out.bel
    refine bodyPost_ret (v := rV (p * 1000000 / s) (-((-(q * 1000000)) / r))) (by simp [results, Tryd.results33, go_sem, r0, r1]) rfl ⟨rfl, ?_⟩
    repeat (first | exact Below.refl _ _ | exact hbA | refine Below.drew ?_ | refine Below.setCell ?_ (by simp <;> omega) _ | refine Below.alloc ?_ (by simp <;> omega) _)
theorem exactOne_any (w : World) :
    Calls Tryd.prog 34 #[.int .i64 1] w fun e w' => e = .returned (rV 1000000 1000000) ∧ Below w.heap.size w w' := by
  go_enter Tryd.func34, Tryd.ntmps34
  go_wp2_with fail
  refine bodyPost_ret (v := rV 1000000 1000000) (by simp [results, Tryd.results34, go_sem]) rfl ⟨rfl, ?_⟩
  repeat (first | exact Below.refl _ _ | refine Below.drew ?_ | refine Below.setCell ?_ (by simp <;> omega) _ | refine Below.alloc ?_ (by simp <;> omega) _)
end Go.Proofs.YtfelledogdplaaaDoor
