/- The walks of the model's ranges. -/
import Derived.Test.YtdmamojidefdaaaDoorRgv
namespace Go.Proofs.YtdmamojidefdaaaDoor
open Go.RowKit
theorem sh_two (p q : Int) : (tv (Rg.chk p q) = .tuple #[rV p q, .bool true] ∧ Rg.vr p q = true) ∨ (tv (Rg.chk p q) = .tuple #[rV 0 0, .bool false] ∧ Rg.vr p q = false) := by
  cases h : Rg.vr p q with
  | true => exact .inl ⟨tv_yes (Rg.chk_eq h), rfl⟩
  | false => exact .inr ⟨tv_no (Rg.chk_no h), rfl⟩
set_option maxHeartbeats 1000000 in
theorem inLimits_any (p q : Int) (w : World) :
    Calls Tryd.prog 18 #[rV p q] w fun e w' => e = .returned (tv (Rg.chk p q)) ∧ Below w.heap.size w w' := by
  have kA := (Blk.new w #[.int .i64 p, .int .i64 q] 24).alloc (.cells #[.int .i64 0, .int .i64 0] 24)
  have kR := Blk.new (w.alloc (.cells #[.int .i64 p, .int .i64 q] 24)) #[.int .i64 0, .int .i64 0] 24
  have hbA := ((Below.refl w.heap.size w).alloc (Nat.le_refl _) (.cells #[.int .i64 p, .int .i64 q] 24)).alloc (by simp) (.cells #[.int .i64 0, .int .i64 0] 24)
  simp only [World.size_alloc] at kA kR
  rcases sh_two p q with ⟨h, hv⟩ | ⟨h, hv⟩
  all_goals
    have E := Lib.hid h
    have HV := Lib.hid hv
    clear h hv
    go_enter Tryd.func18, Tryd.ntmps18
    go_wp2_with fail
    refine (sValidR_any _ _ _).mono ?_
    rw [HV.out]
    rintro e w1 ⟨rfl, hb1⟩
    replace kR := kR.below hb1 (by simp)
    replace kA := kA.below hb1 (by simp <;> omega)
    replace hbA := hbA.trans (hb1.mono hbA.size)
    obtain ⟨⟨r0, r1⟩, f0, f1⟩ := kR.two
    obtain ⟨⟨x0, x1⟩, g0, g1⟩ := kA.two
    go_wp2_with fail
  · refine bodyPost_ret (v := .tuple #[rV p q, .bool true]) (by simp [results, Tryd.results18, go_sem, r0, r1]) rfl ⟨by rw [E.out], ?_⟩
    repeat (first | exact Below.refl _ _ | exact hbA | refine Below.drew ?_ | refine Below.setCell ?_ (by simp <;> omega) _ | refine Below.alloc ?_ (by simp <;> omega) _)
  · refine bodyPost_ret (v := .tuple #[rV 0 0, .bool false]) (by simp [results, Tryd.results18, go_sem, r0, r1]) rfl ⟨by rw [E.out], ?_⟩
    repeat (first | exact Below.refl _ _ | exact hbA | refine Below.drew ?_ | refine Below.setCell ?_ (by simp <;> omega) _ | refine Below.alloc ?_ (by simp <;> omega) _)
end Go.Proofs.YtdmamojidefdaaaDoor
