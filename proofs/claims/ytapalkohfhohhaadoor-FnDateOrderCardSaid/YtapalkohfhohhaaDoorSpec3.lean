/- The walks of the calendar's model, third part. -/
import Derived.Test.YtapalkohfhohhaaDoorSpec2
import Derived.Deep.RegionHeld3
namespace Go.Proofs.YtapalkohfhohhaaDoor
open Go.RowKit
theorem inR_t {n l h : Int} (w : World) (hb : btw n l h = true) :
    Calls Tryd.prog 67 #[.int .i64 n, .int .i64 l, .int .i64 h] w fun e w' => e = .returned (.bool true) ∧ w = w' := by
  have := inRange_any n l h w
  rw [hb] at this
  exact this
theorem inR_f {n l h : Int} (w : World) (hb : btw n l h = false) :
    Calls Tryd.prog 67 #[.int .i64 n, .int .i64 l, .int .i64 h] w fun e w' => e = .returned (.bool false) ∧ w = w' := by
  have := inRange_any n l h w
  rw [hb] at this
  exact this
set_option maxHeartbeats 400000 in
theorem sValidDate_1 (y m d : Int) (w : World) (hy : btw y 1990 2089 = false) :
    Calls Tryd.prog 38 #[.agg #[.int .i64 y, .int .i64 m, .int .i64 d]] w fun e w' => e = .returned (.bool (vldB y m d)) ∧ Below w.heap.size w w' := by
  have E := Lib.hid (show vldB y m d = false by unfold vldB; rw [hy]; rfl)
  have HY := Lib.hid hy; clear hy
  go_enter Tryd.func38, Tryd.ntmps38
  go_wp2_with fail
  go_quiet ((go_at_call 67; exact quiet_left (inR_f _ HY.out)))
  go_wp2_with fail
  go_ret
  exact ⟨ret_bool E.out.symm, below_drewN ((Below.refl _ _).alloc (Nat.le_refl _) _) _⟩
set_option maxHeartbeats 400000 in
theorem sValidDate_2 (y m d : Int) (w : World) (hy : btw y 1990 2089 = true) (hm : btw m 1 12 = false) :
    Calls Tryd.prog 38 #[.agg #[.int .i64 y, .int .i64 m, .int .i64 d]] w fun e w' => e = .returned (.bool (vldB y m d)) ∧ Below w.heap.size w w' := by
  have E := Lib.hid (show vldB y m d = false by unfold vldB; rw [hy, hm]; rfl)
  have HY := Lib.hid hy; clear hy
  have HM := Lib.hid hm; clear hm
  go_enter Tryd.func38, Tryd.ntmps38
  go_wp2_with fail
  go_quiet ((first | (go_at_call 67; with_reducible exact quiet_left (inR_t _ HY.out)) | (go_at_call 67; with_reducible exact quiet_left (inR_f _ HM.out))))
  go_wp2_with fail
  go_ret
  exact ⟨ret_bool E.out.symm, below_drewN ((Below.refl _ _).alloc (Nat.le_refl _) _) _⟩
set_option maxHeartbeats 400000 in
theorem sValidDate_3 (y m d : Int) (w : World) (hy : btw y 1990 2089 = true) (hm : btw m 1 12 = true) :
    Calls Tryd.prog 38 #[.agg #[.int .i64 y, .int .i64 m, .int .i64 d]] w fun e w' => e = .returned (.bool (vldB y m d)) ∧ Below w.heap.size w w' := by
  have E := Lib.hid (show vldB y m d = btw d 1 (Cal.dm y m) by unfold vldB; rw [hy, hm]; rfl)
  have HY := Lib.hid hy
  have HM := Lib.hid hm
  have a := btw_iff.1 hy
  have b := btw_iff.1 hm
  obtain ⟨a1, a2⟩ := a
  obtain ⟨b1, b2⟩ := b
  clear hy hm
  have c0 : (w.alloc (.cells #[.int .i64 y, .int .i64 m, .int .i64 d] 24)).cell? ⟨w.heap.size, 0, none⟩ = some (.int .i64 y) := by simp
  have c1 : (w.alloc (.cells #[.int .i64 y, .int .i64 m, .int .i64 d] 24)).cell? ⟨w.heap.size, 1, none⟩ = some (.int .i64 m) := by simp
  have c2 : (w.alloc (.cells #[.int .i64 y, .int .i64 m, .int .i64 d] 24)).cell? ⟨w.heap.size, 2, none⟩ = some (.int .i64 d) := by simp
  go_enter Tryd.func38, Tryd.ntmps38
  go_wp2_with fail
  go_region_held3 (fun w' => w'.cell? ⟨w.heap.size, 0, none⟩ = some (.int .i64 y) ∧ w'.cell? ⟨w.heap.size, 1, none⟩ = some (.int .i64 m) ∧ w'.cell? ⟨w.heap.size, 2, none⟩ = some (.int .i64 d)) (first | go_keep | exact hkeep)
    (first | (go_at_call 67; with_reducible refine (inR_t _ HY.out).mono ?_; rintro e w' ⟨rfl, rfl⟩) | (go_at_call 67; with_reducible refine (inR_t _ HM.out).mono ?_; rintro e w' ⟨rfl, rfl⟩) | (go_at_call 67; with_reducible refine (inRange_any _ _ _ _).mono ?_; rintro e w' ⟨rfl, rfl⟩) | (go_at_call 68; refine (sDaysIn_any _ _ _ (by omega) (by omega) (by omega) (by omega)).mono ?_; rintro e wx ⟨rfl, hbx⟩; have hkeep : wx.cell? ⟨w.heap.size, 0, none⟩ = some (.int .i64 y) ∧ wx.cell? ⟨w.heap.size, 1, none⟩ = some (.int .i64 m) ∧ wx.cell? ⟨w.heap.size, 2, none⟩ = some (.int .i64 d) := ⟨(hbx.cell (p := ⟨w.heap.size, 0, none⟩) (by simp)).trans (by simp), (hbx.cell (p := ⟨w.heap.size, 1, none⟩) (by simp)).trans (by simp), (hbx.cell (p := ⟨w.heap.size, 2, none⟩) (by simp)).trans (by simp)⟩))
  all_goals
    go_wp2_with fail
    go_ret
    exact ⟨ret_bool E.out.symm, (((Below.refl _ _).alloc (Nat.le_refl _) _).drew).trans (hbx.mono (by simp))⟩
theorem sValidDate_any (y m d : Int) (w : World) :
    Calls Tryd.prog 38 #[.agg #[.int .i64 y, .int .i64 m, .int .i64 d]] w fun e w' => e = .returned (.bool (vldB y m d)) ∧ Below w.heap.size w w' := by
  cases hy : btw y 1990 2089 with
  | false => exact sValidDate_1 y m d w hy
  | true =>
    cases hm : btw m 1 12 with
    | false => exact sValidDate_2 y m d w hy hm
    | true => exact sValidDate_3 y m d w hy hm
end Go.Proofs.YtapalkohfhohhaaDoor
