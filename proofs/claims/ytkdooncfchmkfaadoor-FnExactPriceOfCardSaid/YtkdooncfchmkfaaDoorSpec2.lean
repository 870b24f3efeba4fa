/- The walks of the calendar's model, second part. -/
import Derived.Test.YtkdooncfchmkfaaDoorSpec
import Derived.Deep.RegionHeld3
namespace Go.Proofs.YtkdooncfchmkfaaDoor
open Go.RowKit
set_option maxHeartbeats 400000 in
theorem floorDiv_pos (a b : Int) (w : World) (h0 : 0 ≤ a) (h1 : a ≤ 1000000000000000) (h2 : 1 ≤ b) (h3 : b ≤ 1000000000000000) :
    Calls Tryd.prog 45 #[.int .i64 a, .int .i64 b] w fun e w' => e = .returned (.int .i64 (a / b)) ∧ w = w' := by
  have hq : 0 ≤ a / b := Int.ediv_nonneg h0 (by omega)
  have hq2 : a / b ≤ a := Int.ediv_le_self _ h0
  have hr : 0 ≤ a % b := Int.emod_nonneg _ (by omega)
  have hr2 : a % b < b := Int.emod_lt_of_pos _ (by omega)
  go_enter Tryd.func45, Tryd.ntmps45
  go_wp2
  go_ret
  exact ⟨rfl, rfl⟩
set_option maxHeartbeats 400000 in
theorem sAddMonths_yes (n k : Int) (w : World) (n0 : 0 ≤ n) (n1 : n ≤ 36524) (k0 : -600 ≤ k) (k1 : k ≤ 600) :
    Calls Tryd.prog 62 #[.int .i64 n, .int .i64 k] w fun e w' => e = .returned (.int .i64 (addV n k)) ∧ Below w.heap.size w w' := by
  have y1 := Cal.Y_bd n0 n1
  have m1 := Cal.M_bd n0 n1
  have d1 := Cal.D_bd n0 n1
  have hfin : addV n k = dayV ((12 * Cal.Y n + Cal.M n - 1 + k) / 12) ((12 * Cal.Y n + Cal.M n - 1 + k) % 12 + 1) (min (Cal.D n) (dinV ((12 * Cal.Y n + Cal.M n - 1 + k) / 12) ((12 * Cal.Y n + Cal.M n - 1 + k) % 12 + 1))) := by unfold addV; rw [if_pos ⟨btw_t n0 n1, btw_t k0 k1⟩]
  have hm : 12 * Cal.Y n + Cal.M n - 1 + k - 12 * ((12 * Cal.Y n + Cal.M n - 1 + k) / 12) = (12 * Cal.Y n + Cal.M n - 1 + k) % 12 := by omega
  obtain ⟨t, ht⟩ : ∃ t, t = 12 * Cal.Y n + Cal.M n - 1 + k := ⟨_, rfl⟩
  rw [← ht] at hfin hm
  have t0 : 20000 ≤ t := by omega
  have t1 : t ≤ 30000 := by omega
  have HF := Lib.hid hfin; clear hfin
  have HM := Lib.hid hm; clear hm
  have HX := Lib.hid ht; clear ht
  cases hy : btw (t / 12) 1990 2089 with
  | false =>
    have HY := Lib.hid hy
    go_enter Tryd.func62, Tryd.ntmps62
    go_wp2_with (first | (go_at_call 78; refine (sDateOf_any _ _ n0 n1).mono ?_; rintro e w1 ⟨rfl, hb1⟩) | (go_at_call 45; rw [← HX.out]; refine (floorDiv_pos _ _ _ (by omega) (by omega) (by omega) (by omega)).mono ?_; rintro e w' ⟨rfl, rfl⟩) | (go_at_call 31; refine (inRange_any _ _ _ _).mono ?_; rintro e w' ⟨rfl, rfl⟩))
    go_ret
    exact ⟨ret_int (by rw [HF.out]; unfold dayV; rw [if_neg (by unfold vldB; rw [HY.out]; simp)]), hb1.alloc hb1.size _⟩
  | true =>
    have HY := Lib.hid hy
    go_enter Tryd.func62, Tryd.ntmps62
    go_wp2_with (first | (go_at_call 78; refine (sDateOf_any _ _ n0 n1).mono ?_; rintro e w1 ⟨rfl, hb1⟩) | (go_at_call 45; rw [← HX.out]; refine (floorDiv_pos _ _ _ (by omega) (by omega) (by omega) (by omega)).mono ?_; rintro e w' ⟨rfl, rfl⟩) | (go_at_call 31; refine (inRange_any _ _ _ _).mono ?_; rintro e w' ⟨rfl, rfl⟩))
    have yb := btw_iff.1 HY.out
    obtain ⟨yb1, yb2⟩ := yb
    have hu : 1 ≤ t - 12 * (t / 12) + 1 ∧ t - 12 * (t / 12) + 1 ≤ 12 := by omega
    obtain ⟨u1, u2⟩ := hu
    have hd := Cal.dm_bd (t / 12) (t - 12 * (t / 12) + 1)
    obtain ⟨hd1, hd2⟩ := hd
    obtain ⟨d1, _, d3⟩ := d1
    have hfin2 : addV n k = Cal.num (t / 12) (t - 12 * (t / 12) + 1) (min (Cal.D n) (Cal.dm (t / 12) (t - 12 * (t / 12) + 1))) := by
      rw [HF.out, ← HM.out]
      have e : dinV (t / 12) (t - 12 * (t / 12) + 1) = Cal.dm (t / 12) (t - 12 * (t / 12) + 1) := by unfold dinV; rw [if_pos ⟨HY.out, btw_t u1 u2⟩]
      rw [e]
      unfold dayV
      rw [if_pos (vldB_iff.2 ⟨yb1, yb2, u1, u2, by omega, by omega⟩)]
    have H2 := Lib.hid hfin2
    clear hfin2 HF HM HX HY hy y1 m1
    have hc0 : (w1.alloc (.cells #[.int .i64 (Cal.Y n), .int .i64 (Cal.M n), .int .i64 (Cal.D n)] 90)).cell? ⟨w1.heap.size, 2, none⟩ = some (.int .i64 (Cal.D n)) := by simp
    by_cases hmin : Cal.D n ≤ Cal.dm (t / 12) (t - 12 * (t / 12) + 1)
    all_goals
      go_region_held3 (fun w' => w'.cell? ⟨w1.heap.size, 2, none⟩ = some (.int .i64 (Cal.D n))) (first | go_keep | exact hkeep)
        (first | (go_at_call 80; refine (sDaysIn_any _ _ _ (by omega) (by omega) (by omega) (by omega)).mono ?_; rintro e wx ⟨rfl, hbx⟩; have hkeep : wx.cell? ⟨w1.heap.size, 2, none⟩ = some (.int .i64 (Cal.D n)) := (hbx.cell (p := ⟨w1.heap.size, 2, none⟩) (by simp)).trans (by simp); have hsx : w1.heap.size + 1 ≤ wx.heap.size := by (have := hbx.size; simpa using this)) | (go_at_call 79; refine (sDayOf_any _ _ _ _ ⟨by omega, by omega, by omega, by omega, by omega, by omega⟩).mono ?_; rintro e wy ⟨rfl, hby⟩; have hkeep : wy.cell? ⟨w1.heap.size, 2, none⟩ = some (.int .i64 (Cal.D n)) := (hby.cell (p := ⟨w1.heap.size, 2, none⟩) (by simp; omega)).trans (by assumption)))
    all_goals
      go_wp2_with fail
      go_ret
      have z1 := hb1.size
      refine ⟨ret_int (by rw [H2.out]; congr 1; omega), (((hb1.alloc hb1.size _).drew).trans (hbx.mono (by simp; omega))).trans (hby.mono (by omega))⟩
end Go.Proofs.YtkdooncfchmkfaaDoor
