/- The walks of the model's functions of ratios. -/
import Derived.Test.YtgncgbaoijcinaaDoorRw6
namespace Go.Proofs.YtgncgbaoijcinaaDoor
open Go.RowKit
set_option maxHeartbeats 400000 in
theorem distance_any (a : Int) (w : World) (h0 : -100000000000000 ≤ a) (h1 : a ≤ 100000000000000) :
    Calls Tryd.prog 45 #[.int .i64 a] w fun e w' => e = .returned (.int .i64 (a.natAbs : Int)) ∧ w = w' := by
  by_cases hn : a < 0
  · have HE := Lib.hid (show -a = (a.natAbs : Int) by omega)
    go_enter Tryd.func45, Tryd.ntmps45
    go_wp2_with fail
    go_ret
    exact ⟨ret_int HE.out, rfl⟩
  · have HE := Lib.hid (show a = (a.natAbs : Int) by omega)
    have hn' := decide_eq_false hn
    go_enter Tryd.func45, Tryd.ntmps45
    go_wp2_with fail
    go_ret
    exact ⟨ret_int HE.out, rfl⟩
theorem g_natAbs (a b : Int) : Rt.g (a.natAbs : Int) b = Rt.g a b := by
  rcases Int.natAbs_eq a with h | h
  · rw [← h]
  · have : (a.natAbs : Int) = -a := by omega
    rw [this, Rt.g_neg]
theorem divisor_abs (a b : Int) (w : World) (h0 : -100000000000000 ≤ a) (h1 : a ≤ 100000000000000) (hb : 0 ≤ b) (hb2 : b ≤ 100000000000000) :
    Calls Tryd.prog 44 #[.int .i64 (a.natAbs : Int), .int .i64 b] w fun e w' => e = .returned (.int .i64 (Rt.g a b)) ∧ w = w' := by
  have := divisor_any (a.natAbs : Int) b w (by omega) (by omega) hb hb2
  rw [g_natAbs] at this
  exact this
set_option maxHeartbeats 400000 in
theorem sLowest_any (n d : Int) (w : World) (hd : 1 ≤ d) (h0 : -10000000000000 ≤ n) (h1 : n ≤ 10000000000000) (h2 : d ≤ 10000000000000) :
    Calls Tryd.prog 35 #[.int .i64 n, .int .i64 d] w fun e w' => e = .returned (.agg #[.int .i64 (Rt.ln n d), .int .i64 (Rt.ld n d)]) ∧ Below w.heap.size w w' := by
  obtain ⟨⟨a0, a1⟩, ⟨b0, b1⟩, ⟨c0, c1⟩⟩ := q_bd hd h0 h1 h2
  have e1 := Rt.ln_tdiv n d
  have e2 : d / Rt.g n d = Rt.ld n d := rfl
  have e3 : d.tdiv (Rt.g n d) = Rt.ld n d := by rw [Int.tdiv_eq_ediv_of_nonneg (by omega)]; rfl
  have cd : ∀ W : World, Calls Tryd.prog 44 #[.int .i64 (n.natAbs : Int), .int .i64 d] W fun e w' => e = .returned (.int .i64 (Rt.g n d)) ∧ W = w' := fun W => divisor_abs n d W (by omega) (by omega) (by omega) (by omega)
  generalize Rt.g n d = g at *
  generalize Rt.ln n d = p at *
  generalize Rt.ld n d = q at *
  have CD := Lib.hid cd
  clear cd
  have f1 : IntKind.i64.wrap p = p := IntWalk.i64_in _ (by omega)
  have f2 : IntKind.i64.wrap q = q := IntWalk.i64_in _ (by omega)
  have f3 : (g == 0) = false := by simp; omega
  go_enter Tryd.func35, Tryd.ntmps35
  go_wp2_with (first | (go_at_call 45; refine (distance_any _ _ (by omega) (by omega)).mono ?_; rintro e w2 ⟨rfl, rfl⟩) | (go_at_call 44; refine (CD.out _).mono ?_; rintro e w2 ⟨rfl, rfl⟩))
  go_region
  all_goals go_wp2_with fail
  all_goals
    refine bodyPost_ret (v := .agg #[.int .i64 p, .int .i64 q]) (by simp [results, Tryd.results35, go_sem]) rfl ⟨rfl, ?_⟩
    exact ((Below.refl _ _).alloc (Nat.le_refl _) _).drew
theorem vr_low {n d : Int} (hd : 1 ≤ d) : vrB (Rt.ln n d) (Rt.ld n d) = termsB (Rt.ln n d) (Rt.ld n d) := by
  unfold vrB
  rw [Rt.g_one (Rt.gcd_lo (n := n) (d := d) (by omega))]
  simp
def chkV (p q : Int) : Value := if vrB p q = true then .tuple #[.agg #[.int .i64 p, .int .i64 q], .bool true] else .tuple #[.agg #[.int .i64 0, .int .i64 0], .bool false]
theorem chk_low {n d : Int} (hd : 1 ≤ d) : chkV (Rt.ln n d) (Rt.ld n d) = lowV n d := by unfold chkV lowV; rw [vr_low hd]
end Go.Proofs.YtgncgbaoijcinaaDoor
