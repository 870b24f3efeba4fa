/- The walks of the program's functions of ratios, third part. -/
import Derived.Test.YtgncgbaoijcinaaDoorRw2
import Derived.RegionTactic
import Derived.ChangeAlike
namespace Go.Proofs.YtgncgbaoijcinaaDoor
open Go.RowKit
theorem q_bd {n d : Int} (hd : 1 ≤ d) (h0 : -10000000000000 ≤ n) (h1 : n ≤ 10000000000000) (h2 : d ≤ 10000000000000) :
    (-10000000000000 ≤ Rt.ln n d ∧ Rt.ln n d ≤ 10000000000000) ∧ (1 ≤ Rt.ld n d ∧ Rt.ld n d ≤ 10000000000000) ∧ (1 ≤ Rt.g n d ∧ Rt.g n d ≤ 10000000000000) := by
  have a := Rt.ln_abs (n := n) (d := d) (by omega)
  have b := Rt.ld_pos (n := n) (d := d) (by omega)
  have c := Rt.ld_le (n := n) (d := d) (by omega)
  have e := Rt.g_pos (n := n) (d := d) (by omega)
  have f := Rt.g_le (n := n) (d := d) (by omega)
  omega
set_option maxHeartbeats 400000 in
theorem lowest_any (n d : Int) (w : World) (hd : 1 ≤ d) (h0 : -10000000000000 ≤ n) (h1 : n ≤ 10000000000000) (h2 : d ≤ 10000000000000) :
    Calls Tryd.prog 43 #[.agg #[.int .i64 n, .int .i64 d]] w fun e w' => e = .returned (.agg #[.int .i64 (Rt.ln n d), .int .i64 (Rt.ld n d)]) ∧ Below w.heap.size w w' := by
  obtain ⟨⟨a0, a1⟩, ⟨b0, b1⟩, ⟨c0, c1⟩⟩ := q_bd hd h0 h1 h2
  have e1 := Rt.ln_tdiv n d
  have e2 : d / Rt.g n d = Rt.ld n d := rfl
  have e3 : d.tdiv (Rt.g n d) = Rt.ld n d := by rw [Int.tdiv_eq_ediv_of_nonneg (by omega)]; rfl
  have cd : ∀ W : World, Calls Tryd.prog 52 #[.int .i64 n, .int .i64 d] W fun e w' => e = .returned (.int .i64 (Rt.g n d)) ∧ W = w' := fun W => commonDivisor_any n d W (by omega) (by omega) hd (by omega)
  generalize Rt.g n d = g at *
  generalize Rt.ln n d = p at *
  generalize Rt.ld n d = q at *
  have CD := Lib.hid cd
  clear cd
  have f1 : IntKind.i64.wrap p = p := IntWalk.i64_in _ (by omega)
  have f2 : IntKind.i64.wrap q = q := IntWalk.i64_in _ (by omega)
  have f3 : (g == 0) = false := by simp; omega
  go_enter Tryd.func43, Tryd.ntmps43
  go_wp2_with (go_at_call 52; refine (CD.out _).mono ?_; rintro e w2 ⟨rfl, rfl⟩)
  go_region
  all_goals go_wp2_with fail
  all_goals
    refine bodyPost_ret (v := .agg #[.int .i64 p, .int .i64 q]) (by simp [results, Tryd.results43, go_sem]) rfl ⟨rfl, ?_⟩
    first
      | exact (((Below.refl _ _).alloc (Nat.le_refl _) _).alloc (by simp) _).drew
      | exact ((((Below.refl _ _).alloc (Nat.le_refl _) _).alloc (by simp) _).drew).setCell (by simp) _ |>.setCell (by simp) _
/-- The ratio in lowest terms if it is valid. -/
def lowV (n d : Int) : Value := if termsB (Rt.ln n d) (Rt.ld n d) = true then .tuple #[.agg #[.int .i64 (Rt.ln n d), .int .i64 (Rt.ld n d)], .bool true] else .tuple #[.agg #[.int .i64 0, .int .i64 0], .bool false]
end Go.Proofs.YtgncgbaoijcinaaDoor
