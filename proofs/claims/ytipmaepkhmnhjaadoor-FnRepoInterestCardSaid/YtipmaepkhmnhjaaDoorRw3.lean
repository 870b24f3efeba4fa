/- The walks of the program's functions of ratios, third part. -/
import Derived.Test.YtipmaepkhmnhjaaDoorRw2
import Derived.RegionTactic
import Derived.ChangeAlike
namespace Go.Proofs.YtipmaepkhmnhjaaDoor
open Go.RowKit
set_option maxHeartbeats 400000 in
theorem valid_any (n d : Int) (w : World) :
    Calls Tryd.prog 46 #[.agg #[.int .i64 n, .int .i64 d]] w fun e w' => e = .returned (.bool (vrB n d)) ∧ Below w.heap.size w w' := by
  cases ht : termsB n d with
  | false =>
    have E := Lib.hid (show vrB n d = false by unfold vrB; rw [ht]; rfl)
    go_enter Tryd.func46, Tryd.ntmps46
    go_wp2_with (go_at_call 63; refine (hasTerms_any _ _ _).mono ?_; rintro e w1 ⟨rfl, hb1⟩)
    go_ret
    exact ⟨ret_bool E.out.symm, ((Below.refl _ _).alloc (Nat.le_refl _) _).trans (hb1.mono (by simp))⟩
  | true =>
    have E := Lib.hid (show vrB n d = (Rt.g n d == 1) by unfold vrB; rw [ht]; rfl)
    have hb := termsB_iff.1 ht
    obtain ⟨b1, b2, b3, b4⟩ := hb
    go_enter Tryd.func46, Tryd.ntmps46
    go_wp2_with fail
    refine (hasTerms_any _ _ _).mono ?_
    rintro e w1 ⟨rfl, hb1⟩
    have kB := (Blk.new w #[.int .i64 n, .int .i64 d] 26).below hb1 (by simp)
    obtain ⟨⟨x0, x1⟩, _, _⟩ := kB.two
    go_wp2_with (go_at_call 69; refine (commonDivisor_any _ _ _ (by omega) (by omega) (by omega) (by omega)).mono ?_; rintro e w2 ⟨rfl, rfl⟩)
    go_ret
    exact ⟨ret_bool E.out.symm, ((Below.refl _ _).alloc (Nat.le_refl _) _).trans (hb1.mono (by simp))⟩
theorem q_bd {n d : Int} (hd : 1 ≤ d) (h0 : -10000000000000 ≤ n) (h1 : n ≤ 10000000000000) (h2 : d ≤ 10000000000000) :
    (-10000000000000 ≤ Rt.ln n d ∧ Rt.ln n d ≤ 10000000000000) ∧ (1 ≤ Rt.ld n d ∧ Rt.ld n d ≤ 10000000000000) ∧ (1 ≤ Rt.g n d ∧ Rt.g n d ≤ 10000000000000) := by
  have a := Rt.ln_abs (n := n) (d := d) (by omega)
  have b := Rt.ld_pos (n := n) (d := d) (by omega)
  have c := Rt.ld_le (n := n) (d := d) (by omega)
  have e := Rt.g_pos (n := n) (d := d) (by omega)
  have f := Rt.g_le (n := n) (d := d) (by omega)
  omega
set_option maxHeartbeats 400000 in
theorem lowest_any (n d : Int) (w : World) (hd : 1 ≤ d) (h0 : -10000000000000 ≤ n) (h1 : n ≤ 10000000000000) (h2 : d ≤ 10000000000000) :
    Calls Tryd.prog 64 #[.agg #[.int .i64 n, .int .i64 d]] w fun e w' => e = .returned (.agg #[.int .i64 (Rt.ln n d), .int .i64 (Rt.ld n d)]) ∧ Below w.heap.size w w' := by
  obtain ⟨⟨a0, a1⟩, ⟨b0, b1⟩, ⟨c0, c1⟩⟩ := q_bd hd h0 h1 h2
  have e1 := Rt.ln_tdiv n d
  have e2 : d / Rt.g n d = Rt.ld n d := rfl
  have e3 : d.tdiv (Rt.g n d) = Rt.ld n d := by rw [Int.tdiv_eq_ediv_of_nonneg (by omega)]; rfl
  have cd : ∀ W : World, Calls Tryd.prog 69 #[.int .i64 n, .int .i64 d] W fun e w' => e = .returned (.int .i64 (Rt.g n d)) ∧ W = w' := fun W => commonDivisor_any n d W (by omega) (by omega) hd (by omega)
  generalize Rt.g n d = g at *
  generalize Rt.ln n d = p at *
  generalize Rt.ld n d = q at *
  have CD := Lib.hid cd
  clear cd
  have f1 : IntKind.i64.wrap p = p := IntWalk.i64_in _ (by omega)
  have f2 : IntKind.i64.wrap q = q := IntWalk.i64_in _ (by omega)
  have f3 : (g == 0) = false := by simp; omega
  go_enter Tryd.func64, Tryd.ntmps64
  go_wp2_with (go_at_call 69; refine (CD.out _).mono ?_; rintro e w2 ⟨rfl, rfl⟩)
  go_region
  all_goals go_wp2_with fail
  all_goals
    refine bodyPost_ret (v := .agg #[.int .i64 p, .int .i64 q]) (by simp [results, Tryd.results64, go_sem]) rfl ⟨rfl, ?_⟩
    first
      | exact (((Below.refl _ _).alloc (Nat.le_refl _) _).alloc (by simp) _).drew
      | exact ((((Below.refl _ _).alloc (Nat.le_refl _) _).alloc (by simp) _).drew).setCell (by simp) _ |>.setCell (by simp) _
/-- The ratio in lowest terms if it is valid. -/
def lowV (n d : Int) : Value := if termsB (Rt.ln n d) (Rt.ld n d) = true then .tuple #[.agg #[.int .i64 (Rt.ln n d), .int .i64 (Rt.ld n d)], .bool true] else .tuple #[.agg #[.int .i64 0, .int .i64 0], .bool false]
set_option maxHeartbeats 400000 in
theorem lowestValid_any (n d : Int) (w : World) (hd : 1 ≤ d) (h0 : -10000000000000 ≤ n) (h1 : n ≤ 10000000000000) (h2 : d ≤ 10000000000000) :
    Calls Tryd.prog 51 #[.agg #[.int .i64 n, .int .i64 d]] w fun e w' => e = .returned (lowV n d) ∧ Below w.heap.size w w' := by
  go_enter Tryd.func51, Tryd.ntmps51
  go_wp2_with fail
  refine (lowest_any _ _ _ hd h0 h1 h2).mono ?_
  rintro e w1 ⟨rfl, hb1⟩
  have kR := ((Blk.new (w.alloc (.cells #[.int .i64 n, .int .i64 d] 26)) #[.int .i64 0, .int .i64 0] 26)).below hb1 (by simp)
  have hbA := (((Below.refl w.heap.size w).alloc (Nat.le_refl _) (.cells #[.int .i64 n, .int .i64 d] 26)).alloc (by simp) (.cells #[.int .i64 0, .int .i64 0] 26)).trans (hb1.mono (by simp; omega))
  have hsz : w.heap.size + 1 < w1.heap.size := by have := kR.lt; simpa using this
  replace hbA := hbA.alloc hbA.size (.cells #[.int .i64 (Rt.ln n d), .int .i64 (Rt.ld n d)] 26)
  replace kR := kR.alloc (.cells #[.int .i64 (Rt.ln n d), .int .i64 (Rt.ld n d)] 26)
  have kL := Blk.new w1 #[.int .i64 (Rt.ln n d), .int .i64 (Rt.ld n d)] 26
  have hV : lowV n d = if termsB (Rt.ln n d) (Rt.ld n d) = true then .tuple #[.agg #[.int .i64 (Rt.ln n d), .int .i64 (Rt.ld n d)], .bool true] else .tuple #[.agg #[.int .i64 0, .int .i64 0], .bool false] := rfl
  have HV := Lib.hid hV
  clear hV
  generalize Rt.ln n d = p at *
  generalize Rt.ld n d = q at *
  go_wp2_with fail
  refine (hasTerms_any _ _ _).mono ?_
  rintro e w2 ⟨rfl, hb2⟩
  replace kR := kR.below hb2 (by simp; omega)
  replace kL := kL.below hb2 (by simp)
  simp only [World.size_alloc] at kR
  obtain ⟨⟨r0, r1⟩, f0, f1⟩ := kR.two
  obtain ⟨⟨x0, x1⟩, _, _⟩ := kL.two
  replace hbA := hbA.trans (hb2.mono (by simp; omega))
  have hs := hbA.size
  cases ht : termsB p q with
  | true =>
    have E := Lib.hid (HV.out.trans (if_pos ht))
    go_wp2_with fail
    refine bodyPost_ret (v := .tuple #[.agg #[.int .i64 p, .int .i64 q], .bool true]) (by simp [results, Tryd.results51, go_sem, r0, r1]) rfl ⟨by rw [E.out], ?_⟩
    exact (hbA.setCell (by simp) _).setCell (by simp) _
  | false =>
    have E := Lib.hid (HV.out.trans (if_neg (by rw [ht]; decide)))
    go_wp2_with fail
    refine bodyPost_ret (v := .tuple #[.agg #[.int .i64 0, .int .i64 0], .bool false]) (by simp [results, Tryd.results51, go_sem, r0, r1]) rfl ⟨by rw [E.out], ?_⟩
    exact (hbA.setCell (by simp) _).setCell (by simp) _
end Go.Proofs.YtipmaepkhmnhjaaDoor
