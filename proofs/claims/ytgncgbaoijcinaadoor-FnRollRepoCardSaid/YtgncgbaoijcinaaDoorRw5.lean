/- The walks of the program's other functions of ratios. -/
import Derived.Test.YtgncgbaoijcinaaDoorRw4
namespace Go.Proofs.YtgncgbaoijcinaaDoor
open Go.RowKit
theorem floor_neg {a b : Int} (hb : 1 ≤ b) (h : a.tmod b < 0) : a.tdiv b - 1 = a / b := by
  have h1 := Int.mul_tdiv_add_tmod a b
  have h2 := Int.lt_tmod_of_pos a (show 0 < b by omega)
  exact ((Int.ediv_emod_unique (a := a) (b := b) (r := a.tmod b + b) (q := a.tdiv b - 1) (by omega)).2 ⟨by rw [Int.mul_sub]; omega, by omega, by omega⟩).1.symm
theorem floor_pos {a b : Int} (hb : 1 ≤ b) (h : 0 ≤ a.tmod b) : a.tdiv b = a / b := by
  have h1 := Int.mul_tdiv_add_tmod a b
  have h2 := Int.tmod_lt_of_pos a (show 0 < b by omega)
  exact ((Int.ediv_emod_unique (a := a) (b := b) (r := a.tmod b) (q := a.tdiv b) (by omega)).2 ⟨by omega, by omega, by omega⟩).1.symm
theorem tdiv_bd {a b : Int} (h0 : -2000000000000000000 ≤ a) (h1 : a ≤ 2000000000000000000) : -2000000000000000001 ≤ a.tdiv b ∧ a.tdiv b ≤ 2000000000000000001 := by
  have := Int.natAbs_tdiv_le_natAbs a b
  omega
set_option maxHeartbeats 400000 in
theorem floored_any (a b : Int) (w : World) (h0 : -2000000000000000000 ≤ a) (h1 : a ≤ 2000000000000000000) (h2 : 1 ≤ b) (h3 : b ≤ 1000000000000000000) :
    Calls Tryd.prog 34 #[.int .i64 a, .int .i64 b] w fun e w' => e = .returned (.int .i64 (a / b)) ∧ w = w' := by
  obtain ⟨q0, q1⟩ := tdiv_bd (b := b) h0 h1
  have r0 := Int.lt_tmod_of_pos a (show 0 < b by omega)
  have r1 := Int.tmod_lt_of_pos a (show 0 < b by omega)
  have e0 : (b == 0) = false := by simp; omega
  by_cases hm : a.tmod b < 0
  · have HE := Lib.hid (floor_neg h2 hm)
    have f1 : IntKind.i64.wrap (a.tdiv b) = a.tdiv b := IntWalk.i64_in _ (by omega)
    go_enter Tryd.func34, Tryd.ntmps34
    go_wp2_with fail
    go_ret
    exact ⟨ret_int HE.out, rfl⟩
  · have HE := Lib.hid (floor_pos (a := a) h2 (by omega))
    have hm' := decide_eq_false hm
    have f1 : IntKind.i64.wrap (a.tdiv b) = a.tdiv b := IntWalk.i64_in _ (by omega)
    go_enter Tryd.func34, Tryd.ntmps34
    go_wp2_with fail
    go_ret
    exact ⟨ret_int HE.out, rfl⟩
set_option maxHeartbeats 400000 in
theorem rounded_any (a b : Int) (w : World) (h0 : -900000000000000000 ≤ a) (h1 : a ≤ 900000000000000000) (h2 : 1 ≤ b) (h3 : b ≤ 100000000000000000) :
    Calls Tryd.prog 24 #[.int .i64 a, .int .i64 b] w fun e w' => e = .returned (.int .i64 (Rt.near a b)) ∧ w = w' := by
  go_enter Tryd.func24, Tryd.ntmps24
  go_wp2_with (go_at_call 34; refine (floored_any _ _ _ (by omega) (by omega) (by omega) (by omega)).mono ?_; rintro e w2 ⟨rfl, rfl⟩)
  go_ret
  exact ⟨rfl, rfl⟩
def makeV (n d : Int) : Value := if termsB n d = true then .tuple #[.agg #[.int .i64 (Rt.ln n d), .int .i64 (Rt.ld n d)], .bool true] else .tuple #[.agg #[.int .i64 0, .int .i64 0], .bool false]
set_option maxHeartbeats 400000 in
theorem makeRatio_any (n d : Int) (w : World) :
    Calls Tryd.prog 33 #[.int .i64 n, .int .i64 d] w fun e w' => e = .returned (makeV n d) ∧ Below w.heap.size w w' := by
  have kR := (Blk.new w #[.int .i64 0, .int .i64 0] 47).alloc (.cells #[.int .i64 n, .int .i64 d] 47)
  have kB := Blk.new (w.alloc (.cells #[.int .i64 0, .int .i64 0] 47)) #[.int .i64 n, .int .i64 d] 47
  have hbA := ((Below.refl w.heap.size w).alloc (Nat.le_refl _) (.cells #[.int .i64 0, .int .i64 0] 47)).alloc (by simp) (.cells #[.int .i64 n, .int .i64 d] 47)
  simp only [World.size_alloc] at kR kB
  cases ht : termsB n d with
  | false =>
    have E := Lib.hid (show makeV n d = .tuple #[.agg #[.int .i64 0, .int .i64 0], .bool false] by unfold makeV; rw [if_neg (by rw [ht]; decide)])
    go_enter Tryd.func33, Tryd.ntmps33
    go_wp2_with fail
    refine (hasTerms_any _ _ _).mono ?_
    rintro e w1 ⟨rfl, hb1⟩
    replace kR := kR.below hb1 (by simp; omega)
    replace hbA := hbA.trans (hb1.mono hbA.size)
    obtain ⟨⟨r0, r1⟩, f0, f1⟩ := kR.two
    clear kB
    go_wp2_with fail
    refine bodyPost_ret (v := .tuple #[.agg #[.int .i64 0, .int .i64 0], .bool false]) (by simp [results, Tryd.results33, go_sem, r0, r1]) rfl ⟨by rw [E.out], ?_⟩
    exact (hbA.setCell (by simp) _).setCell (by simp) _
  | true =>
    have E := Lib.hid (show makeV n d = .tuple #[.agg #[.int .i64 (Rt.ln n d), .int .i64 (Rt.ld n d)], .bool true] by unfold makeV; rw [if_pos ht])
    have tb := termsB_iff.1 ht
    obtain ⟨t1, t2, t3, t4⟩ := tb
    go_enter Tryd.func33, Tryd.ntmps33
    go_wp2_with fail
    refine (hasTerms_any _ _ _).mono ?_
    rintro e w1 ⟨rfl, hb1⟩
    replace kR := kR.below hb1 (by simp; omega)
    replace kB := kB.below hb1 (by simp)
    replace hbA := hbA.trans (hb1.mono hbA.size)
    obtain ⟨⟨x0, x1⟩, _, _⟩ := kB.two
    go_wp2_with fail
    refine (lowest_any _ _ _ t3 (by omega) (by omega) (by omega)).mono ?_
    rintro e w2 ⟨rfl, hb2⟩
    replace kR := kR.below hb2 kR.lt
    replace hbA := hbA.trans (hb2.mono hbA.size)
    obtain ⟨⟨r0, r1⟩, f0, f1⟩ := kR.two
    clear kB x0 x1
    go_wp2_with fail
    refine bodyPost_ret (v := .tuple #[.agg #[.int .i64 (Rt.ln n d), .int .i64 (Rt.ld n d)], .bool true]) (by simp [results, Tryd.results33, go_sem, r0, r1]) rfl ⟨by rw [E.out], ?_⟩
    exact (hbA.setCell (by simp) _).setCell (by simp) _
end Go.Proofs.YtgncgbaoijcinaaDoor
