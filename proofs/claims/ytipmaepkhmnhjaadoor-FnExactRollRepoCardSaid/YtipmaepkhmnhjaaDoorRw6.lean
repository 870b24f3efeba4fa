/- The walks of comparing. -/
import Derived.Test.YtipmaepkhmnhjaaDoorRw5
namespace Go.Proofs.YtipmaepkhmnhjaaDoor
open Go.RowKit
def cmpV (a b c d : Int) : Int := if vrB a b = true ∧ vrB c d = true then (if a * d < c * b then -1 else if c * b < a * d then 1 else 0) else 2
set_option maxHeartbeats 1000000 in
theorem compare_any (a b c d : Int) (w : World) :
    Calls Tryd.prog 17 #[.agg #[.int .i64 a, .int .i64 b], .agg #[.int .i64 c, .int .i64 d]] w fun e w' => e = .returned (.int .i64 (cmpV a b c d)) ∧ Below w.heap.size w w' := by
  have kA := (Blk.new w #[.int .i64 a, .int .i64 b] 26).alloc (.cells #[.int .i64 c, .int .i64 d] 26)
  have kB := Blk.new (w.alloc (.cells #[.int .i64 a, .int .i64 b] 26)) #[.int .i64 c, .int .i64 d] 26
  have hbA := ((Below.refl w.heap.size w).alloc (Nat.le_refl _) (.cells #[.int .i64 a, .int .i64 b] 26)).alloc (by simp) (.cells #[.int .i64 c, .int .i64 d] 26)
  simp only [World.size_alloc] at kA kB
  cases hv1 : vrB a b with
  | false =>
    have E := Lib.hid (show cmpV a b c d = 2 by unfold cmpV; rw [if_neg (by simp [hv1])])
    go_enter Tryd.func17, Tryd.ntmps17
    go_wp2_with fail
    refine (valid_any _ _ _).mono ?_
    rintro e w1 ⟨rfl, hb1⟩
    go_wp2_with fail
    go_ret
    exact ⟨ret_int E.out.symm, hbA.trans (hb1.mono hbA.size)⟩
  | true =>
    cases hv2 : vrB c d with
    | false =>
      have E := Lib.hid (show cmpV a b c d = 2 by unfold cmpV; rw [if_neg (by simp [hv2])])
      go_enter Tryd.func17, Tryd.ntmps17
      go_wp2_with fail
      refine (valid_any _ _ _).mono ?_
      rintro e w1 ⟨rfl, hb1⟩
      replace kB := kB.below hb1 (by simp)
      replace hbA := hbA.trans (hb1.mono hbA.size)
      obtain ⟨⟨x0, x1⟩, _, _⟩ := kB.two
      go_wp2_with fail
      refine (valid_any _ _ _).mono ?_
      rintro e w2 ⟨rfl, hb2⟩
      go_wp2_with fail
      go_ret
      exact ⟨ret_int E.out.symm, hbA.trans (hb2.mono hbA.size)⟩
    | true =>
      have hV : cmpV a b c d = if a * d < c * b then -1 else if c * b < a * d then 1 else 0 := by unfold cmpV; rw [if_pos ⟨hv1, hv2⟩]
      have q1 := vrB_iff.1 hv1
      have q2 := vrB_iff.1 hv2
      obtain ⟨g1, g2, g3, g4, _⟩ := q1
      obtain ⟨i1, i2, i3, i4, _⟩ := q2
      have p0 := mul_bd (a := a) (b := d) (A := 2000000) (B := 2000000) (by omega) (by omega) (by omega) (by omega)
      obtain ⟨p0a, p0b⟩ := p0
      have p1 := mul_bd (a := c) (b := b) (A := 2000000) (B := 2000000) (by omega) (by omega) (by omega) (by omega)
      obtain ⟨p1a, p1b⟩ := p1
      go_enter Tryd.func17, Tryd.ntmps17
      go_wp2_with fail
      refine (valid_any _ _ _).mono ?_
      rintro e w1 ⟨rfl, hb1⟩
      replace kB := kB.below hb1 (by simp)
      replace kA := kA.below hb1 (by simp; omega)
      replace hbA := hbA.trans (hb1.mono hbA.size)
      obtain ⟨⟨x0, x1⟩, _, _⟩ := kB.two
      go_wp2_with fail
      refine (valid_any _ _ _).mono ?_
      rintro e w2 ⟨rfl, hb2⟩
      replace kB := kB.below hb2 kB.lt
      replace kA := kA.below hb2 kA.lt
      replace hbA := hbA.trans (hb2.mono hbA.size)
      clear x0 x1
      obtain ⟨⟨x0, x1⟩, _, _⟩ := kB.two
      obtain ⟨⟨y0, y1⟩, _, _⟩ := kA.two
      have s1 : IntKind.i64.wrap (a * d) = a * d := IntWalk.i64_in _ (by omega)
      have s2 : IntKind.i64.wrap (c * b) = c * b := IntWalk.i64_in _ (by omega)
      rcases Int.lt_trichotomy (a * d) (c * b) with h | h | h
      · have E := Lib.hid (hV.trans (if_pos h))
        have h1 := decide_eq_true h
        clear hV
        go_wp2_with fail
        go_quiet (fail)
        go_wp2_with fail
        go_ret
        exact ⟨ret_int E.out.symm, below_drewN hbA _⟩
      · have E := Lib.hid (hV.trans (by rw [if_neg (by omega), if_neg (by omega)]))
        have h1 : decide (a * d < c * b) = false := decide_eq_false (by omega)
        have h2 : decide (c * b < a * d) = false := decide_eq_false (by omega)
        have h3 : a * d ≤ c * b := by omega
        have h4 : c * b ≤ a * d := by omega
        clear hV h
        go_wp2_with fail
        go_quiet (fail)
        go_wp2_with fail
        go_ret
        exact ⟨ret_int E.out.symm, below_drewN hbA _⟩
      · have E := Lib.hid (hV.trans (by rw [if_neg (by omega), if_pos h]))
        have h1 : decide (a * d < c * b) = false := decide_eq_false (by omega)
        have h2 : decide (c * b < a * d) = true := decide_eq_true h
        clear hV
        go_wp2_with fail
        go_quiet (fail)
        go_wp2_with fail
        go_ret
        exact ⟨ret_int E.out.symm, below_drewN hbA _⟩
end Go.Proofs.YtipmaepkhmnhjaaDoor
