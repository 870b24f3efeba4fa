/- Plain mathematics of the laws of parts of years. -/
import Derived.Test.YtgncgbaoijcinaaDoorYp
import Derived.Test.YtgncgbaoijcinaaDoorMath1
import Derived.Test.YtgncgbaoijcinaaDoorRs3
import Derived.Test.YtgncgbaoijcinaaDoorRw6
namespace Go.Proofs.YtgncgbaoijcinaaDoor
namespace Yp
theorem thirty_self (x : Int) : thirty x x = 0 := by
  unfold thirty d2 d1
  split <;> omega
theorem num_self {k x : Int} : num k x x = 0 := by
  unfold num
  rw [thirty_self]
  split
  · rfl
  · split <;> omega
theorem thirty_step {x y : Int} (h0 : 0 ≤ x) (h : x ≤ y) (h1 : y + 1 ≤ 36524) : thirty x y ≤ thirty x (y + 1) := by
  have hD := Cal.D_bd (n := y) (by omega) (by omega)
  have hd := Cal.dm_bd (Cal.Y y) (Cal.M y)
  unfold thirty d2
  rcases next_date (n := y) (by omega) (by omega) with ⟨e1, e2, e3⟩ | ⟨e1, e2, _⟩
  · rw [e1, e2, e3]
    split <;> omega
  · rw [e2]
    split <;> omega
theorem num_step {k x y : Int} (h0 : 0 ≤ x) (h : x ≤ y) (h1 : y + 1 ≤ 36524) : num k x y ≤ num k x (y + 1) := by
  have a := thirty_step h0 h h1
  have b := L_succ (n := y) (by omega)
  have c := Cal.lp_01 (Cal.Y y)
  unfold num
  split
  · exact a
  · split
    · rw [b]; omega
    · omega
theorem num_sum {k x m y : Int} (hk : k ≠ 2) : num k x m + num k m y = num k x y := by
  unfold num
  rw [if_neg hk, if_neg hk, if_neg hk]
  split <;> omega
/-- A whole year. -/
theorem year_jan {yr : Int} (h0 : 1990 ≤ yr) (h1 : yr ≤ 2089) : Cal.num yr 1 1 = Cal.ys yr ∧ Cal.Y (Cal.ys yr) = yr ∧ Cal.M (Cal.ys yr) = 1 ∧ Cal.D (Cal.ys yr) = 1 ∧ 0 ≤ Cal.ys yr ∧ Cal.ys yr ≤ 36524 := by
  have hv : Cal.vld yr 1 1 := ⟨h0, h1, by omega, by omega, by omega, by have := Cal.dm_bd yr 1; omega⟩
  have e : Cal.num yr 1 1 = Cal.ys yr := by unfold Cal.num; rw [Cal.ms_1]; omega
  have d := Cal.dt_num hv
  have b := Cal.num_bd hv
  rw [e] at d b
  exact ⟨e, d.1, d.2.1, d.2.2, b.1, b.2⟩
theorem year_len {yr : Int} (h0 : 1990 ≤ yr) (h1 : yr + 1 ≤ 2089) : num 3 (Cal.ys yr) (Cal.ys (yr + 1)) = 133590 ∧ num 2 (Cal.ys yr) (Cal.ys (yr + 1)) = 360 := by
  obtain ⟨_, a1, a2, a3, a4, a5⟩ := year_jan h0 (by omega)
  obtain ⟨_, b1, b2, b3, b4, b5⟩ := year_jan (yr := yr + 1) (by omega) h1
  have hs := Cal.ys_succ yr
  have hL := L_year (y := yr) (a := Cal.ys yr) (b := Cal.ys (yr + 1)) a4 (by omega) (by have := Cal.lp_01 yr; omega) (Int.le_refl _) (Int.le_refl _)
  have hl := Cal.lp_01 yr
  refine ⟨?_, ?_⟩
  · unfold num
    rw [if_neg (by omega), if_pos rfl, hL]
    rw [show Cal.ys (yr + 1) - Cal.ys yr = 365 + Cal.lp yr by omega]
    rcases (show Cal.lp yr = 0 ∨ Cal.lp yr = 1 by omega) with e | e <;> rw [e] <;> omega
  · unfold num
    rw [if_pos rfl]
    unfold thirty d2 d1
    rw [a1, a2, a3, b1, b2, b3]
    rw [if_neg (by omega)]
    omega
theorem low_vr {n d : Int} (h : termsB n d = true) : vrB (Rt.ln n d) (Rt.ld n d) = true := by
  obtain ⟨a, b, c, e⟩ := termsB_iff.1 h
  rw [vr_low c, termsB_iff]
  have h1 := Rt.ln_abs (n := n) (d := d) (by omega)
  have h2 := Rt.ld_pos (n := n) (d := d) (by omega)
  have h3 := Rt.ld_le (n := n) (d := d) (by omega)
  omega
theorem low_bd {n d : Int} (h : termsB n d = true) : -2000000 ≤ Rt.ln n d ∧ Rt.ln n d ≤ 2000000 ∧ 1 ≤ Rt.ld n d ∧ Rt.ld n d ≤ 2000000 := by
  have v := vrB_iff.1 (low_vr h)
  exact ⟨v.1, v.2.1, v.2.2.1, v.2.2.2.1⟩
theorem low_nn {n d : Int} (h : termsB n d = true) (h0 : 0 ≤ n) : 0 ≤ Rt.ln n d := by
  obtain ⟨a, b, c, e⟩ := termsB_iff.1 h
  have h1 := Rt.ln_mul n d
  have h2 := Rt.g_pos (n := n) (d := d) (by omega)
  rcases Int.lt_or_le (Rt.ln n d) 0 with q | q
  · have := Int.mul_neg_of_neg_of_pos q h2; omega
  · exact q
theorem low_zero {d : Int} (h : 1 ≤ d) : Rt.ln 0 d = 0 ∧ Rt.ld 0 d = 1 := Rt.lo_uniq (by omega) (by decide) (by omega) (by simp)
theorem low_one {d : Int} (h : 1 ≤ d) : Rt.ln d d = 1 ∧ Rt.ld d d = 1 := Rt.lo_uniq (by omega) (by decide) (by omega) (by simp)
theorem cmp_low {n d n' d' : Int} (h : termsB n d = true) (h' : termsB n' d' = true) (hx : n' * d ≤ n * d') : 0 ≤ cmpV (Rt.ln n d) (Rt.ld n d) (Rt.ln n' d') (Rt.ld n' d') ∧ cmpV (Rt.ln n d) (Rt.ld n d) (Rt.ln n' d') (Rt.ld n' d') ≤ 1 := by
  have v := low_vr h
  have v' := low_vr h'
  have b := low_bd h
  have b' := low_bd h'
  obtain ⟨_, _, c, _⟩ := termsB_iff.1 h
  obtain ⟨_, _, c', _⟩ := termsB_iff.1 h'
  have k := Rt.cross n d
  have k' := Rt.cross n' d'
  unfold cmpV
  rw [if_pos ⟨v, v'⟩]
  have hge : Rt.ln n' d' * Rt.ld n d ≤ Rt.ln n d * Rt.ld n' d' := by
    have hd : 0 < d * d' := Int.mul_pos (by omega) (by omega)
    have hb : 0 ≤ Rt.ld n d * Rt.ld n' d' := Int.le_of_lt (Int.mul_pos (by omega) (by omega))
    have e1 : Rt.ln n' d' * Rt.ld n d * (d * d') = n' * d * (Rt.ld n d * Rt.ld n' d') := by
      rw [show Rt.ln n' d' * Rt.ld n d * (d * d') = (Rt.ln n' d' * d') * (Rt.ld n d * d) by ac_rfl, k']; ac_rfl
    have e2 : Rt.ln n d * Rt.ld n' d' * (d * d') = n * d' * (Rt.ld n d * Rt.ld n' d') := by
      rw [show Rt.ln n d * Rt.ld n' d' * (d * d') = (Rt.ln n d * d) * (Rt.ld n' d' * d') by ac_rfl, k]; ac_rfl
    have := Int.mul_le_mul_of_nonneg_right hx hb
    rw [← e1, ← e2] at this
    exact Int.le_of_mul_le_mul_right this hd
  rw [if_neg (by omega)]
  split <;> omega
theorem add_low {n m d : Int} (h : termsB n d = true) (h' : termsB m d = true) (hs : termsB (n + m) d = true) :
    addRV (Rt.ln n d) (Rt.ld n d) (Rt.ln m d) (Rt.ld m d) = .tuple #[.agg #[.int .i64 (Rt.ln (n + m) d), .int .i64 (Rt.ld (n + m) d)], .bool true] := by
  have v := low_vr h
  have v' := low_vr h'
  have vs := low_vr hs
  have b := low_bd h
  have b' := low_bd h'
  have bs := low_bd hs
  obtain ⟨_, _, c, _⟩ := termsB_iff.1 h
  have k := Rt.cross n d
  have k' := Rt.cross m d
  have ks := Rt.cross (n + m) d
  unfold addRV
  rw [if_pos ⟨v, v'⟩]
  have hx : Rt.ln (n + m) d * (Rt.ld n d * Rt.ld m d) = (Rt.ln n d * Rt.ld m d + Rt.ln m d * Rt.ld n d) * Rt.ld (n + m) d := by
    apply Int.eq_of_mul_eq_mul_right (show d ≠ 0 by omega)
    have e1 : Rt.ln (n + m) d * (Rt.ld n d * Rt.ld m d) * d = (n + m) * (Rt.ld (n + m) d * (Rt.ld n d * Rt.ld m d)) := by
      rw [show Rt.ln (n + m) d * (Rt.ld n d * Rt.ld m d) * d = (Rt.ln (n + m) d * d) * (Rt.ld n d * Rt.ld m d) by ac_rfl, ks]; ac_rfl
    have e2 : (Rt.ln n d * Rt.ld m d + Rt.ln m d * Rt.ld n d) * Rt.ld (n + m) d * d = (Rt.ln n d * d) * (Rt.ld m d * Rt.ld (n + m) d) + (Rt.ln m d * d) * (Rt.ld n d * Rt.ld (n + m) d) := by
      rw [Int.add_mul, Int.add_mul]; congr 1 <;> ac_rfl
    rw [e1, e2, k, k', Int.add_mul]
    congr 1 <;> ac_rfl
  obtain ⟨e1, e2⟩ := Rt.lo_uniq (n := Rt.ln n d * Rt.ld m d + Rt.ln m d * Rt.ld n d) (d := Rt.ld n d * Rt.ld m d) (a := Rt.ln (n + m) d) (b := Rt.ld (n + m) d) (Int.mul_pos (by omega) (by omega)) (Rt.vr_gcd (vrB_iff.1 vs)) (by omega) hx
  unfold lowV
  rw [e1, e2, if_pos (termsB_iff.2 bs)]
theorem money {x y : Int} (h0 : 0 ≤ x) (h : x ≤ y) : num 0 x y * den 1 ≤ num 1 x y * den 0 ∧ num 3 x y * den 0 ≤ num 0 x y * den 3 := by
  have := L_bd h0 h
  have e0 : den 0 = 365 := rfl
  have e1 : den 1 = 360 := rfl
  have e3 : den 3 = 133590 := rfl
  rw [e0, e1, e3]
  unfold num
  rw [if_neg (by omega), if_neg (by omega), if_neg (by omega), if_neg (by omega), if_neg (by omega), if_pos rfl]
  omega
theorem terms {k x y : Int} (h0 : 0 ≤ x) (h : x ≤ y) (h1 : y ≤ 36524) (h2 : y ≤ x + 4000) : termsB (num k x y) (den k) = true := by
  have a := num_bd (k := k) h0 h h1 h2
  have b := den_bd k
  rw [termsB_iff]; omega
end Yp
end Go.Proofs.YtgncgbaoijcinaaDoor
