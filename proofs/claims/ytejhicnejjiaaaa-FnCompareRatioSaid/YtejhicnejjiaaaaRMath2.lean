/- Plain mathematics of comparing and sharing. -/
import Derived.Test.YtejhicnejjiaaaaRMath
namespace Go.Proofs.Ytejhicnejjiaaaa
theorem mulRV_inv {a b c d p q : Int} (h : mulRV a b c d = .tuple #[.agg #[.int .i64 p, .int .i64 q], .bool true]) : vrB a b = true ∧ vrB c d = true ∧ vrB p q = true ∧ p * (b * d) = (a * c) * q := by
  rcases mulRV_cases a b c d with ⟨p', q', e, h1, h2, h3, h4⟩ | e
  · rw [e] at h
    simp at h
    obtain ⟨rfl, rfl⟩ := h
    exact ⟨h1, h2, h3, h4⟩
  · rw [e] at h; simp at h
theorem addRV_inv {a b c d p q : Int} (h : addRV a b c d = .tuple #[.agg #[.int .i64 p, .int .i64 q], .bool true]) : vrB a b = true ∧ vrB c d = true ∧ vrB p q = true ∧ p * (b * d) = (a * d + c * b) * q := by
  rcases addRV_cases a b c d with ⟨p', q', e, h1, h2, h3, h4⟩ | e
  · rw [e] at h
    simp at h
    obtain ⟨rfl, rfl⟩ := h
    exact ⟨h1, h2, h3, h4⟩
  · rw [e] at h; simp at h
theorem den_pos {a b : Int} (h : vrB a b = true) : 1 ≤ b := (vrB_iff.1 h).2.2.1
theorem distr_end {a b c d p q x1 x2 y1 y2 z1 z2 s1 s2 : Int} (hr : addRV a b c d = .tuple #[.agg #[.int .i64 p, .int .i64 q], .bool true]) (hx : mulRV p q 2 3 = .tuple #[.agg #[.int .i64 x1, .int .i64 x2], .bool true])
    (hy : mulRV a b 2 3 = .tuple #[.agg #[.int .i64 y1, .int .i64 y2], .bool true]) (hz : mulRV c d 2 3 = .tuple #[.agg #[.int .i64 z1, .int .i64 z2], .bool true]) (hs : addRV y1 y2 z1 z2 = .tuple #[.agg #[.int .i64 s1, .int .i64 s2], .bool true]) :
    s1 = x1 ∧ s2 = x2 := by
  obtain ⟨r1, r2, r3, r4⟩ := addRV_inv hr
  obtain ⟨_, _, x3, x4⟩ := mulRV_inv hx
  obtain ⟨_, _, y3, y4⟩ := mulRV_inv hy
  obtain ⟨_, _, z3, z4⟩ := mulRV_inv hz
  have hd := distribute (e := 2) (f := 3) r4 x4 y4 z4 (den_pos r1) (den_pos r2) (den_pos r3) (by omega) x3 (den_pos y3) (den_pos z3)
  unfold addRV at hs
  rw [if_pos ⟨y3, z3⟩, hd] at hs
  simp at hs
  exact ⟨hs.1.symm, hs.2.symm⟩
theorem cmp_cases (a b c d : Int) : (vrB a b = true ∧ vrB c d = true ∧ cmpV a b c d = (if a * d < c * b then -1 else if c * b < a * d then 1 else 0) ∧ cmpV c d a b = -(if a * d < c * b then -1 else if c * b < a * d then 1 else 0)) ∨ (cmpV a b c d = 2) := by
  by_cases h : vrB a b = true ∧ vrB c d = true
  · refine .inl ⟨h.1, h.2, ?_, ?_⟩
    · unfold cmpV; rw [if_pos h]
    · unfold cmpV; rw [if_pos ⟨h.2, h.1⟩]
      rcases Int.lt_trichotomy (a * d) (c * b) with k | k | k
      · rw [if_neg (by omega), if_pos k, if_pos k]; rfl
      · rw [if_neg (by omega), if_neg (by omega), if_neg (by omega), if_neg (by omega)]; rfl
      · rw [if_pos k, if_neg (by omega), if_pos k]
  · right; unfold cmpV; rw [if_neg h]
theorem cmp_bd (a b c d : Int) : -1 ≤ cmpV a b c d ∧ cmpV a b c d ≤ 2 := by
  unfold cmpV; split
  · split
    · omega
    · split <;> omega
  · omega
theorem cmp_ne2 {a b c d : Int} (h1 : vrB a b = true) (h2 : vrB c d = true) : cmpV a b c d ≠ 2 := by
  unfold cmpV; rw [if_pos ⟨h1, h2⟩]; split
  · omega
  · split <;> omega
theorem cmp_zero {a b c d : Int} (h1 : vrB a b = true) (h2 : vrB c d = true) : (cmpV a b c d == 0) = (a == c && b == d) := by
  have v1 := vrB_iff.1 h1
  have v2 := vrB_iff.1 h2
  have e : cmpV a b c d = if a * d < c * b then -1 else if c * b < a * d then 1 else 0 := by unfold cmpV; rw [if_pos ⟨h1, h2⟩]
  rw [e]
  by_cases k : a * d = c * b
  · obtain ⟨rfl, rfl⟩ := Rt.eq_of_cross (Rt.vr_gcd v1) (by have := v1.2.2.1; omega) (Rt.vr_gcd v2) (by have := v2.2.2.1; omega) k
    simp
  · have hne : ¬ (a = c ∧ b = d) := by rintro ⟨rfl, rfl⟩; exact k rfl
    have h3 : (a == c && b == d) = false := by
      cases h : (a == c && b == d) with
      | false => rfl
      | true =>
        exfalso
        rw [Bool.and_eq_true, beq_iff_eq, beq_iff_eq] at h
        exact hne h
    rw [h3]
    rcases Int.lt_or_gt_of_ne k with k | k
    · rw [if_pos k]; rfl
    · rw [if_neg (by omega), if_pos k]; rfl
theorem cmp_add {a b c d x1 x2 y1 y2 : Int} (hx : addRV a b 1 1 = .tuple #[.agg #[.int .i64 x1, .int .i64 x2], .bool true]) (hy : addRV c d 1 1 = .tuple #[.agg #[.int .i64 y1, .int .i64 y2], .bool true]) : cmpV x1 x2 y1 y2 = cmpV a b c d := by
  obtain ⟨r1, _, r3, r4⟩ := addRV_inv hx
  obtain ⟨s1, _, s3, s4⟩ := addRV_inv hy
  have pb := den_pos r1; have pd := den_pos s1; have px := den_pos r3; have py := den_pos s3
  have hB : 0 < b * d := Int.mul_pos (by omega) (by omega)
  have hX : 0 < x2 * y2 := Int.mul_pos (by omega) (by omega)
  have e1 : x1 * y2 * (b * d) = (a * d) * (x2 * y2) + (b * d) * (x2 * y2) := by
    have : x1 * y2 * (b * d) = (x1 * (b * 1)) * (y2 * d) := by rw [Int.mul_one]; ac_rfl
    rw [this, r4, Int.mul_one, Int.one_mul, Int.add_mul, Int.add_mul]
    congr 1 <;> ac_rfl
  have e2 : y1 * x2 * (b * d) = (c * b) * (x2 * y2) + (b * d) * (x2 * y2) := by
    have : y1 * x2 * (b * d) = (y1 * (d * 1)) * (x2 * b) := by rw [Int.mul_one]; ac_rfl
    rw [this, s4, Int.mul_one, Int.one_mul, Int.add_mul, Int.add_mul]
    congr 1 <;> ac_rfl
  have lt1 : ∀ {u v : Int}, u < v ↔ u * (b * d) < v * (b * d) := fun {u v} => (Int.mul_lt_mul_right hB).symm
  have lt2 : ∀ {u v : Int}, u < v ↔ u * (x2 * y2) < v * (x2 * y2) := fun {u v} => (Int.mul_lt_mul_right hX).symm
  have i1 : (x1 * y2 < y1 * x2) ↔ (a * d < c * b) := by rw [lt1 (u := x1 * y2), e1, e2, lt2 (u := a * d)]; omega
  have i2 : (y1 * x2 < x1 * y2) ↔ (c * b < a * d) := by rw [lt1 (u := y1 * x2), e1, e2, lt2 (u := c * b)]; omega
  have E1 : cmpV x1 x2 y1 y2 = if x1 * y2 < y1 * x2 then -1 else if y1 * x2 < x1 * y2 then 1 else 0 := by unfold cmpV; rw [if_pos ⟨r3, s3⟩]
  have E2 : cmpV a b c d = if a * d < c * b then -1 else if c * b < a * d then 1 else 0 := by unfold cmpV; rw [if_pos ⟨r1, s1⟩]
  rw [E1, E2]
  by_cases k1 : a * d < c * b
  · rw [if_pos (i1.2 k1), if_pos k1]
  · rw [if_neg (fun h => k1 (i1.1 h)), if_neg k1]
    by_cases k2 : c * b < a * d
    · rw [if_pos (i2.2 k2), if_pos k2]
    · rw [if_neg (fun h => k2 (i2.1 h)), if_neg k2]
end Go.Proofs.Ytejhicnejjiaaaa
