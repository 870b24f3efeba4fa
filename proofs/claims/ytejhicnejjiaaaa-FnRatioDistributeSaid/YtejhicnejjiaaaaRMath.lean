/- Plain mathematics of the laws of ratios. -/
import Derived.Test.YtejhicnejjiaaaaRDraw2
namespace Go.Proofs.Ytejhicnejjiaaaa
theorem lowV_true {n d : Int} (h : termsB (Rt.ln n d) (Rt.ld n d) = true) : lowV n d = .tuple #[.agg #[.int .i64 (Rt.ln n d), .int .i64 (Rt.ld n d)], .bool true] := if_pos h
theorem lowV_eq {n d p q : Int} (hd : 1 ≤ d) (hv : vrB p q = true) (hx : p * d = n * q) : lowV n d = .tuple #[.agg #[.int .i64 p, .int .i64 q], .bool true] := by
  have v := vrB_iff.1 hv
  obtain ⟨e1, e2⟩ := Rt.lo_uniq (n := n) (d := d) (a := p) (b := q) (by omega) (Rt.vr_gcd v) (by have := v.2.2.1; omega) hx
  have ht : termsB p q = true := termsB_iff.2 ⟨v.1, v.2.1, v.2.2.1, v.2.2.2.1⟩
  unfold lowV
  rw [e1, e2, if_pos ht]
/-- Where a sum or a product is valid. -/
theorem lowV_inv {n d p q : Int} (hd : 1 ≤ d) (h : lowV n d = .tuple #[.agg #[.int .i64 p, .int .i64 q], .bool true]) : vrB p q = true ∧ p * d = n * q := by
  unfold lowV at h
  by_cases ht : termsB (Rt.ln n d) (Rt.ld n d) = true
  · rw [if_pos ht] at h
    simp at h
    obtain ⟨rfl, rfl⟩ := h
    exact ⟨(vr_low hd).trans ht, Rt.cross n d⟩
  · rw [if_neg ht] at h
    simp at h
theorem lowV_cases (n d : Int) : (∃ p q, lowV n d = .tuple #[.agg #[.int .i64 p, .int .i64 q], .bool true]) ∨ lowV n d = .tuple #[.agg #[.int .i64 0, .int .i64 0], .bool false] := by
  unfold lowV
  split
  · exact .inl ⟨_, _, rfl⟩
  · exact .inr rfl
theorem addRV_cases (a b c d : Int) : (∃ p q, addRV a b c d = .tuple #[.agg #[.int .i64 p, .int .i64 q], .bool true] ∧ vrB a b = true ∧ vrB c d = true ∧ vrB p q = true ∧ p * (b * d) = (a * d + c * b) * q) ∨ addRV a b c d = .tuple #[.agg #[.int .i64 0, .int .i64 0], .bool false] := by
  unfold addRV
  by_cases h : vrB a b = true ∧ vrB c d = true
  · rw [if_pos h]
    have v1 := vrB_iff.1 h.1
    have v2 := vrB_iff.1 h.2
    have hd : 1 ≤ b * d := Int.mul_pos (by have := v1.2.2.1; omega) (by have := v2.2.2.1; omega)
    rcases lowV_cases (a * d + c * b) (b * d) with ⟨p, q, e⟩ | e
    · obtain ⟨h1, h2⟩ := lowV_inv hd e
      exact .inl ⟨p, q, e, h.1, h.2, h1, h2⟩
    · exact .inr e
  · rw [if_neg h]; exact .inr rfl
theorem mulRV_cases (a b c d : Int) : (∃ p q, mulRV a b c d = .tuple #[.agg #[.int .i64 p, .int .i64 q], .bool true] ∧ vrB a b = true ∧ vrB c d = true ∧ vrB p q = true ∧ p * (b * d) = (a * c) * q) ∨ mulRV a b c d = .tuple #[.agg #[.int .i64 0, .int .i64 0], .bool false] := by
  unfold mulRV
  by_cases h : vrB a b = true ∧ vrB c d = true
  · rw [if_pos h]
    have v1 := vrB_iff.1 h.1
    have v2 := vrB_iff.1 h.2
    have hd : 1 ≤ b * d := Int.mul_pos (by have := v1.2.2.1; omega) (by have := v2.2.2.1; omega)
    rcases lowV_cases (a * c) (b * d) with ⟨p, q, e⟩ | e
    · obtain ⟨h1, h2⟩ := lowV_inv hd e
      exact .inl ⟨p, q, e, h.1, h.2, h1, h2⟩
    · exact .inr e
  · rw [if_neg h]; exact .inr rfl
theorem addRV_comm (a b c d : Int) : addRV c d a b = addRV a b c d := by
  unfold addRV
  rw [show c * b + a * d = a * d + c * b by omega, Int.mul_comm d b]
  by_cases h : vrB a b = true ∧ vrB c d = true
  · rw [if_pos h, if_pos ⟨h.2, h.1⟩]
  · rw [if_neg h, if_neg (fun k => h ⟨k.2, k.1⟩)]
theorem mulRV_comm (a b c d : Int) : mulRV c d a b = mulRV a b c d := by
  unfold mulRV
  rw [Int.mul_comm c a, Int.mul_comm d b]
  by_cases h : vrB a b = true ∧ vrB c d = true
  · rw [if_pos h, if_pos ⟨h.2, h.1⟩]
  · rw [if_neg h, if_neg (fun k => h ⟨k.2, k.1⟩)]
theorem vrB_neg {c d : Int} (h : vrB c d = true) : vrB (-c) d = true := by
  have v := vrB_iff.1 h
  rw [vrB_iff]
  exact ⟨by have := v.2.1; omega, by have := v.1; omega, v.2.2.1, v.2.2.2.1, by rw [Rt.g_neg]; exact v.2.2.2.2⟩
theorem add_back {a b c d p q : Int} (h1 : vrB a b = true) (h2 : vrB c d = true) (h3 : vrB p q = true) (hx : p * (b * d) = (a * d + c * b) * q) : addRV p q (-c) d = .tuple #[.agg #[.int .i64 a, .int .i64 b], .bool true] := by
  have v2 := vrB_iff.1 h2
  have v3 := vrB_iff.1 h3
  unfold addRV
  rw [if_pos ⟨h3, vrB_neg h2⟩]
  refine lowV_eq (Int.mul_pos (by have := v3.2.2.1; omega) (by have := v2.2.2.1; omega)) h1 ?_
  have e1 : p * d * b = p * (b * d) := by rw [Int.mul_assoc, Int.mul_comm d b]
  have e2 : (p * d + -c * q) * b = a * d * q := by
    rw [Int.add_mul, e1, hx, Int.add_mul, Int.neg_mul, Int.neg_mul, Int.mul_assoc c b q, Int.mul_comm b q, ← Int.mul_assoc]
    omega
  rw [e2, Int.mul_comm q d, ← Int.mul_assoc]
theorem mul_one' {a b : Int} (h : vrB a b = true) : mulRV a b 1 1 = .tuple #[.agg #[.int .i64 a, .int .i64 b], .bool true] := by
  have v := vrB_iff.1 h
  have h1 : vrB 1 1 = true := by decide
  unfold mulRV
  rw [if_pos ⟨h, h1⟩]
  exact lowV_eq (by have := v.2.2.1; omega) h (by rw [Int.mul_one, Int.mul_one])
theorem mul_cross {a b c d p q : Int} (hx : p * (b * d) = (a * c) * q) : p * b * d = a * c * q := by rw [Int.mul_assoc]; exact hx
/-- Products of a sum and sums of products. -/
theorem distribute {a b c d p q x1 x2 y1 y2 z1 z2 e f : Int} (hs : p * (b * d) = (a * d + c * b) * q) (hx : x1 * (q * f) = (p * e) * x2) (hy : y1 * (b * f) = (a * e) * y2) (hz : z1 * (d * f) = (c * e) * z2)
    (vb : 1 ≤ b) (vd : 1 ≤ d) (vq : 1 ≤ q) (vf : 1 ≤ f) (vx : vrB x1 x2 = true) (vy : 1 ≤ y2) (vz : 1 ≤ z2) : lowV (y1 * z2 + z1 * y2) (y2 * z2) = .tuple #[.agg #[.int .i64 x1, .int .i64 x2], .bool true] := by
  refine lowV_eq (Int.mul_pos (by omega) (by omega)) vx ?_
  have hne : b * d * f * q ≠ 0 := by
    have : 0 < b * d * f * q := Int.mul_pos (Int.mul_pos (Int.mul_pos (by omega) (by omega)) (by omega)) (by omega)
    omega
  apply Int.eq_of_mul_eq_mul_right hne
  -- both sides times b d f q
  have l1 : x1 * (y2 * z2) * (b * d * f * q) = (x1 * (q * f)) * (b * d) * (y2 * z2) := by ac_rfl
  have l2 : (p * e) * x2 * (b * d) * (y2 * z2) = (p * (b * d)) * (e * x2) * (y2 * z2) := by ac_rfl
  have r1 : (y1 * z2 + z1 * y2) * x2 * (b * d * f * q) = (y1 * (b * f)) * (z2 * d * q * x2) + (z1 * (d * f)) * (y2 * b * q * x2) := by
    rw [Int.add_mul, Int.add_mul]
    congr 1 <;> ac_rfl
  rw [l1, hx, l2, hs, r1, hy, hz]
  have s1 : (a * d + c * b) * q * (e * x2) * (y2 * z2) = a * d * q * (e * x2) * (y2 * z2) + c * b * q * (e * x2) * (y2 * z2) := by
    rw [Int.add_mul, Int.add_mul, Int.add_mul]
  rw [s1]
  congr 1 <;> ac_rfl
end Go.Proofs.Ytejhicnejjiaaaa
