/- Plain mathematics: fractions in lowest terms. -/
namespace Go.Proofs.YtkdooncfchmkfaaDoor
namespace Rt
def g (a b : Int) : Int := (Int.gcd a b : Int)
def ln (n d : Int) : Int := n / g n d
def ld (n d : Int) : Int := d / g n d
theorem g_pos {n d : Int} (h : 0 < d) : 0 < g n d := by
  unfold g
  have : Int.gcd n d ≠ 0 := by
    intro h0
    have := (Int.gcd_eq_zero_iff.1 h0).2
    omega
  omega
theorem g_le {n d : Int} (h : 0 < d) : g n d ≤ d := Int.le_of_dvd h (Int.gcd_dvd_right n d)
theorem g_dn (n d : Int) : g n d ∣ n := Int.gcd_dvd_left n d
theorem g_dd (n d : Int) : g n d ∣ d := Int.gcd_dvd_right n d
theorem ln_mul (n d : Int) : ln n d * g n d = n := Int.ediv_mul_cancel (g_dn n d)
theorem ld_mul (n d : Int) : ld n d * g n d = d := Int.ediv_mul_cancel (g_dd n d)
theorem ld_pos {n d : Int} (h : 0 < d) : 0 < ld n d := by
  have a := ld_mul n d
  have b := g_pos (n := n) h
  rcases Int.lt_trichotomy (ld n d) 0 with c | c | c
  · have := Int.mul_neg_of_neg_of_pos c b; omega
  · rw [c] at a; simp at a; omega
  · exact c
theorem ld_le {n d : Int} (h : 0 < d) : ld n d ≤ d := by
  have a := ld_mul n d
  have b := g_pos (n := n) h
  have c := ld_pos (n := n) h
  have := Int.mul_le_mul_of_nonneg_left (show 1 ≤ g n d by omega) (show 0 ≤ ld n d by omega)
  omega
theorem cross (n d : Int) : ln n d * d = n * ld n d := by
  have a := ln_mul n d
  have b := ld_mul n d
  calc ln n d * d = ln n d * (ld n d * g n d) := by rw [b]
    _ = (ln n d * g n d) * ld n d := by rw [Int.mul_comm (ld n d), Int.mul_assoc]
    _ = n * ld n d := by rw [a]
theorem gcd_lo {n d : Int} (h : 0 < d) : Int.gcd (ln n d) (ld n d) = 1 := by
  have hp := g_pos (n := n) h
  have hg : 0 < Int.gcd n d := by unfold g at hp; omega
  have key := Nat.coprime_div_gcd_div_gcd (m := n.natAbs) (n := d.natAbs) hg
  have e1 : (ln n d).natAbs = n.natAbs / Nat.gcd n.natAbs d.natAbs := by
    have := congrArg Int.natAbs (ln_mul n d)
    rw [Int.natAbs_mul] at this
    have e : (g n d).natAbs = Nat.gcd n.natAbs d.natAbs := by unfold g Int.gcd; simp
    rw [e] at this
    exact (Nat.div_eq_of_eq_mul_left hg this.symm).symm
  have e2 : (ld n d).natAbs = d.natAbs / Nat.gcd n.natAbs d.natAbs := by
    have := congrArg Int.natAbs (ld_mul n d)
    rw [Int.natAbs_mul] at this
    have e : (g n d).natAbs = Nat.gcd n.natAbs d.natAbs := by unfold g Int.gcd; simp
    rw [e] at this
    exact (Nat.div_eq_of_eq_mul_left hg this.symm).symm
  unfold Int.gcd
  rw [e1, e2]
  exact key
theorem eq_of_cross {a b c d : Int} (h1 : Int.gcd a b = 1) (hb : 0 < b) (h2 : Int.gcd c d = 1) (hd : 0 < d) (h : a * d = c * b) : a = c ∧ b = d := by
  have hn := congrArg Int.natAbs h
  rw [Int.natAbs_mul, Int.natAbs_mul] at hn
  have c1 : Nat.Coprime a.natAbs b.natAbs := h1
  have c2 : Nat.Coprime c.natAbs d.natAbs := h2
  have d1 : b.natAbs ∣ d.natAbs := c1.symm.dvd_of_dvd_mul_left (by rw [hn]; exact Nat.dvd_mul_left _ _)
  have d2 : d.natAbs ∣ b.natAbs := c2.symm.dvd_of_dvd_mul_left (by rw [← hn]; exact Nat.dvd_mul_left _ _)
  have e : b = d := by have := Nat.dvd_antisymm d1 d2; omega
  subst e
  exact ⟨Int.eq_of_mul_eq_mul_right (by omega) h, rfl⟩
/-- The lowest terms are the only ones. -/
theorem lo_uniq {n d a b : Int} (hd : 0 < d) (h1 : Int.gcd a b = 1) (hb : 0 < b) (h : a * d = n * b) : ln n d = a ∧ ld n d = b := by
  refine eq_of_cross (gcd_lo hd) (ld_pos hd) h1 hb ?_
  have c := cross n d
  apply Int.eq_of_mul_eq_mul_right (show d ≠ 0 by omega)
  calc ln n d * b * d = (ln n d * d) * b := by rw [Int.mul_assoc, Int.mul_comm b, ← Int.mul_assoc]
    _ = (n * b) * ld n d := by rw [c, Int.mul_assoc, Int.mul_comm (ld n d), ← Int.mul_assoc]
    _ = a * ld n d * d := by rw [← h, Int.mul_assoc, Int.mul_comm d, ← Int.mul_assoc]
theorem lo_same {a b : Int} (hb : 0 < b) (h1 : Int.gcd a b = 1) : ln a b = a ∧ ld a b = b := lo_uniq hb h1 hb rfl
theorem lo_congr {n d n' d' : Int} (hd : 0 < d) (hd' : 0 < d') (h : n * d' = n' * d) : ln n d = ln n' d' ∧ ld n d = ld n' d' := by
  refine lo_uniq hd (gcd_lo hd') (ld_pos hd') ?_
  have c := cross n' d'
  apply Int.eq_of_mul_eq_mul_right (show d' ≠ 0 by omega)
  calc ln n' d' * d * d' = (ln n' d' * d') * d := by rw [Int.mul_assoc, Int.mul_comm d, ← Int.mul_assoc]
    _ = n' * d * ld n' d' := by rw [c, Int.mul_assoc, Int.mul_comm (ld n' d'), ← Int.mul_assoc]
    _ = n * ld n' d' * d' := by rw [← h, Int.mul_assoc, Int.mul_comm d', ← Int.mul_assoc]
theorem ln_abs {n d : Int} (h : 0 < d) : -(n.natAbs : Int) ≤ ln n d ∧ ln n d ≤ n.natAbs := by
  have := congrArg Int.natAbs (ln_mul n d)
  rw [Int.natAbs_mul] at this
  have hp := g_pos (n := n) h
  have : (ln n d).natAbs ≤ n.natAbs := by rw [← this]; exact Nat.le_mul_of_pos_right _ (by omega)
  omega
theorem g_nat (x y : Nat) : g (x : Int) (y : Int) = ((Nat.gcd x y : Nat) : Int) := by unfold g; rw [Int.gcd_natCast_natCast]
theorem g_neg (a b : Int) : g (-a) b = g a b := by unfold g; rw [Int.neg_gcd]
theorem g_step {a b : Int} (ha : 0 < a) (hb : 0 ≤ b) : g (b % a) a = g a b := by
  obtain ⟨x, rfl⟩ := Int.eq_ofNat_of_zero_le (Int.le_of_lt ha)
  obtain ⟨y, rfl⟩ := Int.eq_ofNat_of_zero_le hb
  rw [← Int.natCast_emod, g_nat, g_nat, Nat.gcd_rec x y]
theorem g_step' {a b : Int} (ha : 0 ≤ a) (hb : 0 < b) : g b (a % b) = g a b := by
  obtain ⟨x, rfl⟩ := Int.eq_ofNat_of_zero_le ha
  obtain ⟨y, rfl⟩ := Int.eq_ofNat_of_zero_le (Int.le_of_lt hb)
  rw [← Int.natCast_emod, g_nat, g_nat, Nat.gcd_comm y (x % y), ← Nat.gcd_rec y x, Nat.gcd_comm]
theorem g_zero {b : Int} (hb : 0 ≤ b) : g 0 b = b := by
  obtain ⟨y, rfl⟩ := Int.eq_ofNat_of_zero_le hb
  have := g_nat 0 y
  simpa using this
theorem g_zero' {a : Int} (ha : 0 ≤ a) : g a 0 = a := by
  obtain ⟨y, rfl⟩ := Int.eq_ofNat_of_zero_le ha
  have := g_nat y 0
  simpa using this
theorem ln_tdiv (n d : Int) : n.tdiv (g n d) = ln n d := Int.tdiv_eq_ediv_of_dvd (g_dn n d)
/-- Valid ratios. -/
def vr (n d : Int) : Prop := -2000000 ≤ n ∧ n ≤ 2000000 ∧ 1 ≤ d ∧ d ≤ 2000000 ∧ g n d = 1
theorem vr_gcd {n d : Int} (h : vr n d) : Int.gcd n d = 1 := by have := h.2.2.2.2; unfold g at this; omega
theorem g_one {n d : Int} (h : Int.gcd n d = 1) : g n d = 1 := by unfold g; omega
/-- Rounded to the nearest number, halves up. -/
def near (a b : Int) : Int := (2 * a + b) / (2 * b)
end Rt
end Go.Proofs.YtkdooncfchmkfaaDoor
