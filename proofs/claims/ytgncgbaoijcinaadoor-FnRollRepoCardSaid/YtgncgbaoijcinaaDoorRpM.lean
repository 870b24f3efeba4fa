/- The laws of the interest of loans. -/
import Derived.Test.YtgncgbaoijcinaaDoorRpE
import Derived.Test.YtgncgbaoijcinaaDoorKp
import Derived.Test.YtgncgbaoijcinaaDoorYpD
namespace Go.Proofs.YtgncgbaoijcinaaDoor
open Go.RowKit
theorem near_scale {a d g : Int} (hg : 0 < g) : Rt.near (a * g) (d * g) = Rt.near a d := by
  unfold Rt.near
  have e1 : 2 * (a * g) + d * g = (2 * a + d) * g := by rw [Int.add_mul, Int.mul_assoc]
  have e2 : 2 * (d * g) = (2 * d) * g := by rw [Int.mul_assoc]
  rw [e1, e2, Int.mul_ediv_mul_of_pos_left _ _ hg]
theorem intV_money {c r f t h : Int} (e : Rp.ok c r f t h = true) : intV c r 1 f t = Rt.near (c * r * (t - f)) 3600000 := by
  obtain ⟨c0, r0, s0, -⟩ := Rp.ok_iff.1 e
  have hs : spanB f t = true := spanB_iff.2 s0
  have h1 : btw c 0 100000000 = true := btw_iff.2 (by omega)
  have h2 : btw r 0 3000 = true := btw_iff.2 r0
  have hn : Yp.num 1 f t = t - f := by unfold Yp.num; simp
  have hd : Yp.den 1 = 360 := rfl
  have hv : intV c r 1 f t = Rt.near (c * r * Rt.ln (t - f) 360) (10000 * Rt.ld (t - f) 360) := by
    unfold intV
    rw [if_pos ⟨⟨by decide, hs⟩, h1, h2⟩, hn, hd]
  have hg : 0 < Rt.g (t - f) 360 := Rt.g_pos (by decide)
  rw [hv, ← near_scale hg, Int.mul_assoc (c * r), Rt.ln_mul, Int.mul_assoc 10000, Rt.ld_mul]; rfl
theorem Rp.grow {c r f t h : Int} (e : Rp.ok c r f t h = true) : Rp.int c r f (t + 1) h < 0 ∨ Rp.int c r f t h ≤ Rp.int c r f (t + 1) h := by
  cases e2 : Rp.ok c r f (t + 1) h with
  | false => rw [Rp.int_no e2]; omega
  | true =>
    right
    rw [Rp.int_yes e, Rp.int_yes e2, intV_money e, intV_money e2]
    obtain ⟨c0, r0, -, -⟩ := Rp.ok_iff.1 e
    exact near_mono (by decide) (Int.mul_le_mul_of_nonneg_left (by omega) (Int.mul_nonneg (by omega) r0.1))
theorem Rp.none {c r f t h : Int} (e : Rp.ok c r f t h = true) : Rp.int c r f f h = 0 := by
  obtain ⟨c0, r0, s0, g0⟩ := Rp.ok_iff.1 e
  obtain ⟨a0, a1, a2, a3⟩ := s0
  have e2 : Rp.ok c r f f h = true := Rp.ok_iff.2 ⟨c0, r0, ⟨a0, by omega, by omega, by omega⟩, g0⟩
  rw [Rp.int_yes e2, intV_money e2, Int.sub_self, Int.mul_zero]
  rfl
theorem Rp.int_bd (c r f t h : Int) : -1 ≤ Rp.int c r f t h ∧ Rp.int c r f t h ≤ 439200000000000000 := by
  cases e : Rp.ok c r f t h with
  | false => rw [Rp.int_no e]; omega
  | true => rw [Rp.int_yes e]; have := Rp.int_nn e; omega
end Go.Proofs.YtgncgbaoijcinaaDoor