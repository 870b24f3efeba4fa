/- The laws of the interest of loans. -/
import Derived.Test.YtipmaepkhmnhjaaDoorRpE
import Derived.Test.YtipmaepkhmnhjaaDoorKp
import Derived.Test.YtipmaepkhmnhjaaDoorYpD
namespace Go.Proofs.YtipmaepkhmnhjaaDoor
open Go.RowKit
theorem near_scale {a d g : Int} (hg : 0 < g) : Rt.near (a * g) (d * g) = Rt.near a d := by
  unfold Rt.near
  have e1 : 2 * (a * g) + d * g = (2 * a + d) * g := by rw [Int.add_mul, Int.mul_assoc]
  have e2 : 2 * (d * g) = (2 * d) * g := by rw [Int.mul_assoc]
  rw [e1, e2, Int.mul_ediv_mul_of_pos_left _ _ hg]
theorem intV_money {c r f t h : Int} (e : Rp.ok c r f t h = true) : intV c r 1 f t = Rt.near (c * r * (t - f)) 3600000 := by
  obtain ⟨c0, r0, s0, -⟩ := Rp.ok_iff.1 e
  have hs : spanB f t = true := spanB_iff.2 s0
  have h1 : btw c 0 100000000 = true := btw_iff.2 (by omega)
  have h2 : btw r 0 3000 = true := btw_iff.2 r0
  have hn : Yp.num 1 f t = t - f := by unfold Yp.num; simp
  have hd : Yp.den 1 = 360 := rfl
  have hv : intV c r 1 f t = Rt.near (c * r * Rt.ln (t - f) 360) (10000 * Rt.ld (t - f) 360) := by
    unfold intV
    rw [if_pos ⟨⟨by decide, hs⟩, h1, h2⟩, hn, hd]
  have hg : 0 < Rt.g (t - f) 360 := Rt.g_pos (by decide)
  rw [hv, ← near_scale hg, Int.mul_assoc (c * r), Rt.ln_mul, Int.mul_assoc 10000, Rt.ld_mul]; rfl
theorem Rp.grow {c r f t h : Int} (e : Rp.ok c r f t h = true) : Rp.int c r f (t + 1) h < 0 ∨ Rp.int c r f t h ≤ Rp.int c r f (t + 1) h := by
  cases e2 : Rp.ok c r f (t + 1) h with
  | false => rw [Rp.int_no e2]; omega
  | true =>
    right
    rw [Rp.int_yes e, Rp.int_yes e2, intV_money e, intV_money e2]
    obtain ⟨c0, r0, -, -⟩ := Rp.ok_iff.1 e
    exact near_mono (by decide) (Int.mul_le_mul_of_nonneg_left (by omega) (Int.mul_nonneg (by omega) r0.1))
theorem Rp.none {c r f t h : Int} (e : Rp.ok c r f t h = true) : Rp.int c r f f h = 0 := by
  obtain ⟨c0, r0, s0, g0⟩ := Rp.ok_iff.1 e
  obtain ⟨a0, a1, a2, a3⟩ := s0
  have e2 : Rp.ok c r f f h = true := Rp.ok_iff.2 ⟨c0, r0, ⟨a0, by omega, by omega, by omega⟩, g0⟩
  rw [Rp.int_yes e2, intV_money e2, Int.sub_self, Int.mul_zero]
  rfl
theorem Rp.int_bd (c r f t h : Int) : -1 ≤ Rp.int c r f t h ∧ Rp.int c r f t h ≤ 439200000000000000 := by
  cases e : Rp.ok c r f t h with
  | false => rw [Rp.int_no e]; omega
  | true => rw [Rp.int_yes e]; have := Rp.int_nn e; omega
set_option maxHeartbeats 4000000 in
theorem lawRepoInterest (a : Option Addr) (len cap : Nat) (zs : List Int) (w : World) (h : IsRow .u8 w a len cap zs) (hT : Tab w) :
    Calls Tryd.prog 11 #[.slice a len cap] w fun e w' => e = .returned (.bool true) ∧ Below w.heap.size w w' := by
  have H := Lib.hid h; clear h
  have HT := Lib.hid hT; clear hT
  by_cases hl : 1048576 < (len : Int)
  · go_enter Tryd.func11, Tryd.ntmps11
    go_wp2_with fail
    go_ret
    exact ⟨rfl, Below.refl _ _⟩
  · have hl' := decide_eq_false hl
    clear hl
    go_enter Tryd.func11, Tryd.ntmps11
    go_wp2_with fail
    refine (drawRI_any _ _ _ _ _ H.out).mono ?_
    rintro e w1 ⟨c, r, f, t, h, rfl, ⟨q0, q1, q2, q3, q4⟩, hb⟩
    have K1 := ((Kp.refl w).below hb).new 45 (rpA c r f t h)
    clear hb
    obtain ⟨x0, x1, x2, x3, x4⟩ := K1.first.rp
    have hbb : ∀ b : Int, (b != b) = false := fun b => by simp
    have hb1 := hbb (-1)
    have IM := Lib.hid (fun W hT => rpInt_any c r f t h W hT)
    have SM := Lib.hid (fun W => srpInt_any c r f t h W)
    cases hv : Rp.ok c r f t h with
    | false =>
      rw [Rp.int_no hv] at IM SM
      clear hv hbb
      go_wp2_with fail
      refine (IM.out _ (HT.out.below K1.1 HT.out.pos)).mono ?_
      rintro e w2 ⟨rfl, hb⟩
      have K2 := K1.below hb
      clear hb x0 x1 x2 x3 x4
      obtain ⟨x0, x1, x2, x3, x4⟩ := K2.first.rp
      go_wp2_with fail
      refine (SM.out _).mono ?_
      rintro e w3 ⟨rfl, hb⟩
      have K3 := K2.below hb
      clear hb x0 x1 x2 x3 x4
      obtain ⟨x0, x1, x2, x3, x4⟩ := K3.first.rp
      go_wp2_with fail
      refine (SM.out _).mono ?_
      rintro e w4 ⟨rfl, hb⟩
      have K4 := K3.below hb
      clear hb x0 x1 x2 x3 x4
      obtain ⟨x0, x1, x2, x3, x4⟩ := K4.first.rp
      go_wp2_with fail
      go_ret
      exact ⟨rfl, K4.1⟩
    | true =>
      have hg := Rp.grow hv
      have I2 := Lib.hid (fun W hT => rpInt_any c r f (t + 1) h W hT)
      have I3 := Lib.hid (fun W hT => rpInt_any c r f f h W hT)
      rw [Rp.none hv] at I3
      have hb2 := hbb (Rp.int c r f t h)
      obtain ⟨n0, n1⟩ := Rp.int_nn hv
      rw [← Rp.int_yes (h := h) hv] at n0 n1
      obtain ⟨m0, m1⟩ := Rp.int_bd c r f (t + 1) h
      generalize Rp.int c r f t h = n at *
      generalize Rp.int c r f (t + 1) h = m at *
      clear hv hbb
      rcases hg with hg | hg
      · go_wp2_with fail
        refine (IM.out _ (HT.out.below K1.1 HT.out.pos)).mono ?_
        rintro e w2 ⟨rfl, hb⟩
        have K2 := K1.below hb
        clear hb x0 x1 x2 x3 x4
        obtain ⟨x0, x1, x2, x3, x4⟩ := K2.first.rp
        go_wp2_with fail
        refine (SM.out _).mono ?_
        rintro e w3 ⟨rfl, hb⟩
        have K3 := K2.below hb
        clear hb x0 x1 x2 x3 x4
        obtain ⟨x0, x1, x2, x3, x4⟩ := K3.first.rp
        go_wp2_with fail
        refine (I2.out _ (HT.out.below K3.1 HT.out.pos)).mono ?_
        rintro e w4 ⟨rfl, hb⟩
        have K4 := K3.below hb
        clear hb x0 x1 x2 x3 x4
        obtain ⟨x0, x1, x2, x3, x4⟩ := K4.first.rp
        go_wp2_with fail
        refine (I3.out _ (HT.out.below K4.1 HT.out.pos)).mono ?_
        rintro e w5 ⟨rfl, hb⟩
        have K5 := K4.below hb
        clear hb x0 x1 x2 x3 x4
        go_wp2_with fail
        go_ret
        exact ⟨rfl, K5.1⟩
      · go_wp2_with fail
        refine (IM.out _ (HT.out.below K1.1 HT.out.pos)).mono ?_
        rintro e w2 ⟨rfl, hb⟩
        have K2 := K1.below hb
        clear hb x0 x1 x2 x3 x4
        obtain ⟨x0, x1, x2, x3, x4⟩ := K2.first.rp
        go_wp2_with fail
        refine (SM.out _).mono ?_
        rintro e w3 ⟨rfl, hb⟩
        have K3 := K2.below hb
        clear hb x0 x1 x2 x3 x4
        obtain ⟨x0, x1, x2, x3, x4⟩ := K3.first.rp
        go_wp2_with fail
        refine (I2.out _ (HT.out.below K3.1 HT.out.pos)).mono ?_
        rintro e w4 ⟨rfl, hb⟩
        have K4 := K3.below hb
        clear hb x0 x1 x2 x3 x4
        obtain ⟨x0, x1, x2, x3, x4⟩ := K4.first.rp
        go_wp2_with fail
        refine (I3.out _ (HT.out.below K4.1 HT.out.pos)).mono ?_
        rintro e w5 ⟨rfl, hb⟩
        have K5 := K4.below hb
        clear hb x0 x1 x2 x3 x4
        go_wp2_with fail
        go_ret
        exact ⟨rfl, K5.1⟩
end Go.Proofs.YtipmaepkhmnhjaaDoor