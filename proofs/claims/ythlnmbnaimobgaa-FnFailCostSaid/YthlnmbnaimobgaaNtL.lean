/- The law of the costs of late settlement. -/
import Derived.Test.YthlnmbnaimobgaaNtD
namespace Go.Proofs.Ythlnmbnaimobgaa
open Go.RowKit
theorem ceilQ_mono {a b : Int} (h : a ≤ b) : -((-a) / 3600000) ≤ -((-b) / 3600000) := by omega
theorem Nt.cost_facts {p : Tri} {d r : Int} (h0 : Nt.one p = true) (h1 : btw d 0 30 = true) (h2 : btw r 0 3000 = true) :
    (0 ≤ Nt.cost p d r ∧ Nt.cost p d r ≤ 44995500000000) ∧ Nt.cost p 0 r = 0 ∧ Nt.cost p d 0 = 0 ∧ Nt.cost p d r ≤ Nt.cost p (min (d + 1) 30) r := by
  obtain ⟨a, m, c⟩ := p
  obtain ⟨-, ⟨m0, m1⟩, c0, c1⟩ := Nt.one_iff.1 h0
  obtain ⟨d0, d1⟩ := btw_iff.1 h1
  obtain ⟨r0, r1⟩ := btw_iff.1 h2
  obtain ⟨⟨q0, q1⟩, -, s0, s1⟩ := Nt.cost_bd m0 m1 c0 c1 d0 d1 r0 r1
  refine ⟨?_, ?_, ?_, ?_⟩
  · rw [Nt.yes h0 h1 h2]
    simp only
    omega
  · rw [Nt.yes h0 (btw_t (by omega) (by omega)) h2]
    simp
  · rw [Nt.yes h0 h1 (btw_t (by omega) (by omega))]
    simp
  · rw [Nt.yes h0 h1 h2, Nt.yes h0 (btw_t (by omega) (by omega)) h2]
    refine ceilQ_mono ?_
    simp only
    exact Int.mul_le_mul_of_nonneg_right (Int.mul_le_mul_of_nonneg_left (by omega) (by omega)) r0
set_option maxRecDepth 8000 in
set_option maxHeartbeats 4000000 in
theorem lawFailCost (a : Option Addr) (len cap : Nat) (zs : List Int) (w : World) (h : IsRow .u8 w a len cap zs) :
    Calls Try.prog 7 #[.slice a len cap] w fun e w' => e = .returned (.bool true) ∧ Below w.heap.size w w' := by
  have H := Lib.hid h; clear h
  by_cases hl : 1048576 < (len : Int)
  · go_enter Try.func7, Try.ntmps7
    go_wp2_with fail
    go_ret
    exact ⟨rfl, Below.refl _ _⟩
  · have hl' := decide_eq_false hl
    clear hl
    go_enter Try.func7, Try.ntmps7
    go_wp2_with fail
    refine (drawFC_any _ _ _ _ _ H.out).mono ?_
    rintro e w1 ⟨d, m, c, x, r, rfl, ⟨x0, x1⟩, ⟨r0, r1⟩, hb⟩
    have K1 := ((Kp.refl w).below hb).new 30 (triA (d, m, c))
    clear hb
    obtain ⟨⟨y0, y1, y2⟩, -⟩ := K1.first.three
    have hbb : ∀ b : Int, (b != b) = false := fun b => by simp
    have hbq : ∀ b : Int, (b == b) = true := fun b => by simp
    have IM := Lib.hid (fun y q W => fail_any (d, m, c) y q W)
    have SM := Lib.hid (fun W => sfail_any (d, m, c) x r W)
    by_cases hv : Nt.one (d, m, c) = true ∧ btw x 0 30 = true ∧ btw r 0 3000 = true
    · obtain ⟨⟨n0, n1⟩, z0, z1, mo⟩ := Nt.cost_facts hv.1 hv.2.1 hv.2.2
      have Z0 := Lib.hid z0
      have Z1 := Lib.hid z1
      have e1 := hbb (Nt.cost (d, m, c) x r)
      obtain ⟨u0, u1⟩ := btw_iff.1 hv.2.1
      obtain ⟨t, ht⟩ : ∃ t, t = min (x + 1) 30 := ⟨_, rfl⟩
      have fmin : ∀ W : World, (Builtin.min_ #[3, 3] 3 #[.int .i64 (x + 1), .int .i64 30]).run Try.prog W = .ok (.int .i64 t) W := fun W => by rw [ht]; exact run_min2' _ _ _ _ W
      rw [← ht] at mo
      generalize hN : Nt.cost (d, m, c) x r = n at *
      generalize hM : Nt.cost (d, m, c) t r = k at *
      have HN := Lib.hid hN
      have HM := Lib.hid hM
      have hnl : ¬ n < 0 := by omega
      clear hv z0 z1 hbb hbq hN hM ht
      go_wp2_with fail
      refine (IM.out _ _ _).mono ?_
      rw [HN.out]
      rintro e w2 ⟨rfl, hb⟩
      have K2 := K1.below hb
      clear hb y0 y1 y2
      obtain ⟨⟨y0, y1, y2⟩, -⟩ := K2.first.three
      go_wp2_with fail
      refine (SM.out _).mono ?_
      rintro e w3 ⟨rfl, hb⟩
      have K3 := K2.below hb
      clear hb y0 y1 y2
      obtain ⟨⟨y0, y1, y2⟩, -⟩ := K3.first.three
      go_wp2_with fail
      refine (IM.out _ _ _).mono ?_
      rw [HM.out]
      rintro e w4 ⟨rfl, hb⟩
      have K4 := K3.below hb
      clear hb y0 y1 y2
      obtain ⟨⟨y0, y1, y2⟩, -⟩ := K4.first.three
      go_wp2_with fail
      refine (IM.out _ _ _).mono ?_
      rw [Z0.out]
      rintro e w5 ⟨rfl, hb⟩
      have K5 := K4.below hb
      clear hb y0 y1 y2
      obtain ⟨⟨y0, y1, y2⟩, -⟩ := K5.first.three
      go_wp2_with fail
      refine (IM.out _ _ _).mono ?_
      rw [Z1.out]
      rintro e w6 ⟨rfl, hb⟩
      have K6 := K5.below hb
      clear hb y0 y1 y2
      go_wp2_with fail
      go_ret
      exact ⟨rfl, K6.1⟩
    · have hk : Nt.cost (d, m, c) x r = -1 := if_neg hv
      have HK := Lib.hid hk
      have e1 := hbb (-1)
      clear hk hv hbb hbq
      go_wp2_with fail
      refine (IM.out _ _ _).mono ?_
      rw [HK.out]
      rintro e w2 ⟨rfl, hb⟩
      have K2 := K1.below hb
      clear hb y0 y1 y2
      obtain ⟨⟨y0, y1, y2⟩, -⟩ := K2.first.three
      go_wp2_with fail
      refine (SM.out _).mono ?_
      rw [HK.out]
      rintro e w3 ⟨rfl, hb⟩
      have K3 := K2.below hb
      clear hb y0 y1 y2
      obtain ⟨⟨y0, y1, y2⟩, -⟩ := K3.first.three
      go_wp2_with fail
      refine (SM.out _).mono ?_
      rw [HK.out]
      rintro e w4 ⟨rfl, hb⟩
      have K4 := K3.below hb
      go_wp2_with fail
      go_ret
      exact ⟨rfl, K4.1⟩
end Go.Proofs.Ythlnmbnaimobgaa
