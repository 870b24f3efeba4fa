/- The laws of loans. -/
import Derived.Test.YtcakdjmmlcjkbaaRpE
import Derived.Test.YtcakdjmmlcjkbaaKp
namespace Go.Proofs.Ytcakdjmmlcjkbaa
open Go.RowKit
abbrev RpT (b : Nat) (c r f t h : Int) (b2 : Nat) (c2 : Int) (w : World) : Prop := w.cell? ⟨b2, 0, none⟩ = some (.int .i64 c2) ∧ w.cell? ⟨b, 0, none⟩ = some (.int .i64 c) ∧ w.cell? ⟨b, 1, none⟩ = some (.int .i64 r) ∧ w.cell? ⟨b, 2, none⟩ = some (.int .i64 f) ∧ w.cell? ⟨b, 3, none⟩ = some (.int .i64 t) ∧ w.cell? ⟨b, 4, none⟩ = some (.int .i64 h)
theorem rpT {w W : World} {l : List (Nat × TypeId × Array Value)} {b b2 : Nat} {c r f t h c2 r2 f2 t2 h2 : Int} {T T2 : TypeId} (k : Kp w ((b, T, rpA c r f t h) :: (b2, T2, rpA c2 r2 f2 t2 h2) :: l) W) : RpT b c r f t h b2 c2 W := ⟨k.second.rp.1, k.first.rp⟩

theorem Rp.ceil_mono {a d d' : Int} (hd : 1 ≤ d) (h : d ≤ d') (ha : 1 ≤ a) (hb : a ≤ 100000000000) : -((-a) / d') ≤ -((-a) / d) := by
  have h1 := Rp.ceil (a := a) hd
  have h2 := Rp.ceil (a := a) (show 1 ≤ d' by omega)
  have h3 := Rp.ceil_pos (a := a) hd ha hb
  generalize -((-a) / d) = q at *
  generalize -((-a) / d') = q' at *
  have m := Int.mul_le_mul_of_nonneg_left h (show 0 ≤ q by omega)
  rcases Int.lt_or_le q q' with c | c
  · have m2 := Int.mul_le_mul_of_nonneg_right (show q ≤ q' - 1 by omega) (show 0 ≤ d' by omega)
    omega
  · exact c
theorem Rp.prod_bd {n p h : Int} (n0 : 0 ≤ n) (n1 : n ≤ 100000000000) (p0 : 1 ≤ p) (p1 : p ≤ 50000) (h0 : 0 ≤ h) (h1 : h ≤ 500) : (0 ≤ n * p ∧ n * p ≤ 5000000000000000) ∧ (0 ≤ n * p * (1000 - h) ∧ n * p * (1000 - h) ≤ 5000000000000000000) := by
  have a := Int.mul_nonneg n0 (show 0 ≤ p by omega)
  have b := Int.mul_le_mul n1 p1 (by omega) (by omega)
  have c := Int.mul_nonneg a (show 0 ≤ 1000 - h by omega)
  have d := Int.mul_le_mul (show n * p ≤ 5000000000000000 by omega) (show 1000 - h ≤ 1000 by omega) (by omega) (by omega)
  omega
set_option maxHeartbeats 4000000 in
theorem lawPledgeFor (a : Option Addr) (len cap : Nat) (zs : List Int) (w : World) (h : IsRow .u8 w a len cap zs) :
    Calls Try.prog 3 #[.slice a len cap] w fun e w' => e = .returned (.bool true) ∧ Below w.heap.size w w' := by
  have H := Lib.hid h; clear h
  skip
  by_cases hl : 1048576 < (len : Int)
  · go_enter Try.func3, Try.ntmps3
    go_wp2_with fail
    go_ret
    exact ⟨rfl, Below.refl _ _⟩
  · have hl' := decide_eq_false hl
    clear hl
    go_enter Try.func3, Try.ntmps3
    go_wp2_with fail
    refine (drawPF_any _ _ _ _ _ H.out).mono ?_
    rintro e w1 ⟨c, r, f, t, h, n, rfl, ⟨q0, q1, q2, q3, q4⟩, n0, hb⟩
    have K1 := ((Kp.refl w).below hb).new 24 (rpA c r f t h)
    clear hb
    obtain ⟨x0, x1, x2, x3, x4⟩ := K1.first.rp
    have hbb : ∀ b : Int, (b != b) = false := fun b => by simp
    have hb1 := hbb (-1)
    by_cases hv : Rp.ok c r f t h = true ∧ btw n 1 50000 = true
    · skip
      have n1 := Rp.plg_nn hv.1 hv.2
      obtain ⟨-, n2⟩ := Rp.plg_bd (c := c) (r := r) (f := f) (t := t) (h := h) (p := n)
      obtain ⟨⟨c0, c1⟩, -, -, h0, h1⟩ := Rp.ok_iff.1 hv.1
      obtain ⟨p0, p1⟩ := btw_iff.1 hv.2
      have hd := Rp.den h0 h1 p0 p1
      have hc := Rp.ceil (a := 1000 * c) hd.1
      rw [← Rp.plg_yes hv.1 hv.2] at hc
      have hb2 := hbb (Rp.plg c r f t h n)
      have IM := Lib.hid (fun W => plg_any c r f t h n W)
      have SM := Lib.hid (fun W => splg_any c r f t h n W)
      generalize Rp.plg c r f t h n = k at *
      rw [← Int.mul_assoc, ← Int.mul_assoc] at hc
      obtain ⟨⟨a0, a1⟩, a2, a3⟩ := Rp.prod_bd (n := k) (by omega) n2 p0 p1 h0 h1
      obtain ⟨⟨b0, b1⟩, b2, b3⟩ := Rp.prod_bd (n := k - 1) (by omega) (by omega) p0 p1 h0 h1
      have W1 : IntKind.i64.wrap (k * n) = k * n := IntWalk.i64_in _ (by omega)
      have W2 : IntKind.i64.wrap (k * n * (1000 - h)) = k * n * (1000 - h) := IntWalk.i64_in _ (by omega)
      have W3 : IntKind.i64.wrap ((k - 1) * n) = (k - 1) * n := IntWalk.i64_in _ (by omega)
      have W4 : IntKind.i64.wrap ((k - 1) * n * (1000 - h)) = (k - 1) * n * (1000 - h) := IntWalk.i64_in _ (by omega)
      have d1 := decide_eq_true hc.1
      have d2 := decide_eq_true hc.2
      clear hc hbb hd
      go_wp2_with fail
      refine (IM.out _).mono ?_
      skip
      rintro e w2 ⟨rfl, hb⟩
      have K2 := K1.below hb
      clear hb x0 x1 x2 x3 x4
      obtain ⟨x0, x1, x2, x3, x4⟩ := K2.first.rp
      go_wp2_with fail
      refine (SM.out _).mono ?_
      skip
      rintro e w3 ⟨rfl, hb⟩
      have K3 := K2.below hb
      clear hb x0 x1 x2 x3 x4
      obtain ⟨x0, x1, x2, x3, x4⟩ := K3.first.rp
      go_wp2_with fail
      go_ret
      exact ⟨rfl, K3.1⟩
    · have hk : Rp.plg c r f t h n = -1 := if_neg hv
      have IM := Lib.hid (fun W => plg_any c r f t h n W)
      have SM := Lib.hid (fun W => splg_any c r f t h n W)
      rw [hk] at IM SM
      clear hk hv hbb
      go_wp2_with fail
      refine (IM.out _).mono ?_
      skip
      rintro e w2 ⟨rfl, hb⟩
      have K2 := K1.below hb
      clear hb x0 x1 x2 x3 x4
      obtain ⟨x0, x1, x2, x3, x4⟩ := K2.first.rp
      go_wp2_with fail
      refine (SM.out _).mono ?_
      skip
      rintro e w3 ⟨rfl, hb⟩
      have K3 := K2.below hb
      clear hb x0 x1 x2 x3 x4
      obtain ⟨x0, x1, x2, x3, x4⟩ := K3.first.rp
      go_wp2_with fail
      refine (SM.out _).mono ?_
      skip
      rintro e w4 ⟨rfl, hb⟩
      have K4 := K3.below hb
      clear hb x0 x1 x2 x3 x4
      obtain ⟨x0, x1, x2, x3, x4⟩ := K4.first.rp
      go_wp2_with fail
      go_ret
      exact ⟨rfl, K4.1⟩
set_option maxHeartbeats 4000000 in
theorem lawMarginCall (a : Option Addr) (len cap : Nat) (zs : List Int) (w : World) (h : IsRow .u8 w a len cap zs) :
    Calls Try.prog 5 #[.slice a len cap] w fun e w' => e = .returned (.bool true) ∧ Below w.heap.size w w' := by
  have H := Lib.hid h; clear h
  skip
  by_cases hl : 1048576 < (len : Int)
  · go_enter Try.func5, Try.ntmps5
    go_wp2_with fail
    go_ret
    exact ⟨rfl, Below.refl _ _⟩
  · have hl' := decide_eq_false hl
    clear hl
    go_enter Try.func5, Try.ntmps5
    go_wp2_with fail
    refine (drawMC_any _ _ _ _ _ H.out).mono ?_
    rintro e w1 ⟨c, r, f, t, h, n, m, rfl, ⟨q0, q1, q2, q3, q4⟩, n0, m0, hb⟩
    have K1 := ((Kp.refl w).below hb).new 24 (rpA c r f t h)
    clear hb
    obtain ⟨x0, x1, x2, x3, x4⟩ := K1.first.rp
    have hbb : ∀ b : Int, (b != b) = false := fun b => by simp
    have hb1 := hbb (-1)
    by_cases hv : (Rp.ok c r f t h = true ∧ btw n 1 50000 = true) ∧ btw m 0 1000000000 = true
    · skip
      obtain ⟨-, n2⟩ := Rp.plg_bd (c := c) (r := r) (f := f) (t := t) (h := h) (p := n)
      obtain ⟨m1, m2⟩ := btw_iff.1 hv.2
      have hk : Rp.mrg c r f t h n m = max (Rp.plg c r f t h n - m) 0 := if_pos hv
      have hk2 : ∀ u, m + Rp.mrg c r f t h n m = u → u ≤ 1000000000 → Rp.mrg c r f t h n u = 0 := fun u e1 e2 => by
        have : Rp.mrg c r f t h n u = max (Rp.plg c r f t h n - u) 0 := if_pos ⟨hv.1, btw_t (by omega) e2⟩
        rw [this, ← e1, hk]; omega
      have hb2 := hbb (Rp.mrg c r f t h n m)
      have IM := Lib.hid (fun u W => mrg_any c r f t h n u W)
      have IM1 := Lib.hid (fun W => mrg_any c r f t h n m W)
      have SM := Lib.hid (fun W => smrg_any c r f t h n m W)
      have PL := Lib.hid (fun W => plg_any c r f t h n W)
      generalize Rp.plg c r f t h n = q at *
      have hk3 : 0 ≤ Rp.mrg c r f t h n m ∧ Rp.mrg c r f t h n m ≤ 200000000000 ∧ (Rp.mrg c r f t h n m = 0 ∨ (Rp.mrg c r f t h n m ≠ 0 ∧ m + Rp.mrg c r f t h n m = q)) := by rw [hk]; omega
      have HK2 := Lib.hid hk2
      generalize Rp.mrg c r f t h n m = k at *
      obtain ⟨k0, k1, k2⟩ := hk3
      have e0 : (0 : Int) == 0 := rfl
      clear hk hk2 hbb
      by_cases hb3 : 1000000000 < m + k
      · go_wp2_with fail
        refine (IM1.out _).mono ?_
        skip
        rintro e w2 ⟨rfl, hb⟩
        have K2 := K1.below hb
        clear hb x0 x1 x2 x3 x4
        obtain ⟨x0, x1, x2, x3, x4⟩ := K2.first.rp
        go_wp2_with fail
        refine (SM.out _).mono ?_
        skip
        rintro e w3 ⟨rfl, hb⟩
        have K3 := K2.below hb
        clear hb x0 x1 x2 x3 x4
        obtain ⟨x0, x1, x2, x3, x4⟩ := K3.first.rp
        go_wp2_with fail
        go_ret
        exact ⟨rfl, K3.1⟩
      · have hz0 := fun W => IM.out (m + k) W
        rw [HK2.out (m + k) rfl (by omega)] at hz0
        have HZ := Lib.hid hz0
        clear hz0
        have hb3' := decide_eq_false hb3
        rcases k2 with k2 | ⟨k2, k3⟩
        · have k2' : (k == 0) = true := by simp [k2]
          clear k2
          go_wp2_with fail
          refine (IM1.out _).mono ?_
          skip
          rintro e w2 ⟨rfl, hb⟩
          have K2 := K1.below hb
          clear hb x0 x1 x2 x3 x4
          obtain ⟨x0, x1, x2, x3, x4⟩ := K2.first.rp
          go_wp2_with fail
          refine (SM.out _).mono ?_
          skip
          rintro e w3 ⟨rfl, hb⟩
          have K3 := K2.below hb
          clear hb x0 x1 x2 x3 x4
          obtain ⟨x0, x1, x2, x3, x4⟩ := K3.first.rp
          go_wp2_with fail
          refine (HZ.out _).mono ?_
          rintro e w4 ⟨rfl, hb⟩
          have K4 := K3.below hb
          clear hb x0 x1 x2 x3 x4
          go_wp2_with fail
          go_ret
          exact ⟨rfl, K4.1⟩
        · have k2' : (k == 0) = false := by simp [k2]
          have hmm : (m + k == q) = true := by simp [k3]
          clear k3 k2
          go_wp2_with fail
          refine (IM1.out _).mono ?_
          skip
          rintro e w2 ⟨rfl, hb⟩
          have K2 := K1.below hb
          clear hb x0 x1 x2 x3 x4
          obtain ⟨x0, x1, x2, x3, x4⟩ := K2.first.rp
          go_wp2_with fail
          refine (SM.out _).mono ?_
          skip
          rintro e w3 ⟨rfl, hb⟩
          have K3 := K2.below hb
          clear hb x0 x1 x2 x3 x4
          obtain ⟨x0, x1, x2, x3, x4⟩ := K3.first.rp
          go_wp2_with fail
          refine (HZ.out _).mono ?_
          skip
          rintro e w4 ⟨rfl, hb⟩
          have K4 := K3.below hb
          clear hb x0 x1 x2 x3 x4
          obtain ⟨x0, x1, x2, x3, x4⟩ := K4.first.rp
          go_wp2_with fail
          refine (PL.out _).mono ?_
          skip
          rintro e w5 ⟨rfl, hb⟩
          have K5 := K4.below hb
          clear hb x0 x1 x2 x3 x4
          obtain ⟨x0, x1, x2, x3, x4⟩ := K5.first.rp
          go_wp2_with fail
          go_ret
          exact ⟨rfl, K5.1⟩
    · have hk : Rp.mrg c r f t h n m = -1 := if_neg hv
      have IM := Lib.hid (fun W => mrg_any c r f t h n m W)
      have SM := Lib.hid (fun W => smrg_any c r f t h n m W)
      rw [hk] at IM SM
      clear hk hv hbb
      go_wp2_with fail
      refine (IM.out _).mono ?_
      skip
      rintro e w2 ⟨rfl, hb⟩
      have K2 := K1.below hb
      clear hb x0 x1 x2 x3 x4
      obtain ⟨x0, x1, x2, x3, x4⟩ := K2.first.rp
      go_wp2_with fail
      refine (SM.out _).mono ?_
      skip
      rintro e w3 ⟨rfl, hb⟩
      have K3 := K2.below hb
      clear hb x0 x1 x2 x3 x4
      obtain ⟨x0, x1, x2, x3, x4⟩ := K3.first.rp
      go_wp2_with fail
      refine (SM.out _).mono ?_
      skip
      rintro e w4 ⟨rfl, hb⟩
      have K4 := K3.below hb
      clear hb x0 x1 x2 x3 x4
      obtain ⟨x0, x1, x2, x3, x4⟩ := K4.first.rp
      go_wp2_with fail
      go_ret
      exact ⟨rfl, K4.1⟩
set_option maxHeartbeats 4000000 in
theorem lawPledgePrice (a : Option Addr) (len cap : Nat) (zs : List Int) (w : World) (h : IsRow .u8 w a len cap zs) :
    Calls Try.prog 4 #[.slice a len cap] w fun e w' => e = .returned (.bool true) ∧ Below w.heap.size w w' := by
  have H := Lib.hid h; clear h
  skip
  by_cases hl : 1048576 < (len : Int)
  · go_enter Try.func4, Try.ntmps4
    go_wp2_with fail
    go_ret
    exact ⟨rfl, Below.refl _ _⟩
  · have hl' := decide_eq_false hl
    clear hl
    go_enter Try.func4, Try.ntmps4
    go_wp2_with fail
    refine (drawPF_any _ _ _ _ _ H.out).mono ?_
    rintro e w1 ⟨c, r, f, t, h, n, rfl, ⟨q0, q1, q2, q3, q4⟩, n0, hb⟩
    have K1 := ((Kp.refl w).below hb).new 24 (rpA c r f t h)
    clear hb
    obtain ⟨x0, x1, x2, x3, x4⟩ := K1.first.rp
    have hbb : ∀ b : Int, (b != b) = false := fun b => by simp
    have hb1 := hbb (-1)
    by_cases hv : Rp.ok c r f t h = true ∧ btw n 1 50000 = true
    · skip
      have n1 := Rp.plg_nn hv.1 hv.2
      obtain ⟨-, n2⟩ := Rp.plg_bd (c := c) (r := r) (f := f) (t := t) (h := h) (p := n)
      obtain ⟨c0, r0, s0, h0⟩ := Rp.ok_iff.1 hv.1
      obtain ⟨p0, p1⟩ := btw_iff.1 hv.2
      have hd := Rp.den h0.1 h0.2 p0 p1
      obtain ⟨u, hu⟩ : ∃ u, u = min (n + 1) 50000 := ⟨_, rfl⟩
      obtain ⟨v, hv'⟩ : ∃ v, v = min (h + 1) 500 := ⟨_, rfl⟩
      have fmin1 : ∀ W : World, (Builtin.min_ #[3, 3] 3 #[.int .i64 (n + 1), .int .i64 50000]).run Try.prog W = .ok (.int .i64 u) W := fun W => by rw [hu]; exact run_min2' _ _ _ _ W
      have fmin2 : ∀ W : World, (Builtin.min_ #[3, 3] 3 #[.int .i64 (h + 1), .int .i64 500]).run Try.prog W = .ok (.int .i64 v) W := fun W => by rw [hv']; exact run_min2' _ _ _ _ W
      have v1 : Rp.ok c r f t v = true := Rp.ok_iff.2 ⟨c0, r0, s0, by omega⟩
      have u1 : btw u 1 50000 = true := btw_t (by omega) (by omega)
      have hm1 : Rp.plg c r f t h u ≤ Rp.plg c r f t h n := by
        rw [Rp.plg_yes hv.1 u1, Rp.plg_yes hv.1 hv.2]
        exact Rp.ceil_mono hd.1 (Int.mul_le_mul_of_nonneg_right (by omega) (by omega)) (by omega) (by omega)
      have hm2 : Rp.plg c r f t h n ≤ Rp.plg c r f t v n := by
        rw [Rp.plg_yes v1 hv.2, Rp.plg_yes hv.1 hv.2]
        exact Rp.ceil_mono (Rp.den (h := v) (by omega) (by omega) p0 p1).1 (Int.mul_le_mul_of_nonneg_left (by omega) (by omega)) (by omega) (by omega)
      have hb2 := hbb (Rp.plg c r f t h n)
      have IM := Lib.hid (fun W => plg_any c r f t h n W)
      have SM := Lib.hid (fun W => splg_any c r f t h n W)
      have I2 := Lib.hid (fun W => plg_any c r f t h u W)
      have I3 := Lib.hid (fun W => plg_any c r f t v n W)
      generalize Rp.plg c r f t h n = k at *
      generalize Rp.plg c r f t h u = k2 at *
      generalize Rp.plg c r f t v n = k3 at *
      clear hu hv' hbb hd u1 v1
      go_wp2_with fail
      refine (IM.out _).mono ?_
      skip
      rintro e w2 ⟨rfl, hb⟩
      have K2 := K1.below hb
      clear hb x0 x1 x2 x3 x4
      obtain ⟨x0, x1, x2, x3, x4⟩ := K2.first.rp
      go_wp2_with fail
      refine (SM.out _).mono ?_
      skip
      rintro e w3 ⟨rfl, hb⟩
      have K3 := K2.below hb
      clear hb x0 x1 x2 x3 x4
      obtain ⟨x0, x1, x2, x3, x4⟩ := K3.first.rp
      go_wp2_with fail
      refine (I2.out _).mono ?_
      skip
      rintro e w4 ⟨rfl, hb⟩
      have K4 := K3.below hb
      clear hb x0 x1 x2 x3 x4
      obtain ⟨x0, x1, x2, x3, x4⟩ := K4.first.rp
      go_wp2_with fail
      refine (I3.out _).mono ?_
      rintro e w5 ⟨rfl, hb⟩
      have K5 := K4.below hb
      clear hb x0 x1 x2 x3 x4
      go_wp2_with fail
      go_ret
      exact ⟨rfl, K5.1⟩
    · have hk : Rp.plg c r f t h n = -1 := if_neg hv
      have IM := Lib.hid (fun W => plg_any c r f t h n W)
      have SM := Lib.hid (fun W => splg_any c r f t h n W)
      rw [hk] at IM SM
      clear hk hv hbb
      go_wp2_with fail
      refine (IM.out _).mono ?_
      skip
      rintro e w2 ⟨rfl, hb⟩
      have K2 := K1.below hb
      clear hb x0 x1 x2 x3 x4
      obtain ⟨x0, x1, x2, x3, x4⟩ := K2.first.rp
      go_wp2_with fail
      refine (SM.out _).mono ?_
      skip
      rintro e w3 ⟨rfl, hb⟩
      have K3 := K2.below hb
      clear hb x0 x1 x2 x3 x4
      obtain ⟨x0, x1, x2, x3, x4⟩ := K3.first.rp
      go_wp2_with fail
      refine (SM.out _).mono ?_
      skip
      rintro e w4 ⟨rfl, hb⟩
      have K4 := K3.below hb
      clear hb x0 x1 x2 x3 x4
      obtain ⟨x0, x1, x2, x3, x4⟩ := K4.first.rp
      go_wp2_with fail
      go_ret
      exact ⟨rfl, K4.1⟩
end Go.Proofs.Ytcakdjmmlcjkbaa