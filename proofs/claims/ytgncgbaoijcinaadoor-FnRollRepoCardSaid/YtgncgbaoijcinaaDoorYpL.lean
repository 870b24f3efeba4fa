/- The model's parts of years and interest. -/
import Derived.Test.YtgncgbaoijcinaaDoorYpK
namespace Go.Proofs.YtgncgbaoijcinaaDoor
open Go.RowKit
set_option maxHeartbeats 1000000 in
theorem sYp_any (k x y : Int) (w : World) (hk : btw k 0 3 = true) (hs : spanB x y = true) :
    Calls Tryd.prog 27 #[.int .i64 k, .int .i64 x, .int .i64 y] w fun e w' => e = .returned (.agg #[.int .i64 (Rt.ln (Yp.num k x y) (Yp.den k)), .int .i64 (Rt.ld (Yp.num k x y) (Yp.den k))]) ∧ Below w.heap.size w w' := by
  obtain ⟨x0, xy, y1, y2⟩ := spanB_iff.1 hs
  have kb := btw_iff.1 hk
  have hk' : k = 0 ∨ k = 1 ∨ k = 2 ∨ k = 3 := by omega
  have kR := Blk.new w #[.int .i64 0, .int .i64 0] 47
  have hbA := (Below.refl w.heap.size w).alloc (Nat.le_refl _) (.cells #[.int .i64 0, .int .i64 0] 47)
  clear hk kb hs
  rcases hk' with rfl | rfl | rfl | rfl
  · have HN := Lib.hid (show Yp.num 0 x y = y - x by unfold Yp.num; simp)
    have HD := Lib.hid (show Yp.den 0 = 365 from rfl)
    go_enter Tryd.func27, Tryd.ntmps27
    go_wp2_with fail
    refine (sLowest_any _ _ _ (by omega) (by omega) (by omega) (by omega)).mono ?_
    rintro e w2 ⟨rfl, hb2⟩
    replace kR := kR.below hb2 kR.lt
    replace hbA := hbA.trans (hb2.mono hbA.size)
    clear hb2
    obtain ⟨⟨r0, r1⟩, f0, f1⟩ := kR.two
    go_wp2_with fail
    refine bodyPost_ret (v := .agg #[.int .i64 (Rt.ln (y - x) 365), .int .i64 (Rt.ld (y - x) 365)]) (by simp [results, Tryd.results27, go_sem, r0, r1]) rfl ⟨by rw [HN.out, HD.out], ?_⟩
    exact (hbA.setCell (by simp) _).setCell (by simp) _
  · have HN := Lib.hid (show Yp.num 1 x y = y - x by unfold Yp.num; simp)
    have HD := Lib.hid (show Yp.den 1 = 360 from rfl)
    go_enter Tryd.func27, Tryd.ntmps27
    go_wp2_with fail
    refine (sLowest_any _ _ _ (by omega) (by omega) (by omega) (by omega)).mono ?_
    rintro e w2 ⟨rfl, hb2⟩
    replace kR := kR.below hb2 kR.lt
    replace hbA := hbA.trans (hb2.mono hbA.size)
    clear hb2
    obtain ⟨⟨r0, r1⟩, f0, f1⟩ := kR.two
    go_wp2_with fail
    refine bodyPost_ret (v := .agg #[.int .i64 (Rt.ln (y - x) 360), .int .i64 (Rt.ld (y - x) 360)]) (by simp [results, Tryd.results27, go_sem, r0, r1]) rfl ⟨by rw [HN.out, HD.out], ?_⟩
    exact (hbA.setCell (by simp) _).setCell (by simp) _
  · have HN := Lib.hid (show Yp.num 2 x y = Yp.thirty x y by unfold Yp.num; simp)
    have HD := Lib.hid (show Yp.den 2 = 360 from rfl)
    obtain ⟨t0, t1⟩ := Yp.thirty_bd x0 xy y1
    go_enter Tryd.func27, Tryd.ntmps27
    go_wp2_with fail
    refine (sDateOf_any _ _ x0 (by omega)).mono ?_
    rintro e w2 ⟨rfl, hb2⟩
    replace kR := kR.below hb2 kR.lt
    replace hbA := hbA.trans (hb2.mono hbA.size)
    clear hb2
    go_wp2_with fail
    refine (sDateOf_any _ _ (by omega) (by omega)).mono ?_
    rintro e w3 ⟨rfl, hb2⟩
    replace kR := kR.below hb2 kR.lt
    replace hbA := hbA.trans (hb2.mono hbA.size)
    clear hb2
    go_wp2_with fail
    refine (sThirty_any _ _ _ x0 xy y1).mono ?_
    rintro e w4 ⟨rfl, hb2⟩
    replace kR := kR.below hb2 kR.lt
    replace hbA := hbA.trans (hb2.mono hbA.size)
    clear hb2
    go_wp2_with fail
    refine (sLowest_any _ _ _ (by omega) (by omega) (by omega) (by omega)).mono ?_
    rintro e w5 ⟨rfl, hb2⟩
    replace kR := kR.below hb2 kR.lt
    replace hbA := hbA.trans (hb2.mono hbA.size)
    clear hb2
    obtain ⟨⟨r0, r1⟩, f0, f1⟩ := kR.two
    go_wp2_with fail
    refine bodyPost_ret (v := .agg #[.int .i64 (Rt.ln (Yp.thirty x y) 360), .int .i64 (Rt.ld (Yp.thirty x y) 360)]) (by simp [results, Tryd.results27, go_sem, r0, r1]) rfl ⟨by rw [HN.out, HD.out], ?_⟩
    exact (hbA.setCell (by simp) _).setCell (by simp) _
  · have HN := Lib.hid (show Yp.num 3 x y = 365 * (Yp.L y - Yp.L x) + 366 * (y - x - (Yp.L y - Yp.L x)) by unfold Yp.num; simp)
    have HD := Lib.hid (show Yp.den 3 = 133590 from rfl)
    obtain ⟨l0, l1⟩ := Yp.L_bd x0 xy
    go_enter Tryd.func27, Tryd.ntmps27
    go_wp2_with fail
    refine (sActual_any _ _ _ x0 xy y1).mono ?_
    rintro e w2 ⟨rfl, hb2⟩
    replace kR := kR.below hb2 kR.lt
    replace hbA := hbA.trans (hb2.mono hbA.size)
    clear hb2
    go_wp2_with fail
    refine (sLowest_any _ _ _ (by omega) (by omega) (by omega) (by omega)).mono ?_
    rintro e w5 ⟨rfl, hb2⟩
    replace kR := kR.below hb2 kR.lt
    replace hbA := hbA.trans (hb2.mono hbA.size)
    clear hb2
    obtain ⟨⟨r0, r1⟩, f0, f1⟩ := kR.two
    go_wp2_with fail
    refine bodyPost_ret (v := .agg #[.int .i64 (Rt.ln (365 * (Yp.L y - Yp.L x) + 366 * (y - x - (Yp.L y - Yp.L x))) 133590), .int .i64 (Rt.ld (365 * (Yp.L y - Yp.L x) + 366 * (y - x - (Yp.L y - Yp.L x))) 133590)]) (by simp [results, Tryd.results27, go_sem, r0, r1]) rfl ⟨by rw [HN.out, HD.out], ?_⟩
    exact (hbA.setCell (by simp) _).setCell (by simp) _
set_option maxHeartbeats 1000000 in
theorem sInterest_any (a r k x y : Int) (w : World) :
    Calls Tryd.prog 22 #[.int .i64 a, .int .i64 r, .int .i64 k, .int .i64 x, .int .i64 y] w fun e w' => e = .returned (.int .i64 (intV a r k x y)) ∧ Below w.heap.size w w' := by
  have hp := validPart_any k x y
  cases h1 : btw a 0 100000000 with
  | false =>
    have C1 := Lib.hid (inRC h1)
    have E1 := Lib.hid (show intV a r k x y = -1 by unfold intV; rw [if_neg (by simp [h1])])
    clear h1 hp
    go_enter Tryd.func22, Tryd.ntmps22
    go_wp2_with fail
    refine (C1.out _).mono ?_
    rintro e w2 ⟨rfl, rfl⟩
    go_wp2_with fail
    go_ret
    exact ⟨ret_int E1.out.symm, Below.refl _ _⟩
  | true =>
    have C1 := Lib.hid (inRC h1)
    cases h2 : btw r 0 3000 with
    | false =>
      have C2 := Lib.hid (inRC h2)
      have E1 := Lib.hid (show intV a r k x y = -1 by unfold intV; rw [if_neg (by simp [h2])])
      clear h1 h2 hp
      go_enter Tryd.func22, Tryd.ntmps22
      go_wp2_with fail
      refine (C1.out _).mono ?_
      rintro e w2 ⟨rfl, rfl⟩
      go_wp2_with fail
      refine (C2.out _).mono ?_
      rintro e w2 ⟨rfl, rfl⟩
      go_wp2_with fail
      go_ret
      exact ⟨ret_int E1.out.symm, Below.refl _ _⟩
    | true =>
      have C2 := Lib.hid (inRC h2)
      cases hv : (btw k 0 3 && spanB x y) with
      | false =>
        rw [hv] at hp
        have HP := Lib.hid hp
        have E1 := Lib.hid (show intV a r k x y = -1 by unfold intV; rw [if_neg (fun q => by rw [q.1.1, q.1.2] at hv; cases hv)])
        clear h1 h2 hp hv
        go_enter Tryd.func22, Tryd.ntmps22
        go_wp2_with fail
        refine (C1.out _).mono ?_
        rintro e w2 ⟨rfl, rfl⟩
        go_wp2_with fail
        refine (C2.out _).mono ?_
        rintro e w2 ⟨rfl, rfl⟩
        go_wp2_with fail
        refine (HP.out _).mono ?_
        rintro e w2 ⟨rfl, rfl⟩
        go_wp2_with fail
        go_ret
        exact ⟨ret_int E1.out.symm, Below.refl _ _⟩
      | true =>
        rw [hv] at hp
        have HP := Lib.hid hp
        have hv2 : btw k 0 3 = true ∧ spanB x y = true := by simpa using hv
        have hY := sYp_any k x y
        obtain ⟨⟨p0, p1⟩, q0, q1⟩ := yp_bd (k := k) hv2.2
        have hI : ∀ p q : Int, Rt.ln (Yp.num k x y) (Yp.den k) = p → Rt.ld (Yp.num k x y) (Yp.den k) = q → intV a r k x y = Rt.near (a * r * p) (10000 * q) := by
          rintro p q rfl rfl
          unfold intV
          rw [if_pos ⟨hv2, h1, h2⟩]
        generalize Rt.ln (Yp.num k x y) (Yp.den k) = p at *
        generalize Rt.ld (Yp.num k x y) (Yp.den k) = q at *
        have E1 := Lib.hid (hI p q rfl rfl)
        have HY := Lib.hid (fun W => hY W hv2.1 hv2.2)
        obtain ⟨⟨m0, m1⟩, m2, m3⟩ := ar_bd h1 h2 p0 p1
        obtain ⟨a0, a1⟩ := btw_iff.1 h1
        obtain ⟨r0, r1⟩ := btw_iff.1 h2
        clear h1 h2 hp hv hv2 hY hI
        go_enter Tryd.func22, Tryd.ntmps22
        go_wp2_with fail
        refine (C1.out _).mono ?_
        rintro e w2 ⟨rfl, rfl⟩
        go_wp2_with fail
        refine (C2.out _).mono ?_
        rintro e w2 ⟨rfl, rfl⟩
        go_wp2_with fail
        refine (HP.out _).mono ?_
        rintro e w2 ⟨rfl, rfl⟩
        go_wp2_with fail
        refine (HY.out _).mono ?_
        rintro e w1 ⟨rfl, hb1⟩
        have kP := Blk.new w1 #[.int .i64 p, .int .i64 q] 47
        obtain ⟨⟨x0, x1⟩, _⟩ := kP.two
        clear kP
        go_wp2_with fail
        refine (sNearest_any _ _ _ (by omega) (by omega) (by omega) (by omega)).mono ?_
        rintro e w2 ⟨rfl, rfl⟩
        go_wp2_with fail
        go_ret
        exact ⟨ret_int E1.out.symm, hb1.alloc hb1.size _⟩
end Go.Proofs.YtgncgbaoijcinaaDoor
