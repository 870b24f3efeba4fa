/- Risks: both sides. -/
import Derived.Test.YtkdooncfchmkfaaDoorYdS
namespace Go.Proofs.YtkdooncfchmkfaaDoor
open Go.RowKit
/-- How much the value falls. -/
noncomputable def Rk.val (s e m r d y : Int) : Int × Int := if runB s e m r d = true ∧ btw y 0 97500 = true then ((Pc.pr s e m r d y).1 - (Pc.pr s e m r d (y + 2500)).2, (Pc.pr s e m r d y).2 - (Pc.pr s e m r d (y + 2500)).1) else (0, 0)
theorem Rk.yes {s e m r d y : Int} (h : runB s e m r d = true) (hy : btw y 0 97500 = true) : Rk.val s e m r d y = ((Pc.pr s e m r d y).1 - (Pc.pr s e m r d (y + 2500)).2, (Pc.pr s e m r d y).2 - (Pc.pr s e m r d (y + 2500)).1) := if_pos ⟨h, hy⟩
theorem Rk.no1 {s e m r d y : Int} (h : runB s e m r d = false) : Rk.val s e m r d y = (0, 0) := if_neg (by rw [h]; simp)
theorem Rk.no2 {s e m r d y : Int} (hy : btw y 0 97500 = false) : Rk.val s e m r d y = (0, 0) := if_neg (by rw [hy]; simp)
theorem Pc.pr_bd {s e m r d y : Int} (h : runB s e m r d = true) (hy : btw y 0 100000 = true) : 0 < (Pc.pr s e m r d y).1 ∧ (Pc.pr s e m r d y).1 ≤ (Pc.pr s e m r d y).2 ∧ (Pc.pr s e m r d y).2 ≤ 520000 := by
  obtain ⟨y0, y1⟩ := btw_iff.1 hy
  rw [Pc.pr_yes h hy]
  exact Pc.val_bd (Pc.run_ok h y0 y1) (Pc.am_ok h)
set_option maxHeartbeats 1000000 in
theorem minus_any (a b c d : Int) (w : World) (a0 : -1000000000 ≤ a) (a1 : a ≤ 1000000000) (b0 : -1000000000 ≤ b) (b1 : b ≤ 1000000000) (c0 : -1000000000 ≤ c) (c1 : c ≤ 1000000000) (d0 : -1000000000 ≤ d) (d1 : d ≤ 1000000000) :
    Calls Tryd.prog 33 #[rV a b, rV c d] w fun e w' => e = .returned (rV (a - d) (b - c)) ∧ Below w.heap.size w w' := by
  have W1 : IntKind.i64.wrap (a - d) = a - d := IntWalk.i64_in _ (by omega)
  have W2 : IntKind.i64.wrap (b - c) = b - c := IntWalk.i64_in _ (by omega)
  clear a0 a1 b0 b1 c0 c1 d0 d1
  go_enter Tryd.func33, Tryd.ntmps33
  go_wp2_with fail
  refine bodyPost_ret (v := rV (a - d) (b - c)) (by simp [results, Tryd.results33, go_sem]) rfl ⟨rfl, ?_⟩
  repeat (first | exact Below.refl _ _ | refine Below.drew ?_ | refine Below.setCell ?_ (by simp <;> omega) _ | refine Below.alloc ?_ (by simp <;> omega) _)
set_option maxRecDepth 8000 in
set_option maxHeartbeats 2000000 in
theorem riskOf_any (ea : Addr) (s e m r d y : Int) (w : World) (hT : Tab w) (hS : Sen ea w) :
    Calls Tryd.prog 17 #[boV s e m r, .int .i64 d, .int .i64 y] w fun x w' => x = .returned (rV (Rk.val s e m r d y).1 (Rk.val s e m r d y).2) ∧ Below w.heap.size w w' := by
  have HT := Lib.hid ((hT.alloc (.cells #[.int .i64 s, .int .i64 e, .int .i64 m, .int .i64 r] 27)).alloc (.cells #[.int .i64 0, .int .i64 0] 25))
  have HS := Lib.hid ((hS.alloc (.cells #[.int .i64 s, .int .i64 e, .int .i64 m, .int .i64 r] 27)).alloc (.cells #[.int .i64 0, .int .i64 0] 25))
  have HB0 := Lib.hid (((Below.refl w.heap.size w).alloc (Nat.le_refl _) (.cells #[.int .i64 s, .int .i64 e, .int .i64 m, .int .i64 r] 27)).alloc (by simp) (.cells #[.int .i64 0, .int .i64 0] 25))
  have KR := Lib.hid (show Blk _ (w.heap.size + 1) _ _ by have k := Blk.new (w.alloc (.cells #[.int .i64 s, .int .i64 e, .int .i64 m, .int .i64 r] 27)) #[.int .i64 0, .int .i64 0] 25; rw [World.size_alloc] at k; exact k)
  clear hT hS
  cases hR : runB s e m r d with
  | false =>
    have HV := Lib.hid (Rk.no1 (y := y) hR)
    have HPA := Lib.hid (fun W hW => pricingAt_no s e m r d W hW hR)
    clear hR
    rw [HV.out]
    go_enter Tryd.func17, Tryd.ntmps17
    go_wp2_with fail
    refine (HPA.out _ HT.out).mono ?_
    rintro x w1 ⟨rfl, hb1⟩
    have HB1 := Lib.hid (HB0.out.trans (hb1.mono HB0.out.size))
    obtain ⟨⟨r0, r1⟩, rf0, rf1⟩ := (KR.out.below hb1 KR.out.lt).two
    have KR1 := Lib.hid (KR.out.below hb1 KR.out.lt)
    clear hb1
    go_wp2_with fail
    obtain ⟨⟨y0, y1⟩, -, -⟩ := (KR1.out.wr2 (.int .i64 0) (.int .i64 0)).two
    refine bodyPost_ret (v := rV 0 0) (by simp [results, Tryd.results17, go_sem, y0, y1]) rfl ⟨rfl, (HB1.out.setCell (by simp) _).setCell (by simp) _⟩
  | true =>
    have HPA := Lib.hid (fun W hW => pricingAt_yes s e m r d W hW hR)
    cases hy : btw y 0 97500 with
    | false =>
      have HV := Lib.hid (Rk.no2 (s := s) (e := e) (m := m) (r := r) (d := d) hy)
      have HY := Lib.hid (fun W => btwC_any y 0 97500 false hy W)
      clear hR hy
      rw [HV.out]
      go_enter Tryd.func17, Tryd.ntmps17
      go_wp2_with fail
      refine (HPA.out _ HT.out).mono ?_
      rintro x w1 ⟨D, R, F, rfl, -, hb1⟩
      have HB1 := Lib.hid (HB0.out.trans (hb1.mono HB0.out.size))
      obtain ⟨⟨r0, r1⟩, rf0, rf1⟩ := (KR.out.below hb1 KR.out.lt).two
      have KR1 := Lib.hid (KR.out.below hb1 KR.out.lt)
      clear hb1
      go_wp2_with fail
      refine (HY.out _).mono ?_
      rintro x w2 ⟨rfl, rfl⟩
      go_wp2_with fail
      obtain ⟨⟨y0, y1⟩, -, -⟩ := (KR1.out.wr2 (.int .i64 0) (.int .i64 0)).two
      refine bodyPost_ret (v := rV 0 0) (by simp [results, Tryd.results17, go_sem, y0, y1]) rfl ⟨rfl, (HB1.out.setCell (by simp) _).setCell (by simp) _⟩
    | true =>
      have hyb := btw_iff.1 hy
      have hq0 : btw y 0 100000 = true := btw_t (by omega) (by omega)
      have hq1 : btw (y + 2500) 0 100000 = true := btw_t (by omega) (by omega)
      have HV := Lib.hid (Rk.yes hR hy)
      have HY := Lib.hid (fun W => btwC_any y 0 97500 true hy W)
      obtain ⟨-, f0, f1, -, t1, -⟩ := Pc.run hR
      have HPr0 := Lib.hid (fun D R F W hS hP => (show Calls Tryd.prog 47 #[.int .i64 y, .pointer (some ⟨D, 0, none⟩), .pointer (some ⟨R, 0, none⟩), .pointer (some ⟨F, 0, none⟩)] W fun e' w' => e' = .returned (rV (Pc.pr s e m r d y).1 (Pc.pr s e m r d y).2) ∧ Below W.heap.size W w' from by
        rw [Pc.pr_yes hR hq0]; exact pricing_any ea D R F d (Pc.F s e m r d) (Pc.T s e m r d) y (Pc.Z s e m r d) (Pc.am s e m r d) W hS hP (Pc.run_ok hR (by omega) (by omega)) (Pc.am_ok hR) f0 f1 t1))
      have HPr1 := Lib.hid (fun D R F W hS hP => (show Calls Tryd.prog 47 #[.int .i64 (y + 2500), .pointer (some ⟨D, 0, none⟩), .pointer (some ⟨R, 0, none⟩), .pointer (some ⟨F, 0, none⟩)] W fun e' w' => e' = .returned (rV (Pc.pr s e m r d (y + 2500)).1 (Pc.pr s e m r d (y + 2500)).2) ∧ Below W.heap.size W w' from by
        rw [Pc.pr_yes hR hq1]; exact pricing_any ea D R F d (Pc.F s e m r d) (Pc.T s e m r d) (y + 2500) (Pc.Z s e m r d) (Pc.am s e m r d) W hS hP (Pc.run_ok hR (by omega) (by omega)) (Pc.am_ok hR) f0 f1 t1))
      obtain ⟨l0, l1, l2⟩ := Pc.pr_bd hR hq0
      obtain ⟨m0, m1, m2⟩ := Pc.pr_bd hR hq1
      clear hR hy f0 f1 t1 hq0 hq1
      rw [HV.out]
      clear HV
      generalize Pc.pr s e m r d y = V at *
      generalize Pc.pr s e m r d (y + 2500) = Q at *
      generalize Pc.F s e m r d = f at *
      generalize Pc.T s e m r d = t at *
      generalize Pc.Z s e m r d = z at *
      generalize Pc.am s e m r d = am at *
      obtain ⟨u, v⟩ := V
      obtain ⟨a, b⟩ := Q
      simp only at l0 l1 l2 m0 m1 m2
      have HMi := Lib.hid (fun W => minus_any u v a b W (by omega) (by omega) (by omega) (by omega) (by omega) (by omega) (by omega) (by omega))
      clear l0 l1 l2 m0 m1 m2
      go_enter Tryd.func17, Tryd.ntmps17
      go_wp2_with fail
      refine (HPA.out _ HT.out).mono ?_
      rintro x w1 ⟨D, R, F, rfl, hP, hb1⟩
      have HP1 := Lib.hid hP
      have HS1 := Lib.hid (HS.out.below hb1 HS.out.pos)
      have HB1 := Lib.hid (HB0.out.trans (hb1.mono HB0.out.size))
      have KR1 := Lib.hid (KR.out.below hb1 KR.out.lt)
      clear hb1 hP
      go_wp2_with fail
      refine (HY.out _).mono ?_
      rintro x w2 ⟨rfl, rfl⟩
      go_wp2_with fail
      refine (HPr0.out D R F _ HS1.out HP1.out).mono ?_
      rintro x w3 ⟨rfl, hb3⟩
      have HB3 := Lib.hid (HB1.out.trans (hb3.mono HB1.out.size))
      have KR3 := Lib.hid (KR1.out.below hb3 KR1.out.lt)
      have HP3 := Lib.hid (HP1.out.below hb3 (Nat.le_refl _))
      have HS3 := Lib.hid (HS1.out.below hb3 HS1.out.pos)
      clear hb3
      go_wp2_with fail
      refine (HPr1.out D R F _ HS3.out HP3.out).mono ?_
      rintro x w4 ⟨rfl, hb4⟩
      have HB4 := Lib.hid (HB3.out.trans (hb4.mono HB3.out.size))
      have KR4 := Lib.hid (KR3.out.below hb4 KR3.out.lt)
      clear hb4
      go_wp2_with fail
      refine (HMi.out _).mono ?_
      rintro x w5 ⟨rfl, hb5⟩
      have HB5 := Lib.hid (HB4.out.trans (hb5.mono HB4.out.size))
      have KR5 := Lib.hid (KR4.out.below hb5 KR4.out.lt)
      obtain ⟨⟨q0, q1⟩, qf0, qf1⟩ := KR5.out.two
      clear hb5
      go_wp2_with fail
      obtain ⟨⟨y0, y1⟩, -, -⟩ := (KR5.out.wr2 (.int .i64 (u - b)) (.int .i64 (v - a))).two
      refine bodyPost_ret (v := rV (u - b) (v - a)) (by simp [results, Tryd.results17, go_sem, y0, y1]) rfl ⟨rfl, (HB5.out.setCell (by simp) _).setCell (by simp) _⟩
set_option maxRecDepth 8000 in
set_option maxHeartbeats 2000000 in
theorem sRiskOf_any (s e m r d y : Int) (w : World) :
    Calls Tryd.prog 16 #[boV s e m r, .int .i64 d, .int .i64 y] w fun x w' => x = .returned (rV (Rk.val s e m r d y).1 (Rk.val s e m r d y).2) ∧ Below w.heap.size w w' := by
  have HB0 := Lib.hid (((Below.refl w.heap.size w).alloc (Nat.le_refl _) (.cells #[.int .i64 s, .int .i64 e, .int .i64 m, .int .i64 r] 27)).alloc (by simp) (.cells #[.int .i64 0, .int .i64 0] 25))
  have KB := Lib.hid ((Blk.new w #[.int .i64 s, .int .i64 e, .int .i64 m, .int .i64 r] 27).alloc (.cells #[.int .i64 0, .int .i64 0] 25))
  have KR := Lib.hid (show Blk _ (w.heap.size + 1) _ _ by have k := Blk.new (w.alloc (.cells #[.int .i64 s, .int .i64 e, .int .i64 m, .int .i64 r] 27)) #[.int .i64 0, .int .i64 0] 25; rw [World.size_alloc] at k; exact k)
  have HRu := Lib.hid (fun W => running_any s e m r d W)
  cases hR : runB s e m r d with
  | false =>
    have HV := Lib.hid (Rk.no1 (y := y) hR)
    rw [hR] at HRu
    clear hR KB
    rw [HV.out]
    go_enter Tryd.func16, Tryd.ntmps16
    go_wp2_with fail
    refine (HRu.out _).mono ?_
    rintro x w1 ⟨rfl, hb1⟩
    have HB1 := Lib.hid (HB0.out.trans (hb1.mono HB0.out.size))
    have KR1 := Lib.hid (KR.out.below hb1 KR.out.lt)
    obtain ⟨⟨r0, r1⟩, rf0, rf1⟩ := KR1.out.two
    clear hb1
    go_wp2_with fail
    obtain ⟨⟨y0, y1⟩, -, -⟩ := (KR1.out.wr2 (.int .i64 0) (.int .i64 0)).two
    refine bodyPost_ret (v := rV 0 0) (by simp [results, Tryd.results16, go_sem, y0, y1]) rfl ⟨rfl, (HB1.out.setCell (by simp) _).setCell (by simp) _⟩
  | true =>
    rw [hR] at HRu
    cases hy : btw y 0 97500 with
    | false =>
      have HV := Lib.hid (Rk.no2 (s := s) (e := e) (m := m) (r := r) (d := d) hy)
      have HY := Lib.hid (fun W => sBtwC_any y 0 97500 false hy W)
      clear hR hy KB
      rw [HV.out]
      go_enter Tryd.func16, Tryd.ntmps16
      go_wp2_with fail
      refine (HRu.out _).mono ?_
      rintro x w1 ⟨rfl, hb1⟩
      have HB1 := Lib.hid (HB0.out.trans (hb1.mono HB0.out.size))
      have KR1 := Lib.hid (KR.out.below hb1 KR.out.lt)
      obtain ⟨⟨r0, r1⟩, rf0, rf1⟩ := KR1.out.two
      clear hb1
      go_wp2_with fail
      refine (HY.out _).mono ?_
      rintro x w2 ⟨rfl, rfl⟩
      go_wp2_with fail
      obtain ⟨⟨y0, y1⟩, -, -⟩ := (KR1.out.wr2 (.int .i64 0) (.int .i64 0)).two
      refine bodyPost_ret (v := rV 0 0) (by simp [results, Tryd.results16, go_sem, y0, y1]) rfl ⟨rfl, (HB1.out.setCell (by simp) _).setCell (by simp) _⟩
    | true =>
      have hyb := btw_iff.1 hy
      have hq0 : btw y 0 100000 = true := btw_t (by omega) (by omega)
      have hq1 : btw (y + 2500) 0 100000 = true := btw_t (by omega) (by omega)
      have HV := Lib.hid (Rk.yes hR hy)
      have HY := Lib.hid (fun W => sBtwC_any y 0 97500 true hy W)
      have HP0 := Lib.hid (fun W => sprice_any s e m r d y W hR hq0)
      have HP1 := Lib.hid (fun W => sprice_any s e m r d (y + 2500) W hR hq1)
      obtain ⟨l0, l1, l2⟩ := Pc.pr_bd hR hq0
      obtain ⟨m0, m1, m2⟩ := Pc.pr_bd hR hq1
      clear hR hy hq0 hq1
      rw [HV.out]
      clear HV
      generalize Pc.pr s e m r d y = V at *
      generalize Pc.pr s e m r d (y + 2500) = Q at *
      obtain ⟨u, v⟩ := V
      obtain ⟨a, b⟩ := Q
      simp only at l0 l1 l2 m0 m1 m2
      go_enter Tryd.func16, Tryd.ntmps16
      go_wp2_with fail
      refine (HRu.out _).mono ?_
      rintro x w1 ⟨rfl, hb1⟩
      have HB1 := Lib.hid (HB0.out.trans (hb1.mono HB0.out.size))
      have KR1 := Lib.hid (KR.out.below hb1 KR.out.lt)
      have KB1 := Lib.hid (KB.out.below hb1 KB.out.lt)
      obtain ⟨b0, b1, b2, b3⟩ := KB1.out.four
      clear hb1
      go_wp2_with fail
      refine (HY.out _).mono ?_
      rintro x w2 ⟨rfl, rfl⟩
      go_wp2_with fail
      refine (HP0.out _).mono ?_
      rintro x w3 ⟨rfl, hb3⟩
      have HB3 := Lib.hid ((HB1.out.trans (hb3.mono HB1.out.size)).alloc (HB1.out.trans (hb3.mono HB1.out.size)).size (.cells #[.int .i64 u, .int .i64 v] 25))
      have KR3 := Lib.hid ((KR1.out.below hb3 KR1.out.lt).alloc (.cells #[.int .i64 u, .int .i64 v] 25))
      have KB3 := Lib.hid ((KB1.out.below hb3 KB1.out.lt).alloc (.cells #[.int .i64 u, .int .i64 v] 25))
      have KP3 := Lib.hid (Blk.new w3 #[.int .i64 u, .int .i64 v] 25)
      clear hb3 b0 b1 b2 b3
      go_upto_region 4 with fail
      generalize w3.alloc (.cells #[.int .i64 u, .int .i64 v] 25) = w4 at HB3 KR3 KB3 KP3 ⊢
      obtain ⟨b0, b1, b2, b3⟩ := KB3.out.four
      go_wp2_with fail
      refine (HP1.out _).mono ?_
      rintro x w5 ⟨rfl, hb5⟩
      have HB5 := Lib.hid ((HB3.out.trans (hb5.mono HB3.out.size)).alloc (HB3.out.trans (hb5.mono HB3.out.size)).size (.cells #[.int .i64 a, .int .i64 b] 25))
      have KR5 := Lib.hid ((KR3.out.below hb5 KR3.out.lt).alloc (.cells #[.int .i64 a, .int .i64 b] 25))
      have KP5 := Lib.hid ((KP3.out.below hb5 KP3.out.lt).alloc (.cells #[.int .i64 a, .int .i64 b] 25))
      have KQ5 := Lib.hid (Blk.new w5 #[.int .i64 a, .int .i64 b] 25)
      clear hb5 b0 b1 b2 b3
      go_upto_region 5 with fail
      generalize w5.alloc (.cells #[.int .i64 a, .int .i64 b] 25) = w6 at HB5 KR5 KP5 KQ5 ⊢
      obtain ⟨⟨q0, q1⟩, qf0, qf1⟩ := KR5.out.two
      obtain ⟨⟨p0, p1⟩, -, -⟩ := KP5.out.two
      obtain ⟨⟨o0, o1⟩, -, -⟩ := KQ5.out.two
      go_wp2_with fail
      obtain ⟨⟨y0, y1⟩, -, -⟩ := (KR5.out.wr2 (.int .i64 (u - b)) (.int .i64 (v - a))).two
      refine bodyPost_ret (v := rV (u - b) (v - a)) (by simp [results, Tryd.results16, go_sem, y0, y1]) rfl ⟨rfl, (HB5.out.setCell (by simp) _).setCell (by simp) _⟩
end Go.Proofs.YtkdooncfchmkfaaDoor
