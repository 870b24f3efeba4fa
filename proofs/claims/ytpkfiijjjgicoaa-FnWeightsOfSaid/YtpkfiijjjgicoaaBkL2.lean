/- The laws of weights. -/
import Derived.Test.YtpkfiijjjgicoaaBkD
import Derived.Test.YtpkfiijjjgicoaaBk2
import Derived.Deep.RegionHeld3
namespace Go.Proofs.Ytpkfiijjjgicoaa
open Go.RowKit
theorem Bk.wts_pr {ps : List Tri} (h : 0 < Bk.sum ps) : Bk.wts ps = Pr.fl 1000 (ps.map Mk.wor) := by
  unfold Bk.wts Pr.fl
  rw [List.map_map]
  refine List.map_congr_left fun p _ => ?_
  rw [show max (Bk.sum ps) 1 = Bk.sum ps by omega]
  rfl
theorem Bk.wts_mem {ps : List Tri} (h : Bk.bok ps = true) : ∀ i, i < (Bk.wts ps).length → -1000000000000000 ≤ (Bk.wts ps).getD i 0 ∧ (Bk.wts ps).getD i 0 ≤ 1000000000000000 := by
  intro i hi
  rw [Bk.wts_len] at hi
  rw [Bk.wts_at hi]
  obtain ⟨w0, w1⟩ := Mk.bo_bd (allB_at t0 (Bk.bparts h).2 hi)
  generalize Mk.wor (ps.getD i t0) = q at *
  have h1 : 0 ≤ 1000 * q / max (Bk.sum ps) 1 := Int.ediv_nonneg (by omega) (by omega)
  have h2 : 1000 * q / max (Bk.sum ps) 1 ≤ 1000 * q := Int.ediv_le_self _ (by omega)
  omega
/-- Weights add up to at most 1000, and to more than 1000 less their number. -/
theorem Bk.wts_sum {ps : List Tri} (h : Bk.bok ps = true) : 0 ≤ Bk.sum ps ∧ (Bk.sum ps = 0 → (Bk.wts ps).sum = 0) ∧ (0 < Bk.sum ps → 1000 - (ps.length : Int) < (Bk.wts ps).sum ∧ (Bk.wts ps).sum ≤ 1000) := by
  obtain ⟨hl, ha⟩ := Bk.bparts h
  refine ⟨Bk.sum_nn ha, fun h0 => ?_, fun h0 => ?_⟩
  · rw [Bk.zeros ha h0]; simp
  · have ok : Pr.Ok 1000 (ps.map Mk.wor) := ⟨by omega, Bk.wors_nn ha, h0⟩
    have l0 := Pr.left_nn ok
    have l1 := Pr.left_lt ok
    rw [Bk.wts_pr h0]
    unfold Pr.left at l0 l1
    rw [List.length_map] at l1
    omega
theorem Bk.wei_len {ps : List Tri} (h : (Bk.wei ps).length ≠ 0) : Bk.bok ps = true ∧ ps.length ≠ 0 := by
  cases hb : Bk.bok ps with
  | false => rw [Bk.wei_no hb] at h; simp at h
  | true => rw [Bk.wei_yes hb, Bk.wts_len] at h; exact ⟨rfl, h⟩
theorem Bk.bok_ok {ps : List Tri} (h : Bk.bok ps = true) : Bk.ok ps = true := by
  obtain ⟨hl, ha⟩ := Bk.bparts h
  unfold Bk.ok
  rw [Bk.ball ha, btw_t (by omega) (by omega)]; rfl
theorem bneq_selfW (x : Bool) : (x != x) = false := by simp
theorem Bk.all_bdW {ps : List Tri} (h : Bk.ok ps = true) : -8000000000 ≤ Bk.sum ps ∧ Bk.sum ps ≤ 8000000000 := by
  obtain ⟨hl, ha⟩ := Bk.parts h
  have := Bk.bd ha ps.length (Nat.le_refl _)
  rw [List.take_length] at this
  omega
set_option maxRecDepth 8000 in
set_option maxHeartbeats 8000000 in
theorem lawWeightsOf (a : Option Addr) (len cap : Nat) (zs : List Int) (w : World) (h : IsRow .u8 w a len cap zs) :
    Calls Try.prog 4 #[.slice a len cap] w fun e w' => e = .returned (.bool true) ∧ Below w.heap.size w w' := by
  have H := Lib.hid h; clear h
  by_cases hl : 1048576 < (len : Int)
  · go_enter Try.func4, Try.ntmps4
    go_wp2_with fail
    go_ret
    exact ⟨rfl, Below.refl _ _⟩
  · have hl' := decide_eq_false hl
    clear hl
    go_enter Try.func4, Try.ntmps4
    go_wp2_with fail
    refine (drawWO_any _ _ _ _ _ H.out).mono ?_
    rintro e w1 ⟨ps, b, c, rfl, hR, hlen, hcap, hb1⟩
    have R1 := Lib.hid hR; clear hR
    have hm : ps.length ≤ 9223372036854775807 := by omega
    have hxl : (Bk.wei ps).length ≤ 9 := by unfold Bk.wei; split; (rw [Bk.wts_len]; exact hlen); simp
    go_wp2_with fail
    refine (weights_any _ _ _ R1.out.o hm).mono ?_
    rintro e w2 ⟨v2, rfl, h2, hb2⟩
    have R2 := Lib.hid (R1.out.below hb2 (Nat.le_refl _))
    have HB2 := Lib.hid (hb1.trans (hb2.mono hb1.size))
    obtain ⟨a2, c2, rfl⟩ := h2.slice
    have X2 := Lib.hid h2
    clear h2 hb2 R1
    go_wp2_with fail
    refine (sweights_any _ _ _ R2.out.o hm).mono ?_
    rintro e w3 ⟨v3, rfl, h3, hb3⟩
    have R3' := Lib.hid (R2.out.below hb3 (Nat.le_refl _))
    have HB3 := Lib.hid (HB2.out.trans (hb3.mono HB2.out.size))
    have X3 := Lib.hid (X2.out.below hb3 (Nat.le_refl _))
    have Y3 := Lib.hid h3.r1
    clear h3 hb3 X2 R2
    go_wp2_with fail
    refine (equ_same _ _ _ _ X3.out.r1 Y3.out (by omega)).mono ?_
    rintro e w4 ⟨rfl, hb4⟩
    have R4 := Lib.hid (R3'.out.below hb4 (Nat.le_refl _))
    have HB4 := Lib.hid (HB3.out.trans (hb4.mono HB3.out.size))
    have X4 := Lib.hid (X3.out.below hb4 (Nat.le_refl _))
    clear hb4 X3 R3' Y3
    by_cases h0 : (Bk.wei ps).length = 0
    · have hz : (((Bk.wei ps).length : Int) == 0) = true := by rw [h0]; rfl
      clear h0
      go_wp2_with fail
      refine (sweights_any _ _ _ R4.out.o hm).mono ?_
      rintro e w5 ⟨v5, rfl, h5, hb5⟩
      have X5 := Lib.hid (X4.out.below hb5 (Nat.le_refl _))
      have HB5 := Lib.hid (HB4.out.trans (hb5.mono HB4.out.size))
      have Y5 := Lib.hid h5.r1
      clear h5 hb5 hz
      go_wp2_with fail
      refine (equ_same _ _ _ _ X5.out.r1 Y5.out (by omega)).mono ?_
      rintro e w6 ⟨rfl, hb6⟩
      go_wp2_with fail
      go_ret
      exact ⟨rfl, HB5.out.trans (hb6.mono HB5.out.size)⟩
    · have hz : (((Bk.wei ps).length : Int) == 0) = false := by
        rw [beq_eq_false_iff_ne]; omega
      obtain ⟨hbok, hne⟩ := Bk.wei_len h0
      have HK := Lib.hid hbok
      have HW := Lib.hid (Bk.wei_yes hbok)
      obtain ⟨s0, s1, s2⟩ := Bk.wts_sum hbok
      obtain ⟨q0, q1⟩ := Bk.all_bdW (Bk.bok_ok hbok)
      have HMem := Lib.hid (Bk.wts_mem hbok)
      have E := Lib.hid (Bk.val_yes (Bk.bok_ok hbok))
      have EK := Lib.hid (Bk.bok_ok hbok)
      have hwl := Bk.wts_len ps
      rw [HW.out] at X4 hxl hz
      rw [HW.out]
      rw [hwl] at hxl
      have LS := Lib.hid (fun W (hb : Below w4.heap.size w4 W) => lsum_any W _ _ (X4.out.below hb (Nat.le_refl _)).r1 (by rw [hwl]; omega) HMem.out)
      rw [hwl] at LS hz ⊢
      clear hbok h0
      generalize Bk.sum ps = T at *
      generalize (Bk.wts ps).sum = S at *
      have hlp : (1 : Int) ≤ ps.length := by omega
      by_cases hT : T = 0
      · have e1 := s1 hT
        subst e1
        subst hT
        clear s1 s2
        go_wp2_with fail
        refine (book_any _ _ _ R4.out.o hm).mono ?_
        rw [E.out, EK.out]
        rintro e w5 ⟨rfl, hb5⟩
        go_wp2_with (first | (go_at_call 20; (with_reducible refine (LS.out _ hb5).mono ?_); rintro e w6 ⟨rfl, rfl⟩))
        go_ret
        exact ⟨rfl, HB4.out.trans (hb5.mono HB4.out.size)⟩
      · obtain ⟨e1, e2⟩ := s2 (by omega)
        have hT2 : (T == 0) = false := by simpa using hT
        have hT3 : 0 < T := by omega
        have g1 : S ≤ 1000 := e2
        have g2 : 1000 - (ps.length : Int) < S := e1
        clear s1 s2
        go_wp2_with fail
        refine (book_any _ _ _ R4.out.o hm).mono ?_
        rw [E.out, EK.out]
        rintro e w5 ⟨rfl, hb5⟩
        go_wp2_with (first | (go_at_call 20; (with_reducible refine (LS.out _ hb5).mono ?_); rintro e w6 ⟨rfl, rfl⟩))
        go_ret
        exact ⟨rfl, HB4.out.trans (hb5.mono HB4.out.size)⟩
def three (p : Tri) : List Tri := [p, p, p]
theorem r3_three (w : World) (T : TypeId) (m c a : Int) : R3o (w.alloc (.cells #[.int .i64 m, .int .i64 c, .int .i64 a, .int .i64 m, .int .i64 c, .int .i64 a, .int .i64 m, .int .i64 c, .int .i64 a] T)) (.slice (some ⟨w.heap.size, 0, none⟩) 3 3) (three (m, c, a)) := by
  refine ⟨⟨_, _, rfl⟩, fun _ => ⟨w.heap.size, 0, 3, rfl, by simp, fun i hi => ?_⟩⟩
  have hi3 : i < 3 := hi
  have : i = 0 ∨ i = 1 ∨ i = 2 := by omega
  rcases this with rfl | rfl | rfl <;> refine ⟨?_, ?_, ?_⟩ <;> simp [three]
/-- The weight of each of three equal positions. -/
def thr (q : Int) : Int := 1000 * q / max (q + (q + q)) 1
theorem thr_pos {q : Int} (h : 0 < q) : thr q = 333 := by
  unfold thr
  rw [show max (q + (q + q)) 1 = q * 3 by omega, show 1000 * q = q * 1000 by omega, Int.mul_ediv_mul_of_pos _ _ h]
  rfl
theorem thr_zero : thr 0 = 0 := by decide
theorem three_wei {p : Tri} (h : Mk.bo p = true) : Bk.wei (three p) = [thr (Mk.wor p), thr (Mk.wor p), thr (Mk.wor p)] := by
  rw [Bk.wei_yes (by unfold Bk.bok three; simp [h, btw])]
  unfold Bk.wts three Bk.sum thr
  simp
theorem MkS.below {b : Nat} {m c a : Int} {w w' : World} (h : MkS b m c a w) (hl : b < w.heap.size) (hb : Below w.heap.size w w') : MkS b m c a w' :=
  ⟨(hb.cell (p := ⟨b, 0, none⟩) hl).trans h.1, (hb.cell (p := ⟨b, 1, none⟩) hl).trans h.2.1, (hb.cell (p := ⟨b, 2, none⟩) hl).trans h.2.2⟩
set_option maxRecDepth 8000 in
set_option maxHeartbeats 8000000 in
theorem lawWeightsEqual (a : Option Addr) (len cap : Nat) (zs : List Int) (w : World) (h : IsRow .u8 w a len cap zs) :
    Calls Try.prog 5 #[.slice a len cap] w fun e w' => e = .returned (.bool true) ∧ Below w.heap.size w w' := by
  have H := Lib.hid h; clear h
  by_cases hl : 1048576 < (len : Int)
  · go_enter Try.func5, Try.ntmps5
    go_wp2_with fail
    go_ret
    exact ⟨rfl, Below.refl _ _⟩
  · have hl' := decide_eq_false hl
    clear hl
    go_enter Try.func5, Try.ntmps5
    go_wp2_with fail
    refine (drawWO_any _ _ _ _ _ H.out).mono ?_
    rintro e w1 ⟨ps, b, c, rfl, hR, hlen, hcap, hb1⟩
    have R1 := Lib.hid hR; clear hR
    have hm : ps.length ≤ 9223372036854775807 := by omega
    have hxl : (Bk.wei ps).length ≤ 9 := by unfold Bk.wei; split; (rw [Bk.wts_len]; exact hlen); simp
    go_wp2_with fail
    refine (weights_any _ _ _ R1.out.o hm).mono ?_
    rintro e w2 ⟨v2, rfl, h2, hb2⟩
    have R2 := Lib.hid (R1.out.below hb2 (Nat.le_refl _))
    have HB2 := Lib.hid (hb1.trans (hb2.mono hb1.size))
    obtain ⟨a2, c2, rfl⟩ := h2.slice
    have X2 := Lib.hid h2
    clear h2 hb2 R1
    go_wp2_with fail
    refine (sweights_any _ _ _ R2.out.o hm).mono ?_
    rintro e w3 ⟨v3, rfl, h3, hb3⟩
    have R3' := Lib.hid (R2.out.below hb3 (Nat.le_refl _))
    have HB3 := Lib.hid (HB2.out.trans (hb3.mono HB2.out.size))
    have X3 := Lib.hid (X2.out.below hb3 (Nat.le_refl _))
    have Y3 := Lib.hid h3.r1
    clear h3 hb3 X2 R2
    go_wp2_with fail
    refine (equ_same _ _ _ _ X3.out.r1 Y3.out (by omega)).mono ?_
    rintro e w4 ⟨rfl, hb4⟩
    have R4 := Lib.hid (R3'.out.below hb4 (Nat.le_refl _))
    have HB4 := Lib.hid (HB3.out.trans (hb4.mono HB3.out.size))
    have X4 := Lib.hid (X3.out.below hb4 (Nat.le_refl _))
    clear hb4 X3 R3' Y3
    by_cases h0 : (Bk.wei ps).length = 0
    · have hz : (((Bk.wei ps).length : Int) == 0) = true := by rw [h0]; rfl
      clear h0
      go_wp2_with fail
      refine (sweights_any _ _ _ R4.out.o hm).mono ?_
      rintro e w5 ⟨v5, rfl, h5, hb5⟩
      have X5 := Lib.hid (X4.out.below hb5 (Nat.le_refl _))
      have HB5 := Lib.hid (HB4.out.trans (hb5.mono HB4.out.size))
      have Y5 := Lib.hid h5.r1
      clear h5 hb5 hz
      go_wp2_with fail
      refine (equ_same _ _ _ _ X5.out.r1 Y5.out (by omega)).mono ?_
      rintro e w6 ⟨rfl, hb6⟩
      go_wp2_with fail
      go_ret
      exact ⟨rfl, HB5.out.trans (hb6.mono HB5.out.size)⟩
    · have hz : (((Bk.wei ps).length : Int) == 0) = false := by
        rw [beq_eq_false_iff_ne]; omega
      obtain ⟨hbok, hne⟩ := Bk.wei_len h0
      have HK := Lib.hid hbok
      have HW := Lib.hid (Bk.wei_yes hbok)
      have hp0 : (1 : Int) ≤ ps.length := by omega
      obtain ⟨b', c', e', hbl, hc⟩ := R4.out.2 (by omega)
      simp only [Value.slice.injEq, Option.some.injEq, Addr.mk.injEq, and_true, true_and] at e'
      obtain ⟨rfl, rfl⟩ := e'
      obtain ⟨c0, c1, c2⟩ := hc 0 (by omega)
      have hbo := allB_at t0 (Bk.bparts hbok).2 (show 0 < ps.length by omega)
      simp only [Nat.zero_mul, Nat.zero_add] at c0 c1 c2
      generalize ps.getD 0 t0 = p at c0 c1 c2 hbo
      obtain ⟨m, cc, aa⟩ := p
      simp only at c0 c1 c2
      clear hc h0 X4
      have K0 : MkS b m cc aa w4 := ⟨c0, c1, c2⟩
      have K1 : MkS b m cc aa w4.drew := ⟨c0, c1, c2⟩
      have hA := ((Below.refl w4.heap.size w4).alloc (Nat.le_refl _) (.cells #[.int .i64 m, .int .i64 cc, .int .i64 aa, .int .i64 m, .int .i64 cc, .int .i64 aa, .int .i64 m, .int .i64 cc, .int .i64 aa] 33)).drew
      have K2 := MkS.below (⟨c0, c1, c2⟩ : MkS b m cc aa w4) hbl hA
      have WE := Lib.hid (weights_any (w4.alloc (.cells #[.int .i64 m, .int .i64 cc, .int .i64 aa, .int .i64 m, .int .i64 cc, .int .i64 aa, .int .i64 m, .int .i64 cc, .int .i64 aa] 33)).drew _ _ (show R3o (w4.alloc (.cells #[.int .i64 m, .int .i64 cc, .int .i64 aa, .int .i64 m, .int .i64 cc, .int .i64 aa, .int .i64 m, .int .i64 cc, .int .i64 aa] 33)).drew _ _ from r3_three w4 _ m cc aa) (by show 3 ≤ 9223372036854775807; omega))
      rw [three_wei hbo] at WE
      have WO := Lib.hid (fun W => worthOf_any m cc aa W)
      have HV := Lib.hid (Mk.wv_yes (Mk.bo_one hbo))
      have HO1 := Lib.hid (Mk.bo_one hbo)
      obtain ⟨q0, q1⟩ := Mk.bo_bd hbo
      rw [show Mk.wor (m, cc, aa) = m * (cc + aa) from rfl] at q0 q1 WE
      have hlA : b < (w4.alloc (.cells #[.int .i64 m, .int .i64 cc, .int .i64 aa, .int .i64 m, .int .i64 cc, .int .i64 aa, .int .i64 m, .int .i64 cc, .int .i64 aa] 33)).drew.heap.size := Nat.lt_of_lt_of_le hbl hA.size
      have HA := Lib.hid hA
      clear hA hbo hbok c0 c1 c2
      have hp1 : (0 : Int) < ps.length := by omega
      have hp2 : 0 < ps.length := by omega
      obtain ⟨c0, c1, c2⟩ := K0
      go_wp2_with fail
      go_region_held3 (MkS b m cc aa) (first | with_reducible exact K1 | with_reducible exact K2 | with_reducible exact K5 | fail "nokeep") ((go_at_call 17; (with_reducible refine WE.out.mono ?_); rintro e w5 ⟨v5, rfl, h5, hb5⟩; have K5 := MkS.below K2 hlA hb5))
      obtain ⟨b5, cp5, e5, -, hbl5, -, hc5, -⟩ := h5.form (show 0 < 3 by omega)
      subst e5
      have d0 := hc5 0 (show 0 < 3 by omega)
      have d1 := hc5 1 (show 1 < 3 by omega)
      have d2 := hc5 2 (show 2 < 3 by omega)
      clear hc5
      rw [show [thr (m * (cc + aa)), thr (m * (cc + aa)), thr (m * (cc + aa))].getD 0 0 = thr (m * (cc + aa)) from rfl] at d0
      rw [show [thr (m * (cc + aa)), thr (m * (cc + aa)), thr (m * (cc + aa))].getD 1 0 = thr (m * (cc + aa)) from rfl] at d1
      rw [show [thr (m * (cc + aa)), thr (m * (cc + aa)), thr (m * (cc + aa))].getD 2 0 = thr (m * (cc + aa)) from rfl] at d2
      have HB5 := Lib.hid ((HB4.out.trans (HA.out.mono HB4.out.size)).trans (hb5.mono (Nat.le_trans HB4.out.size HA.out.size)))
      have hlen3 : [thr (m * (cc + aa)), thr (m * (cc + aa)), thr (m * (cc + aa))].length = 3 := rfl
      rw [hlen3]
      clear h5 hb5 hlen3 c0 c1 c2 K1 K2
      obtain ⟨c0, c1, c2⟩ := K5
      generalize m * (cc + aa) = q at *
      by_cases hq : 0 < q
      · have ht := thr_pos hq
        rw [ht] at d0 d1 d2
        have hq2 : (q == 0) = false := by rw [beq_eq_false_iff_ne]; omega
        clear ht
        go_wp2_with fail
        refine (WO.out _).mono ?_
        rw [HV.out, HO1.out]
        rintro e w6 ⟨rfl, hb6⟩
        replace d0 := (hb6.cell (p := ⟨b5, 0, none⟩) hbl5).trans d0
        replace d1 := (hb6.cell (p := ⟨b5, 1, none⟩) hbl5).trans d1
        replace d2 := (hb6.cell (p := ⟨b5, 2, none⟩) hbl5).trans d2
        have HB6 := Lib.hid (HB5.out.trans (hb6.mono HB5.out.size))
        clear hb6 c0 c1 c2
        go_wp2_with fail
        go_quiet (fail)
        go_wp2_with fail
        go_ret
        exact ⟨rfl, belowD HB6.out _⟩
      · obtain rfl : q = 0 := by omega
        rw [thr_zero] at d0 d1 d2
        go_wp2_with fail
        refine (WO.out _).mono ?_
        rw [HV.out, HO1.out]
        rintro e w6 ⟨rfl, hb6⟩
        replace d0 := (hb6.cell (p := ⟨b5, 0, none⟩) hbl5).trans d0
        replace d1 := (hb6.cell (p := ⟨b5, 1, none⟩) hbl5).trans d1
        replace d2 := (hb6.cell (p := ⟨b5, 2, none⟩) hbl5).trans d2
        have HB6 := Lib.hid (HB5.out.trans (hb6.mono HB5.out.size))
        clear hb6 c0 c1 c2
        go_wp2_with fail
        go_quiet (fail)
        go_wp2_with fail
        go_ret
        exact ⟨rfl, belowD HB6.out _⟩
end Go.Proofs.Ytpkfiijjjgicoaa
