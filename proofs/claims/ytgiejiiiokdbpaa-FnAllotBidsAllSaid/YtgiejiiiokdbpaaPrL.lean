/- The laws of shares and of draws. -/
import Derived.Test.YtgiejiiiokdbpaaPrE
import Derived.Test.YtgiejiiiokdbpaaPrD
namespace Go.Proofs.Ytgiejiiiokdbpaa
open Go.RowKit
theorem Pr.val_ne {A : Int} {xs : List Int} (h : (Pr.val A xs).length ≠ 0) : Pr.okB A xs = true := by
  cases hb : Pr.okB A xs with
  | false => rw [Pr.val_no hb] at h; simp at h
  | true => rfl
theorem Pr.val_le {A : Int} {xs : List Int} : (Pr.val A xs).length ≤ 8 := by
  cases hb : Pr.okB A xs with
  | false => rw [Pr.val_no hb]; simp
  | true => rw [Pr.val_yes hb, Pr.out_len]; exact (Pr.okB_ok hb).2.1.2.1
theorem Dl.okB_ok {n : Int} {xs : List Int} (h : Dl.okB n xs = true) : (0 ≤ n ∧ n ≤ xs.sum) ∧ (1 ≤ xs.length ∧ xs.length ≤ 8 ∧ xs.all holdB = true) ∧ Pr.Ok n xs := by
  unfold Dl.okB at h
  rw [Bool.and_eq_true, Bool.and_eq_true, btw_iff] at h
  obtain ⟨hH, hs, hn⟩ := h
  have hp := Ho.parts hH
  refine ⟨hn, hp, hn.1, fun x hx => (Ho.mem hp.2.2 x hx).1, ?_⟩
  have := (Ho.sum_bd hp.2.2 hp.2.1).1
  have hne : xs.sum ≠ 0 := by simpa using hs
  omega
theorem Dl.val_ne {n : Int} {xs : List Int} (h : (Dl.val n xs).length ≠ 0) : Dl.okB n xs = true := by
  cases hb : Dl.okB n xs with
  | false => rw [Dl.val_no hb] at h; simp at h
  | true => rfl
theorem Dl.val_le {n : Int} {xs : List Int} : (Dl.val n xs).length ≤ 8 := by
  cases hb : Dl.okB n xs with
  | false => rw [Dl.val_no hb]; simp
  | true => rw [Dl.val_yes hb, Pr.out_len]; exact (Dl.okB_ok hb).2.1.2.1
theorem small_big {xs : List Int} (h : Small xs) : ∀ i, i < xs.length → -1000000000000000 ≤ xs.getD i 0 ∧ xs.getD i 0 ≤ 1000000000000000 := fun i hi => by have := h i hi; omega
theorem Pr.small_out {A : Int} {xs : List Int} (ok : Pr.Ok A xs) (hA : A ≤ 1000000000) : Small (Pr.out A xs) := fun i hi => by
  rw [Pr.out_len] at hi
  have h1 := Pr.out_nn ok hi
  have h2 := Pr.out_le ok hi
  omega
/-- If all is shared by the weights, each gets its weight. -/
theorem Pr.out_all {xs : List Int} (ok : Pr.Ok xs.sum xs) : Pr.out xs.sum xs = xs := by
  refine List.ext_getElem (Pr.out_len _ _) fun i h1 h2 => ?_
  rw [← Sr.getD_get h1, ← Sr.getD_get h2]
  rw [Pr.out_len] at h1
  have hn := Pr.near ok h1
  have t := ok.t0
  generalize (Pr.out xs.sum xs).getD i 0 = y at hn
  generalize xs.getD i 0 = x at hn
  generalize xs.sum = T at *
  rw [Int.mul_comm T x, ← Int.sub_mul] at hn
  rcases Int.lt_trichotomy y x with c | c | c
  · have := Int.mul_le_mul_of_nonneg_right (show y - x ≤ -1 by omega) (Int.le_of_lt t); omega
  · exact c
  · have := Int.mul_le_mul_of_nonneg_right (show 1 ≤ y - x by omega) (Int.le_of_lt t); omega

set_option maxRecDepth 8000 in
set_option maxHeartbeats 8000000 in
theorem lawProRate (a : Option Addr) (len cap : Nat) (zs : List Int) (w : World) (h : IsRow .u8 w a len cap zs) :
    Calls Try.prog 3 #[.slice a len cap] w fun e w' => e = .returned (.bool true) ∧ Below w.heap.size w w' := by
  have H := Lib.hid h; clear h
  by_cases hl : 1048576 < (len : Int)
  · go_enter Try.func3, Try.ntmps3
    go_wp2_with fail
    go_ret
    exact ⟨rfl, Below.refl _ _⟩
  · have hl' := decide_eq_false hl
    clear hl
    go_enter Try.func3, Try.ntmps3
    go_wp2_with fail
    refine (drawPR_any _ _ _ _ _ H.out).mono ?_
    rintro e w1 ⟨n, a1, c1, xs, rfl, hR, hlen, ⟨n0, n1⟩, hb1⟩
    have R1 := Lib.hid hR; clear hR
    have hm : xs.length ≤ 9223372036854775807 := by omega
    have hxl := Pr.val_le (A := n) (xs := xs)
    go_wp2_with fail
    refine (proRate_any _ _ _ _ R1.out hm).mono ?_
    rintro e w2 ⟨v2, rfl, h2, hb2⟩
    have R2 := Lib.hid (R1.out.below hb2 (Nat.le_refl _))
    have HB2 := Lib.hid (hb1.trans (hb2.mono hb1.size))
    obtain ⟨a2, c2, rfl⟩ := h2.slice
    have X2 := Lib.hid h2
    clear h2 hb2 R1
    go_wp2_with fail
    refine (sproRate_any _ _ _ _ R2.out hm).mono ?_
    rintro e w3 ⟨v3, rfl, h3, hb3⟩
    have R3' := Lib.hid (R2.out.below hb3 (Nat.le_refl _))
    have HB3 := Lib.hid (HB2.out.trans (hb3.mono HB2.out.size))
    have X3 := Lib.hid (X2.out.below hb3 (Nat.le_refl _))
    have Y3 := Lib.hid h3.r1
    clear h3 hb3 X2 R2
    go_wp2_with fail
    refine (equ_same _ _ _ _ X3.out.r1 Y3.out (by omega)).mono ?_
    rintro e w4 ⟨rfl, hb4⟩
    have R4 := Lib.hid (R3'.out.below hb4 (Nat.le_refl _))
    have HB4 := Lib.hid (HB3.out.trans (hb4.mono HB3.out.size))
    have X4 := Lib.hid (X3.out.below hb4 (Nat.le_refl _))
    clear hb4 X3 R3' Y3
    by_cases h0 : (Pr.val n xs).length = 0
    · have hz : (((Pr.val n xs).length : Int) == 0) = true := by rw [h0]; rfl
      clear h0
      go_wp2_with fail
      refine (sproRate_any _ _ _ _ R4.out hm).mono ?_
      rintro e w5 ⟨v5, rfl, h5, hb5⟩
      have X5 := Lib.hid (X4.out.below hb5 (Nat.le_refl _))
      have HB5 := Lib.hid (HB4.out.trans (hb5.mono HB4.out.size))
      have Y5 := Lib.hid h5.r1
      clear h5 hb5 hz
      go_wp2_with fail
      refine (equ_same _ _ _ _ X5.out.r1 Y5.out (by omega)).mono ?_
      rintro e w6 ⟨rfl, hb6⟩
      go_wp2_with fail
      go_ret
      exact ⟨rfl, HB5.out.trans (hb6.mono HB5.out.size)⟩
    · have hz : (((Pr.val n xs).length : Int) == 0) = false := by rw [beq_eq_false_iff_ne]; omega
      have hok := Pr.val_ne h0
      obtain ⟨⟨A0, A1⟩, ⟨l0, l1, hall⟩, ok⟩ := Pr.okB_ok hok
      have HW := Lib.hid (Pr.val_yes hok)
      obtain ⟨t1, t2⟩ := Ho.sum_bd hall l1
      have hT := ok.t0
      clear hok h0
      rw [HW.out] at X4 hz
      rw [HW.out]
      have hwl := Pr.out_len n xs
      rw [hwl] at hz X4 ⊢
      have LS := Lib.hid (lsum_any w4 _ xs R4.out (by omega) (small_big (small_hold hall)))
      have LO := Lib.hid (fun m => lsum_any (w4.drewN m) _ (Pr.out n xs) (show R1o (w4.drewN m) (.slice a2 xs.length c2) (Pr.out n xs) by have h := X4.out.r1; rw [hwl] at *; exact h.drewN m) (by rw [hwl]; omega) (small_big (Pr.small_out ok A1)))
      rw [Pr.out_sum ok] at LO
      have HNear := Lib.hid (fun i (hi : i < xs.length) => Pr.near ok hi)
      have HOb := Lib.hid (fun i (hi : i < xs.length) => And.intro (Pr.out_nn ok hi) (Pr.out_le ok hi))
      have HXb := Lib.hid (fun i (hi : i < xs.length) => Ho.at hall hi)
      have X4r := Lib.hid (show R1o w4 (.slice a2 xs.length c2) (Pr.out n xs) by have h := X4.out.r1; rw [hwl] at *; exact h)
      have heq : (n == n) = true := by simp
      have heq2 : ((xs.length : Int) == xs.length) = true := by simp
      clear ok hall X4
      generalize Pr.out n xs = ys at *
      generalize xs.sum = T at *
      obtain ⟨k, hk⟩ : ∃ k, k = xs.length := ⟨_, rfl⟩
      rw [← hk] at LS LO HNear HOb HXb X4r hz heq2 hwl l0 l1 R4 ⊢
      have HN := Lib.hid hk; clear hk
      have HL := Lib.hid hwl; clear hwl
      go_wp2_with fail
      clear hz
      refine LS.out.mono ?_
      rintro e w5 ⟨rfl, rfl⟩
      go_wp2_with fail
      go_loopw [7] (fun x wr => ∃ i : Nat, i ≤ k ∧ x = .int .i64 i ∧ ∃ m, wr = w4.drewN m) (fun x _ => k - (intOf x).toNat)
      case atStart => exact ⟨0, Nat.zero_le _, rfl, 0, rfl⟩
      case round =>
        obtain ⟨i, hi, rfl, m, rfl⟩ := hrel
        by_cases hlt : i < k
        · obtain ⟨b, off, c, e, _, hc⟩ := R4.out.2 (by rw [← HN.out]; omega)
          rw [← HN.out] at e
          simp only [Value.slice.injEq, true_and] at e
          obtain ⟨rfl, rfl⟩ := e
          obtain ⟨b2, off2, c3, e2, _, hc2⟩ := X4r.out.2 (by rw [HL.out]; omega)
          rw [HL.out] at e2
          simp only [Value.slice.injEq, true_and] at e2
          obtain ⟨rfl, rfl⟩ := e2
          have d0 := hc i (by rw [← HN.out]; exact hlt)
          have d1 := hc2 i (by rw [HL.out]; exact hlt)
          clear hc hc2
          obtain ⟨g1, g2⟩ := HNear.out i hlt
          obtain ⟨y0, y1⟩ := HOb.out i hlt
          obtain ⟨x0, x1⟩ := HXb.out i hlt
          generalize xs.getD i 0 = x at d0 g1 g2 x0 x1
          generalize ys.getD i 0 = y at d1 g1 g2 y0 y1
          have hq1 : y * T ≤ 1000000000 * 79992 := Int.mul_le_mul (by omega) t2 t1 (by omega)
          have hq0 : 0 ≤ y * T := Int.mul_nonneg y0 t1
          have hq2 : n * x ≤ 1000000000 * 9999 := Int.mul_le_mul A1 x1 x0 (by omega)
          have hq3 : 0 ≤ n * x := Int.mul_nonneg A0 x0
          have W1 : IntKind.i64.wrap (y * T) = y * T := IntWalk.i64_in _ (by omega)
          have W2 : IntKind.i64.wrap (n * x) = n * x := IntWalk.i64_in _ (by omega)
          have W3 : IntKind.i64.wrap (y * T - n * x) = y * T - n * x := IntWalk.i64_in _ (by omega)
          have W4 : IntKind.i64.wrap (-(y * T - n * x)) = -(y * T - n * x) := IntWalk.i64_in _ (by omega)
          have hi1 : (i : Int) < k := by omega
          have hi0 : (0 : Int) ≤ i := by omega
          have f1 : ¬ T ≤ y * T - n * x := by omega
          have f2 : ¬ T ≤ -(y * T - n * x) := by omega
          go_wp2_with fail
          go_quiet (fail)
          go_wp2_with fail
          go_roundw
          case rel => exact ⟨i + 1, by omega, by go_num, _, (by first | exact World.drewN_drewN _ _ _ | rfl)⟩
          case measure => simp [intOf]; omega
        · obtain rfl : i = k := by omega
          go_wp2_with (first | (go_at_call 21; (with_reducible refine (LO.out _).mono ?_); rintro e w6 ⟨rfl, rfl⟩))
          go_ret
          exact ⟨rfl, belowD HB4.out _⟩
set_option maxRecDepth 8000 in
set_option maxHeartbeats 8000000 in
theorem topShares (n : Int) (a : Option Addr) (len cap : Nat) (zs : List Int) (w : World) (hv0 : IsRow .i64 w a len cap zs) :
    Calls Try.prog 6 #[.int .i64 n, .slice a len cap] w fun e w' => e = .returned (.bool true) ∧ Below w.heap.size w w' := by
  obtain ⟨hlen0, hR0⟩ := r1_of_row hv0
  have hmax0 : len ≤ 9223372036854775807 := by rcases hv0 with ⟨-, rfl, -⟩ | ⟨x, rfl, h1, h2, -⟩ <;> first | omega | (unfold maxLen at *; omega)
  clear hv0
  generalize zs.take len = xs at hlen0 hR0
  subst hlen0
  have R1 := Lib.hid hR0; clear hR0
  have hm : xs.length ≤ 9223372036854775807 := hmax0
  have hb1 := Below.refl w.heap.size w
  have hxl := Pr.val_le (A := n) (xs := xs)
  go_enter Try.func6, Try.ntmps6
  go_wp2_with fail
  refine (proRate_any _ _ _ _ R1.out hm).mono ?_
  rintro e w2 ⟨v2, rfl, h2, hb2⟩
  have R2 := Lib.hid (R1.out.below hb2 (Nat.le_refl _))
  have HB2 := Lib.hid (hb1.trans (hb2.mono hb1.size))
  obtain ⟨a2, c2, rfl⟩ := h2.slice
  have X2 := Lib.hid h2
  clear h2 hb2 R1
  go_wp2_with fail
  refine (sproRate_any _ _ _ _ R2.out hm).mono ?_
  rintro e w3 ⟨v3, rfl, h3, hb3⟩
  have R3' := Lib.hid (R2.out.below hb3 (Nat.le_refl _))
  have HB3 := Lib.hid (HB2.out.trans (hb3.mono HB2.out.size))
  have X3 := Lib.hid (X2.out.below hb3 (Nat.le_refl _))
  have Y3 := Lib.hid h3.r1
  clear h3 hb3 X2 R2
  go_wp2_with fail
  refine (equ_same _ _ _ _ X3.out.r1 Y3.out (by omega)).mono ?_
  rintro e w4 ⟨rfl, hb4⟩
  have R4 := Lib.hid (R3'.out.below hb4 (Nat.le_refl _))
  have HB4 := Lib.hid (HB3.out.trans (hb4.mono HB3.out.size))
  have X4 := Lib.hid (X3.out.below hb4 (Nat.le_refl _))
  clear hb4 X3 R3' Y3
  by_cases h0 : (Pr.val n xs).length = 0
  · have hz : (((Pr.val n xs).length : Int) == 0) = true := by rw [h0]; rfl
    clear h0
    go_wp2_with fail
    refine (sproRate_any _ _ _ _ R4.out hm).mono ?_
    rintro e w5 ⟨v5, rfl, h5, hb5⟩
    have X5 := Lib.hid (X4.out.below hb5 (Nat.le_refl _))
    have HB5 := Lib.hid (HB4.out.trans (hb5.mono HB4.out.size))
    have Y5 := Lib.hid h5.r1
    clear h5 hb5 hz
    go_wp2_with fail
    refine (equ_same _ _ _ _ X5.out.r1 Y5.out (by omega)).mono ?_
    rintro e w6 ⟨rfl, hb6⟩
    go_wp2_with fail
    go_ret
    exact ⟨rfl, HB5.out.trans (hb6.mono HB5.out.size)⟩
  · have hz : (((Pr.val n xs).length : Int) == 0) = false := by rw [beq_eq_false_iff_ne]; omega
    have hok := Pr.val_ne h0
    obtain ⟨⟨A0, A1⟩, ⟨l0, l1, hall⟩, ok⟩ := Pr.okB_ok hok
    have HW := Lib.hid (Pr.val_yes hok)
    obtain ⟨t1, t2⟩ := Ho.sum_bd hall l1
    have hT := ok.t0
    clear hok h0
    rw [HW.out] at X4 hz
    rw [HW.out]
    have hwl := Pr.out_len n xs
    rw [hwl] at hz X4 ⊢
    have LS := Lib.hid (lsum_any w4 _ xs R4.out (by omega) (small_big (small_hold hall)))
    have LO := Lib.hid (fun m => lsum_any (w4.drewN m) _ (Pr.out n xs) (show R1o (w4.drewN m) (.slice a2 xs.length c2) (Pr.out n xs) by have h := X4.out.r1; rw [hwl] at *; exact h.drewN m) (by rw [hwl]; omega) (small_big (Pr.small_out ok A1)))
    rw [Pr.out_sum ok] at LO
    have HNear := Lib.hid (fun i (hi : i < xs.length) => Pr.near ok hi)
    have HOb := Lib.hid (fun i (hi : i < xs.length) => And.intro (Pr.out_nn ok hi) (Pr.out_le ok hi))
    have HXb := Lib.hid (fun i (hi : i < xs.length) => Ho.at hall hi)
    have X4r := Lib.hid (show R1o w4 (.slice a2 xs.length c2) (Pr.out n xs) by have h := X4.out.r1; rw [hwl] at *; exact h)
    have heq : (n == n) = true := by simp
    have heq2 : ((xs.length : Int) == xs.length) = true := by simp
    clear ok hall X4
    generalize Pr.out n xs = ys at *
    generalize xs.sum = T at *
    obtain ⟨k, hk⟩ : ∃ k, k = xs.length := ⟨_, rfl⟩
    rw [← hk] at LS LO HNear HOb HXb X4r hz heq2 hwl l0 l1 R4 ⊢
    have HN := Lib.hid hk; clear hk
    have HL := Lib.hid hwl; clear hwl
    go_wp2_with fail
    clear hz
    refine LS.out.mono ?_
    rintro e w5 ⟨rfl, rfl⟩
    go_wp2_with fail
    go_loopw [7] (fun x wr => ∃ i : Nat, i ≤ k ∧ x = .int .i64 i ∧ ∃ m, wr = w4.drewN m) (fun x _ => k - (intOf x).toNat)
    case atStart => exact ⟨0, Nat.zero_le _, rfl, 0, rfl⟩
    case round =>
      obtain ⟨i, hi, rfl, m, rfl⟩ := hrel
      by_cases hlt : i < k
      · obtain ⟨b, off, c, e, _, hc⟩ := R4.out.2 (by rw [← HN.out]; omega)
        rw [← HN.out] at e
        simp only [Value.slice.injEq, true_and] at e
        obtain ⟨rfl, rfl⟩ := e
        obtain ⟨b2, off2, c3, e2, _, hc2⟩ := X4r.out.2 (by rw [HL.out]; omega)
        rw [HL.out] at e2
        simp only [Value.slice.injEq, true_and] at e2
        obtain ⟨rfl, rfl⟩ := e2
        have d0 := hc i (by rw [← HN.out]; exact hlt)
        have d1 := hc2 i (by rw [HL.out]; exact hlt)
        clear hc hc2
        obtain ⟨g1, g2⟩ := HNear.out i hlt
        obtain ⟨y0, y1⟩ := HOb.out i hlt
        obtain ⟨x0, x1⟩ := HXb.out i hlt
        generalize xs.getD i 0 = x at d0 g1 g2 x0 x1
        generalize ys.getD i 0 = y at d1 g1 g2 y0 y1
        have hq1 : y * T ≤ 1000000000 * 79992 := Int.mul_le_mul (by omega) t2 t1 (by omega)
        have hq0 : 0 ≤ y * T := Int.mul_nonneg y0 t1
        have hq2 : n * x ≤ 1000000000 * 9999 := Int.mul_le_mul A1 x1 x0 (by omega)
        have hq3 : 0 ≤ n * x := Int.mul_nonneg A0 x0
        have W1 : IntKind.i64.wrap (y * T) = y * T := IntWalk.i64_in _ (by omega)
        have W2 : IntKind.i64.wrap (n * x) = n * x := IntWalk.i64_in _ (by omega)
        have W3 : IntKind.i64.wrap (y * T - n * x) = y * T - n * x := IntWalk.i64_in _ (by omega)
        have W4 : IntKind.i64.wrap (-(y * T - n * x)) = -(y * T - n * x) := IntWalk.i64_in _ (by omega)
        have hi1 : (i : Int) < k := by omega
        have hi0 : (0 : Int) ≤ i := by omega
        have f1 : ¬ T ≤ y * T - n * x := by omega
        have f2 : ¬ T ≤ -(y * T - n * x) := by omega
        go_wp2_with fail
        go_quiet (fail)
        go_wp2_with fail
        go_roundw
        case rel => exact ⟨i + 1, by omega, by go_num, _, (by first | exact World.drewN_drewN _ _ _ | rfl)⟩
        case measure => simp [intOf]; omega
      · obtain rfl : i = k := by omega
        go_wp2_with (first | (go_at_call 21; (with_reducible refine (LO.out _).mono ?_); rintro e w6 ⟨rfl, rfl⟩))
        go_ret
        exact ⟨rfl, belowD HB4.out _⟩
end Go.Proofs.Ytgiejiiiokdbpaa
