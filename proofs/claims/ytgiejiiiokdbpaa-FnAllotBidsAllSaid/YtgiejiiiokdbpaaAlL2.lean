/- The law of what bids get in all. -/
import Derived.Test.YtgiejiiiokdbpaaAlL
namespace Go.Proofs.Ytgiejiiiokdbpaa
open Go.RowKit
theorem Al.val_ne {ps : List Pr} {n : Int} (h : (Al.val ps n).length ≠ 0) : Bd.auc ps n = true := by
  cases hb : Bd.auc ps n with
  | false => rw [Al.val_no hb] at h; simp at h
  | true => rfl
set_option maxRecDepth 8000 in
set_option maxHeartbeats 8000000 in
theorem lawAllotBids (a : Option Addr) (len cap : Nat) (zs : List Int) (w : World) (h : IsRow .u8 w a len cap zs) :
    Calls Try.prog 13 #[.slice a len cap] w fun e w' => e = .returned (.bool true) ∧ Below w.heap.size w w' := by
  have H := Lib.hid h; clear h
  by_cases hl : 1048576 < (len : Int)
  · go_enter Try.func13, Try.ntmps13
    go_wp2_with fail
    go_ret
    exact ⟨rfl, Below.refl _ _⟩
  · have hl' := decide_eq_false hl
    clear hl
    go_enter Try.func13, Try.ntmps13
    go_wp2_with fail
    refine (drawAB_any _ _ _ _ _ H.out).mono ?_
    rintro e w1 ⟨xs, ob, oc, n, rfl, hR, hlen, ⟨n0, n1⟩, hb1⟩
    have R1 := Lib.hid hR; clear hR
    have hm : xs.length ≤ 9223372036854775807 := by omega
    have hxl := Al.val_le (ps := xs) (n := n)
    go_wp2_with fail
    refine (allot_any _ _ _ _ R1.out hm).mono ?_
    rintro e w2 ⟨v2, rfl, h2, hb2⟩
    have R2 := Lib.hid (R1.out.below hb2 (Nat.le_refl _))
    have HB2 := Lib.hid (hb1.trans (hb2.mono hb1.size))
    obtain ⟨a2, c2, rfl⟩ := h2.slice
    have X2 := Lib.hid h2
    clear h2 hb2 R1
    go_wp2_with fail
    refine (sallot_any _ _ _ _ R2.out hm).mono ?_
    rintro e w3 ⟨v3, rfl, h3, hb3⟩
    have R3' := Lib.hid (R2.out.below hb3 (Nat.le_refl _))
    have HB3 := Lib.hid (HB2.out.trans (hb3.mono HB2.out.size))
    have X3 := Lib.hid (X2.out.below hb3 (Nat.le_refl _))
    have Y3 := Lib.hid h3.r1
    clear h3 hb3 X2 R2
    go_wp2_with fail
    refine (equ_same _ _ _ _ X3.out.r1 Y3.out (by omega)).mono ?_
    rintro e w4 ⟨rfl, hb4⟩
    have R4 := Lib.hid (R3'.out.below hb4 (Nat.le_refl _))
    have HB4 := Lib.hid (HB3.out.trans (hb4.mono HB3.out.size))
    have X4 := Lib.hid (X3.out.below hb4 (Nat.le_refl _))
    clear hb4 X3 R3' Y3
    by_cases h0 : (Al.val xs n).length = 0
    · have hz : (((Al.val xs n).length : Int) == 0) = true := by rw [h0]; rfl
      clear h0
      go_wp2_with fail
      refine (sallot_any _ _ _ _ R4.out hm).mono ?_
      rintro e w5 ⟨v5, rfl, h5, hb5⟩
      have X5 := Lib.hid (X4.out.below hb5 (Nat.le_refl _))
      have HB5 := Lib.hid (HB4.out.trans (hb5.mono HB4.out.size))
      have Y5 := Lib.hid h5.r1
      clear h5 hb5 hz
      go_wp2_with fail
      refine (equ_same _ _ _ _ X5.out.r1 Y5.out (by omega)).mono ?_
      rintro e w6 ⟨rfl, hb6⟩
      go_wp2_with fail
      go_ret
      exact ⟨rfl, HB5.out.trans (hb6.mono HB5.out.size)⟩
    · have hz : (((Al.val xs n).length : Int) == 0) = false := by rw [beq_eq_false_iff_ne]; omega
      have hok := Al.val_ne h0
      obtain ⟨hok1, hn⟩ := (Bool.and_eq_true _ _).mp (show (Bd.ok xs && btw n 1 1000000000) = true from hok)
      obtain ⟨A0, A1⟩ := btw_iff.1 hn
      obtain ⟨l1, hall⟩ := Bd.parts hok1
      have HW := Lib.hid (Al.val_yes hok)
      have hwl := Al.res_len hok
      have hsum := Al.res_sum hok
      have HXb := Lib.hid (fun i (hi : i < xs.length) => Bd.one_iff.1 (allB_at pr0 hall hi))
      have HRb := Lib.hid (fun i (hi : i < xs.length) => Al.res_bd hok hi)
      have HTk := Lib.hid (fun i (hi : i < xs.length) => (by have h := Al.want_take (f := fun _ => true) hi; exact h : (Al.all xs).take (i + 1) = (Al.all xs).take i ++ [(xs.getD i pr0).2]))
      have HTs := Lib.hid (fun i (hi : i ≤ xs.length) => (show 0 ≤ ((Al.all xs).take i).sum ∧ ((Al.all xs).take i).sum ≤ 9999 * (i : Int) from Al.want_sum (f := fun _ => true) hall hi))
      have HTe := Lib.hid (show (Al.all xs).take xs.length = Al.all xs from List.take_of_length_le (by unfold Al.all; rw [Al.want_len]; exact Nat.le_refl _))
      rw [← Al.sum_all] at hsum
      clear hok hok1 hn h0
      rw [HW.out] at X4 hz
      rw [HW.out]
      rw [hwl] at hz X4 ⊢
      have LO := Lib.hid (fun m => lsum_any (w4.drewN m) _ (Al.res xs n) (show R1o (w4.drewN m) (.slice a2 xs.length c2) (Al.res xs n) by have h := X4.out.r1; rw [hwl] at *; exact h.drewN m) (by rw [hwl]; omega) (fun i hi => by rw [hwl] at hi; have h1 := HRb.out i hi; have h2 := HXb.out i hi; omega))
      rw [hsum] at LO
      have X4r := Lib.hid (show R1o w4 (.slice a2 xs.length c2) (Al.res xs n) by have h := X4.out.r1; rw [hwl] at *; exact h)
      have heq2 : ((xs.length : Int) == xs.length) = true := by simp
      clear hall X4 hsum
      generalize Al.res xs n = ys at *
      generalize Al.all xs = qs at *
      obtain ⟨k, hk⟩ : ∃ k, k = xs.length := ⟨_, rfl⟩
      rw [← hk] at LO HXb HRb HTk HTs HTe X4r hz heq2 hwl l1 R4 ⊢
      have HN := Lib.hid hk; clear hk
      have HL := Lib.hid hwl; clear hwl
      go_wp2_with fail
      clear hz
      go_loopw [6, 7] (fun s x wr => ∃ i : Nat, i ≤ k ∧ x = .int .i64 i ∧ s = .int .i64 (qs.take i).sum ∧ ∃ m, wr = w4.drewN m) (fun _ x _ => k - (intOf x).toNat)
      case atStart => exact ⟨0, Nat.zero_le _, rfl, by simp, 0, rfl⟩
      case round =>
        obtain ⟨i, hi, rfl, rfl, m, rfl⟩ := hrel
        by_cases hlt : i < k
        · obtain ⟨b, off, c, e, _, hc⟩ := R4.out.2 (by rw [← HN.out]; omega)
          rw [← HN.out] at e
          simp only [Value.slice.injEq, Option.some.injEq, Addr.mk.injEq, and_true, true_and] at e
          obtain ⟨⟨rfl, rfl⟩, rfl⟩ := e
          obtain ⟨b2, off2, c3, e2, _, hc2⟩ := X4r.out.2 (by rw [HL.out]; omega)
          rw [HL.out] at e2
          simp only [Value.slice.injEq, true_and] at e2
          obtain ⟨rfl, rfl⟩ := e2
          obtain ⟨d0, d1⟩ := hc i (by rw [← HN.out]; exact hlt)
          have e1 := hc2 i (by rw [HL.out]; exact hlt)
          clear hc hc2
          simp only [Nat.zero_add] at d0 d1
          obtain ⟨y0, y1⟩ := HRb.out i hlt
          obtain ⟨-, x0, x1⟩ := HXb.out i hlt
          obtain ⟨s0, s1⟩ := HTs.out i hi
          have htk := HTk.out i hlt
          have hpi : xs.getD i (0, 0) = xs.getD i pr0 := rfl
          rw [hpi] at d0 d1
          clear hpi
          generalize xs.getD i pr0 = p at d0 d1 y1 x0 x1 htk
          obtain ⟨u, x⟩ := p
          simp only at d0 d1 y1 x0 x1 htk
          generalize ys.getD i 0 = y at e1 y0 y1
          have HT := Lib.hid (show (qs.take (i + 1)).sum = (qs.take i).sum + x by rw [htk, List.sum_append]; simp)
          clear htk
          generalize (qs.take i).sum = S at s0 s1 HT
          have hi1 : (i : Int) < k := by omega
          have hi0 : (0 : Int) ≤ i := by omega
          have WS : IntKind.i64.wrap (S + x) = S + x := IntWalk.i64_in _ (by omega)
          have f1 := decide_eq_false (show ¬ y < 0 by omega)
          have f2 := decide_eq_false (show ¬ y > x by omega)
          go_wp2_with fail
          go_quiet (fail)
          go_wp2_with fail
          go_roundw
          case rel => exact ⟨i + 1, by omega, by go_num, by rw [HT.out], _, (by first | exact World.drewN_drewN _ _ _ | rfl)⟩
          case measure => simp [intOf]; omega
        · obtain rfl : i = k := by omega
          rw [HTe.out] at *
          obtain ⟨s0, s1⟩ := HTs.out i hi
          generalize qs.sum = S at *
          by_cases hns : n ≤ S
          · rw [show min n S = n from Int.min_eq_left hns] at LO
            have heq : (n == n) = true := by simp
            go_wp2_with (first | (go_at_call 21; (with_reducible refine (LO.out _).mono ?_); rintro e w6 ⟨rfl, rfl⟩))
            go_ret
            exact ⟨rfl, belowD HB4.out _⟩
          · rw [show min n S = S from Int.min_eq_right (by omega)] at LO
            have heq : (S == S) = true := by simp
            go_wp2_with (first | (go_at_call 21; (with_reducible refine (LO.out _).mono ?_); rintro e w6 ⟨rfl, rfl⟩))
            go_ret
            exact ⟨rfl, belowD HB4.out _⟩
end Go.Proofs.Ytgiejiiiokdbpaa
