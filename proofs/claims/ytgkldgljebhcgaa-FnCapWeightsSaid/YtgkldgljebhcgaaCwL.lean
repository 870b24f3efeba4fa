/- The laws of weights with a cap. -/
import Derived.Test.YtgkldgljebhcgaaCwD
namespace Go.Proofs.Ytgkldgljebhcgaa
open Go.RowKit
theorem Cw.val_ne {xs : List Int} {L : Int} (h : (Cw.val xs L).length ≠ 0) : Cw.argB xs L = true := by
  cases hb : Cw.argB xs L with
  | false => rw [Cw.val_no hb] at h; simp at h
  | true => rfl
theorem Cw.arg_parts {xs : List Int} {L : Int} (h : Cw.argB xs L = true) : Cw.ok xs = true ∧ (0 ≤ L ∧ L ≤ 1000) ∧ 1000 ≤ L * (xs.length : Int) := by
  unfold Cw.argB at h
  rw [Bool.and_eq_true, Bool.and_eq_true, btw_iff, decide_eq_true_eq] at h
  exact h
theorem Cw.res_bd {xs : List Int} {L : Int} (h : Cw.argB xs L = true) {i : Nat} (hi : i < xs.length) : 0 ≤ (Cw.res xs L).getD i 0 ∧ (Cw.res xs L).getD i 0 ≤ L ∧ min (xs.getD i 0) L ≤ (Cw.res xs L).getD i 0 := by
  obtain ⟨h0, ⟨L0, L1⟩, -⟩ := Cw.arg_parts h
  have h1 := Cw.at (Cw.parts h0).2.2.1 hi
  have h2 := (Cw.res_end h).2.2 i hi
  omega
theorem Cw.res_arg {xs : List Int} {L : Int} (h : Cw.argB xs L = true) : Cw.argB (Cw.res xs L) L = true := by
  obtain ⟨h0, ⟨L0, L1⟩, ha⟩ := Cw.arg_parts h
  obtain ⟨n1, n8, -, -⟩ := Cw.parts h0
  have hl := (Cw.res_end h).1
  have hs := (Cw.res_end h).2.1
  have hw : (Cw.res xs L).all wtB = true := List.all_eq_true.2 (Cw.mem_at fun i hi => by
    have := Cw.res_bd h (i := i) (by rw [← hl]; exact hi)
    exact btw_iff.2 (by omega))
  unfold Cw.argB Cw.ok Cw.pre
  rw [Bool.and_eq_true, Bool.and_eq_true, Bool.and_eq_true, Bool.and_eq_true, btw_iff, btw_iff, decide_eq_true_eq, hl, hs]
  exact ⟨⟨⟨by omega, hw⟩, rfl⟩, by omega, ha⟩
/-- What has no weight above the cap stays. -/
theorem Cw.val_stay {xs : List Int} {L : Int} (h : Cw.argB xs L = true) (hn : Cw.anyB L xs = false) : Cw.val xs L = xs := by
  rw [Cw.val_yes h]
  exact Cw.go_done hn
theorem Cw.val_again {xs : List Int} {L : Int} (h : Cw.argB xs L = true) : Cw.val (Cw.res xs L) L = Cw.res xs L :=
  Cw.val_stay (Cw.res_arg h) (Cw.any_of fun i hi => (Cw.res_bd h (by rw [← (Cw.res_end h).1]; exact hi)).2.1)
theorem Cw.four {ws : List Int} (hl : ws.length = 4) (hs : ws.sum = 1000) (h : ∀ i, i < 4 → ws.getD i 0 ≤ 250) : ws = [250, 250, 250, 250] := by
  match ws, hl with
  | [a, b, c, d], _ =>
    have h0 := h 0 (by omega)
    have h1 := h 1 (by omega)
    have h2 := h 2 (by omega)
    have h3 := h 3 (by omega)
    simp only [List.getD_cons_zero, List.getD_cons_succ, List.sum_cons, List.sum_nil] at h0 h1 h2 h3 hs
    obtain rfl : a = 250 := by omega
    obtain rfl : b = 250 := by omega
    obtain rfl : c = 250 := by omega
    obtain rfl : d = 250 := by omega
    rfl
theorem Cw.val_four {k : Int} (k0 : 0 ≤ k) (k1 : k ≤ 1000) : Cw.val [1000 - k, k, 0, 0] 250 = [250, 250, 250, 250] := by
  have ha : Cw.argB [1000 - k, k, 0, 0] 250 = true := by
    unfold Cw.argB Cw.ok Cw.pre
    rw [Bool.and_eq_true, Bool.and_eq_true, Bool.and_eq_true, Bool.and_eq_true, btw_iff, btw_iff, decide_eq_true_eq]
    refine ⟨⟨⟨by simp, List.all_eq_true.2 fun x hx => ?_⟩, by simp⟩, by omega, by simp⟩
    simp only [List.mem_cons, List.not_mem_nil, or_false] at hx
    exact btw_iff.2 (by omega)
  rw [Cw.val_yes ha]
  have h := Cw.res_end ha
  exact Cw.four (by rw [h.1]; rfl) h.2.1 (fun i hi => (h.2.2 i hi).1)
theorem Cw.r4 (w : World) (a b c d : Int) : R1o (w.alloc (.cells #[.int .i64 a, .int .i64 b, .int .i64 c, .int .i64 d] 3)) (.slice (some ⟨w.heap.size, 0, none⟩) 4 4) [a, b, c, d] := by
  have h := Blk.new w #[.int .i64 a, .int .i64 b, .int .i64 c, .int .i64 d] 3
  refine ⟨⟨_, _, rfl⟩, fun _ => ⟨_, 0, 4, rfl, h.lt, fun i hi => ?_⟩⟩
  unfold Blk at h
  generalize w.alloc (.cells #[.int .i64 a, .int .i64 b, .int .i64 c, .int .i64 d] 3) = w1 at h ⊢
  match i, hi with
  | 0, _ => simp [World.cell?, h]
  | 1, _ => simp [World.cell?, h]
  | 2, _ => simp [World.cell?, h]
  | 3, _ => simp [World.cell?, h]
theorem Cw.small_big {xs : List Int} (h : ∀ i, i < xs.length → 0 ≤ xs.getD i 0 ∧ xs.getD i 0 ≤ 1000) : ∀ i, i < xs.length → -1000000000000000 ≤ xs.getD i 0 ∧ xs.getD i 0 ≤ 1000000000000000 := fun i hi => by have := h i hi; omega
theorem Cw.res_eq {xs : List Int} {L : Int} (hn : Cw.anyB L xs = false) : Cw.res xs L = xs := Cw.go_done hn
theorem Cw.free_step {L : Int} {xs : List Int} {i : Nat} (hi : i < xs.length) : (!Cw.anyB L (xs.take (i + 1))) = ((!Cw.anyB L (xs.take i)) && decide (xs.getD i 0 ≤ L)) := by
  rw [Cw.any_take hi, Bool.not_or]
  congr 1
  by_cases h : L < xs.getD i 0
  · rw [decide_eq_true h, decide_eq_false (by omega)]; rfl
  · rw [decide_eq_false h, decide_eq_true (by omega)]; rfl
set_option maxRecDepth 8000 in
set_option maxHeartbeats 8000000 in
theorem lawCapWeights (a : Option Addr) (len cap : Nat) (zs : List Int) (w : World) (h : IsRow .u8 w a len cap zs) :
    Calls Try.prog 3 #[.slice a len cap] w fun e w' => e = .returned (.bool true) ∧ Below w.heap.size w w' := by
  have H := Lib.hid h; clear h
  by_cases hl : 1048576 < (len : Int)
  · go_enter Try.func3, Try.ntmps3
    go_wp2_with fail
    go_ret
    exact ⟨rfl, Below.refl _ _⟩
  · have hl' := decide_eq_false hl
    go_enter Try.func3, Try.ntmps3
    go_wp2_with fail
    refine (drawCW_any _ _ _ _ _ H.out).mono ?_
    rintro e w1 ⟨n, a1, c1, xs, rfl, hR, hlen, ⟨n0, n1⟩, hb1⟩
    have R1 := Lib.hid hR; clear hR
    have hm : xs.length ≤ 9223372036854775807 := by omega
    have hxl : (Cw.val xs n).length ≤ 9 := by
      cases hb : Cw.argB xs n with
      | false => rw [Cw.val_no hb]; simp
      | true => rw [Cw.val_yes hb, (Cw.res_end hb).1]; exact hlen
    go_wp2_with fail
    refine (cap_any _ _ _ _ R1.out hm).mono ?_
    rintro e w2 ⟨v2, rfl, h2, hb2⟩
    have R2 := Lib.hid (R1.out.below hb2 (Nat.le_refl _))
    have HB2 := Lib.hid (hb1.trans (hb2.mono hb1.size))
    obtain ⟨a2, c2, rfl⟩ := h2.slice
    have X2 := Lib.hid h2
    clear h2 hb2 R1
    go_wp2_with fail
    refine (scap_any _ _ _ _ R2.out hm).mono ?_
    rintro e w3 ⟨v3, rfl, h3, hb3⟩
    have R3' := Lib.hid (R2.out.below hb3 (Nat.le_refl _))
    have HB3 := Lib.hid (HB2.out.trans (hb3.mono HB2.out.size))
    have X3 := Lib.hid (X2.out.below hb3 (Nat.le_refl _))
    have Y3 := Lib.hid h3.r1
    clear h3 hb3 X2 R2
    go_wp2_with fail
    refine (equ_same _ _ _ _ X3.out.r1 Y3.out (by omega)).mono ?_
    rintro e w4 ⟨rfl, hb4⟩
    have R4 := Lib.hid (R3'.out.below hb4 (Nat.le_refl _))
    have HB4 := Lib.hid (HB3.out.trans (hb4.mono HB3.out.size))
    have X4 := Lib.hid (X3.out.below hb4 (Nat.le_refl _))
    clear hb4 X3 R3' Y3
    by_cases h0 : (Cw.val xs n).length = 0
    · have hz : (((Cw.val xs n).length : Int) == 0) = true := by rw [h0]; rfl
      clear h0
      go_wp2_with fail
      refine (scap_any _ _ _ _ R4.out hm).mono ?_
      rintro e w5 ⟨v5, rfl, h5, hb5⟩
      have X5 := Lib.hid (X4.out.below hb5 (Nat.le_refl _))
      have HB5 := Lib.hid (HB4.out.trans (hb5.mono HB4.out.size))
      have Y5 := Lib.hid h5.r1
      clear h5 hb5 hz
      go_wp2_with fail
      refine (equ_same _ _ _ _ X5.out.r1 Y5.out (by omega)).mono ?_
      rintro e w6 ⟨rfl, hb6⟩
      go_wp2_with fail
      go_ret
      exact ⟨rfl, HB5.out.trans (hb6.mono HB5.out.size)⟩
    · have hz : (((Cw.val xs n).length : Int) == 0) = false := by rw [beq_eq_false_iff_ne]; omega
      have hok := Cw.val_ne h0
      obtain ⟨hk, ⟨L0, L1⟩, hla⟩ := Cw.arg_parts hok
      obtain ⟨x1, x8, hw, -⟩ := Cw.parts hk
      have HW := Lib.hid (Cw.val_yes hok)
      have HAg := Lib.hid (Cw.val_again hok)
      have HArg := Lib.hid (Cw.res_arg hok)
      have hwl := (Cw.res_end hok).1
      have HSum := Lib.hid (Cw.res_end hok).2.1
      have HRb := Lib.hid (fun i (hi : i < xs.length) => Cw.res_bd hok hi)
      have HXb := Lib.hid (fun i (hi : i < xs.length) => Cw.at hw hi)
      have HSt := Lib.hid (fun (h : Cw.anyB n xs = false) => Cw.res_eq h)
      clear hok h0 hk hw
      rw [HW.out] at X4 hz
      rw [HW.out]
      rw [hwl] at hz X4 ⊢
      have HLr := Lib.hid hwl
      have X4r := Lib.hid X4.out.r1
      clear hwl HW
      generalize Cw.res xs n = R at *
      have LO := Lib.hid (fun m => lsum_any (w4.drewN m) _ R (X4r.out.drewN m) (by rw [HLr.out]; omega) (Cw.small_big fun i hi => by have := HRb.out i (by rw [← HLr.out]; exact hi); omega))
      rw [HSum.out] at LO
      have CA := Lib.hid (fun W (hb : Below w4.heap.size w4 W) => cap_any W _ R n (X4r.out.below hb (Nat.le_refl _)) (by rw [HLr.out]; omega))
      rw [HAg.out] at CA
      have HFs := Lib.hid (fun i (hi : i < xs.length) => Cw.free_step (L := n) hi)
      have HFe := Lib.hid (show ∀ i, xs.length ≤ i → xs.take i = xs from fun i hi => List.take_of_length_le hi)
      obtain ⟨k, hk⟩ : ∃ k, k = xs.length := ⟨_, rfl⟩
      rw [← hk] at x1 x8 hm hlen hla HLr HRb HXb X4 X4r HFs HFe hz R4 CA LO ⊢
      have HN := Lib.hid hk; clear hk
      have heq2 : ((k : Int) == k) = true := by simp
      go_wp2_with fail
      clear hz
      go_loopw [6, 7] (fun f x wr => ∃ i : Nat, i ≤ k ∧ x = .int .i64 i ∧ f = .bool (!Cw.anyB n (xs.take i)) ∧ ∃ m, wr = w4.drewN m) (fun _ x _ => k - (intOf x).toNat)
      case atStart => exact ⟨0, Nat.zero_le _, rfl, rfl, 0, rfl⟩
      case round =>
        obtain ⟨i, hi, rfl, rfl, m, rfl⟩ := hrel
        by_cases hlt : i < k
        · have hk1 : (i : Int) < k := by omega
          have hk0 : (0 : Int) ≤ i := by omega
          have HFi := Lib.hid (HFs.out i hlt)
          obtain ⟨b1, o1, d1, e1, hbl1, hc1⟩ := R4.out.2 (by rw [← HN.out]; omega)
          rw [← HN.out] at e1
          simp only [Value.slice.injEq, true_and] at e1
          obtain ⟨rfl, rfl⟩ := e1
          obtain ⟨b2, o2, d2, e2, hbl2, hc2⟩ := X4r.out.2 (by rw [HLr.out]; omega)
          rw [HLr.out] at e2
          simp only [Value.slice.injEq, true_and] at e2
          obtain ⟨rfl, rfl⟩ := e2
          have q1 := hc1 i (by rw [← HN.out]; exact hlt)
          have q2 := hc2 i (by rw [HLr.out]; exact hlt)
          obtain ⟨y0, y1, y2⟩ := HRb.out i hlt
          obtain ⟨x0, x3⟩ := HXb.out i hlt
          clear hc1 hc2
          generalize xs.getD i 0 = x at q1 x0 x3 y2 HFi
          generalize R.getD i 0 = y at q2 y0 y1 y2
          obtain ⟨t, ht⟩ : ∃ t, t = min x n := ⟨_, rfl⟩
          rw [← ht] at y2
          have fmin : ∀ W : World, (Builtin.min_ #[3, 3] 3 #[.int .i64 x, .int .i64 n]).run Try.prog W = .ok (.int .i64 t) W := fun W => by rw [ht]; exact run_min2' _ _ _ _ W
          clear ht
          have g1 : ¬ n < y := by omega
          have g2 : ¬ y < t := by omega
          generalize (!Cw.anyB n (xs.take i)) = f at HFi ⊢
          cases f with
          | false =>
            have HFj := Lib.hid (HFi.out.trans (Bool.false_and _))
            clear HFi
            go_wp2_with fail
            go_quiet (fail)
            go_wp2_with fail
            go_roundw
            case rel => exact ⟨i + 1, by omega, by go_num, by rw [HFj.out], _, (by first | exact World.drewN_drewN _ _ _ | rfl)⟩
            case measure => simp [intOf]; omega
          | true =>
            have HFj := Lib.hid (HFi.out.trans (Bool.true_and _))
            clear HFi
            go_wp2_with fail
            go_quiet (fail)
            go_wp2_with fail
            go_roundw
            case rel => exact ⟨i + 1, by omega, by go_num, by rw [HFj.out], _, (by first | exact World.drewN_drewN _ _ _ | rfl)⟩
            case measure => simp [intOf]; omega
        · obtain rfl : i = k := by omega
          rw [HFe.out i (Nat.le_refl _)]
          have HBm := Lib.hid (belowD HB4.out m)
          have HXm := Lib.hid (X4r.out.drewN m)
          cases hf : Cw.anyB n xs with
          | true =>
            go_wp2_with fail
            refine (LO.out m).mono ?_
            rintro e w5 ⟨rfl, rfl⟩
            go_wp2_with fail
            refine (CA.out _ (belowD (Below.refl _ _) m)).mono ?_
            rintro e w6 ⟨v6, rfl, h6, hb6⟩
            have HR6 := Lib.hid (HXm.out.below hb6 (Nat.le_refl _))
            have HB6 := Lib.hid (HBm.out.trans (hb6.mono HBm.out.size))
            have Y6 := Lib.hid h6.r1
            clear h6 hb6
            go_wp2_with fail
            refine (equ_same _ _ _ _ Y6.out HR6.out (by rw [HLr.out]; omega)).mono ?_
            rintro e w7 ⟨rfl, hb7⟩
            go_wp2_with fail
            go_ret
            exact ⟨rfl, HB6.out.trans (hb7.mono HB6.out.size)⟩
          | false =>
            have HXR := Lib.hid (show R1o (w4.drewN m) (.slice a1 i c1) R by rw [HSt.out hf]; exact R4.out.drewN m)
            clear hf
            go_wp2_with fail
            refine (LO.out m).mono ?_
            rintro e w5 ⟨rfl, rfl⟩
            go_wp2_with fail
            refine (equ_same _ _ _ _ HXm.out HXR.out (by rw [HLr.out]; omega)).mono ?_
            rintro e w5 ⟨rfl, hb5⟩
            have HX5 := Lib.hid (HXm.out.below hb5 (Nat.le_refl _))
            have HB5 := Lib.hid (HBm.out.trans (hb5.mono HBm.out.size))
            have HB45 := Lib.hid ((belowD (Below.refl w4.heap.size w4) m).trans hb5)
            clear hb5
            go_wp2_with fail
            refine (CA.out _ HB45.out).mono ?_
            rintro e w6 ⟨v6, rfl, h6, hb6⟩
            have HR6 := Lib.hid (HX5.out.below hb6 (Nat.le_refl _))
            have HB6 := Lib.hid (HB5.out.trans (hb6.mono HB5.out.size))
            have Y6 := Lib.hid h6.r1
            clear h6 hb6
            go_wp2_with fail
            refine (equ_same _ _ _ _ Y6.out HR6.out (by rw [HLr.out]; omega)).mono ?_
            rintro e w7 ⟨rfl, hb7⟩
            go_wp2_with fail
            go_ret
            exact ⟨rfl, HB6.out.trans (hb7.mono HB6.out.size)⟩

set_option maxRecDepth 8000 in
set_option maxHeartbeats 8000000 in
theorem lawCapEqual (a : Option Addr) (len cap : Nat) (zs : List Int) (w : World) (h : IsRow .u8 w a len cap zs) :
    Calls Try.prog 4 #[.slice a len cap] w fun e w' => e = .returned (.bool true) ∧ Below w.heap.size w w' := by
  have H := Lib.hid h; clear h
  by_cases hl : 1048576 < (len : Int)
  · go_enter Try.func4, Try.ntmps4
    go_wp2_with fail
    go_ret
    exact ⟨rfl, Below.refl _ _⟩
  · have hl' := decide_eq_false hl
    go_enter Try.func4, Try.ntmps4
    go_wp2_with fail
    refine (drawCW_any _ _ _ _ _ H.out).mono ?_
    rintro e w1 ⟨n, a1, c1, xs, rfl, hR, hlen, ⟨n0, n1⟩, hb1⟩
    have R1 := Lib.hid hR; clear hR
    have hm : xs.length ≤ 9223372036854775807 := by omega
    have hxl : (Cw.val xs n).length ≤ 9 := by
      cases hb : Cw.argB xs n with
      | false => rw [Cw.val_no hb]; simp
      | true => rw [Cw.val_yes hb, (Cw.res_end hb).1]; exact hlen
    go_wp2_with fail
    refine (cap_any _ _ _ _ R1.out hm).mono ?_
    rintro e w2 ⟨v2, rfl, h2, hb2⟩
    have R2 := Lib.hid (R1.out.below hb2 (Nat.le_refl _))
    have HB2 := Lib.hid (hb1.trans (hb2.mono hb1.size))
    obtain ⟨a2, c2, rfl⟩ := h2.slice
    have X2 := Lib.hid h2
    clear h2 hb2 R1
    go_wp2_with fail
    refine (scap_any _ _ _ _ R2.out hm).mono ?_
    rintro e w3 ⟨v3, rfl, h3, hb3⟩
    have R3' := Lib.hid (R2.out.below hb3 (Nat.le_refl _))
    have HB3 := Lib.hid (HB2.out.trans (hb3.mono HB2.out.size))
    have X3 := Lib.hid (X2.out.below hb3 (Nat.le_refl _))
    have Y3 := Lib.hid h3.r1
    clear h3 hb3 X2 R2
    go_wp2_with fail
    refine (equ_same _ _ _ _ X3.out.r1 Y3.out (by omega)).mono ?_
    rintro e w4 ⟨rfl, hb4⟩
    have R4 := Lib.hid (R3'.out.below hb4 (Nat.le_refl _))
    have HB4 := Lib.hid (HB3.out.trans (hb4.mono HB3.out.size))
    have X4 := Lib.hid (X3.out.below hb4 (Nat.le_refl _))
    clear hb4 X3 R3' Y3
    by_cases h0 : (Cw.val xs n).length = 0
    · have hz : (((Cw.val xs n).length : Int) == 0) = true := by rw [h0]; rfl
      clear h0
      go_wp2_with fail
      refine (scap_any _ _ _ _ R4.out hm).mono ?_
      rintro e w5 ⟨v5, rfl, h5, hb5⟩
      have X5 := Lib.hid (X4.out.below hb5 (Nat.le_refl _))
      have HB5 := Lib.hid (HB4.out.trans (hb5.mono HB4.out.size))
      have Y5 := Lib.hid h5.r1
      clear h5 hb5 hz
      go_wp2_with fail
      refine (equ_same _ _ _ _ X5.out.r1 Y5.out (by omega)).mono ?_
      rintro e w6 ⟨rfl, hb6⟩
      go_wp2_with fail
      go_ret
      exact ⟨rfl, HB5.out.trans (hb6.mono HB5.out.size)⟩
    · have hz : (((Cw.val xs n).length : Int) == 0) = false := by rw [beq_eq_false_iff_ne]; omega
      have hok := Cw.val_ne h0
      obtain ⟨hk, ⟨L0, L1⟩, hla⟩ := Cw.arg_parts hok
      obtain ⟨x1, x8, hw, -⟩ := Cw.parts hk
      have HW := Lib.hid (Cw.val_yes hok)
      have HAg := Lib.hid (Cw.val_again hok)
      have HArg := Lib.hid (Cw.res_arg hok)
      have hwl := (Cw.res_end hok).1
      have HSum := Lib.hid (Cw.res_end hok).2.1
      have HRb := Lib.hid (fun i (hi : i < xs.length) => Cw.res_bd hok hi)
      have HXb := Lib.hid (fun i (hi : i < xs.length) => Cw.at hw hi)
      have HSt := Lib.hid (fun (h : Cw.anyB n xs = false) => Cw.res_eq h)
      clear hok h0 hk hw
      rw [HW.out] at X4 hz
      rw [HW.out]
      rw [hwl] at hz X4 ⊢
      have HLr := Lib.hid hwl
      have X4r := Lib.hid X4.out.r1
      clear hwl HW
      generalize Cw.res xs n = R at *
      have CA := Lib.hid (fun W (hb : Below w4.heap.size w4 W) => cap_any W _ R n (X4r.out.below hb (Nat.le_refl _)) (by rw [HLr.out]; omega))
      rw [HAg.out] at CA
      obtain ⟨k, hk⟩ : ∃ k, k = xs.length := ⟨_, rfl⟩
      rw [← hk] at x1 x8 hm hlen hla HLr X4 X4r hz CA ⊢
      have HN := Lib.hid hk; clear hk
      have hl0 : (0 : Int) ≤ len := by omega
      go_wp2_with fail
      clear hz
      obtain ⟨q, hq⟩ : ∃ q : Int, q = (len : Int) % 500 := ⟨_, rfl⟩
      have hq0 : 0 ≤ q := by omega
      have hq1 : q ≤ 1000 := by omega
      have F4 := Lib.hid (cap_any _ _ _ 250 (Cw.r4 w4 (1000 - q) q 0 0) (by simp))
      rw [Cw.val_four hq0 hq1] at F4
      have HBA := Lib.hid ((Below.refl w4.heap.size w4).alloc (Nat.le_refl _) (.cells #[.int .i64 (1000 - q), .int .i64 q, .int .i64 0, .int .i64 0] 3))
      rw [← hq]
      clear hq
      refine F4.out.mono ?_
      rintro e w5 ⟨v5, rfl, h5, hb5⟩
      obtain ⟨a5, c5, rfl⟩ := h5.slice
      have HX5 := Lib.hid h5
      have HB45 := Lib.hid (HBA.out.trans (hb5.mono HBA.out.size))
      clear h5 hb5 F4
      go_wp2_with fail
      refine (equ_same _ _ _ [250, 250, 250, 250] (HX5.out.alloc _).r1 (Cw.r4 w5 250 250 250 250) (by simp)).mono ?_
      rintro e w6 ⟨rfl, hb6⟩
      have HB46 := Lib.hid ((HB45.out.alloc HB45.out.size (.cells #[.int .i64 250, .int .i64 250, .int .i64 250, .int .i64 250] 3)).trans (hb6.mono (HB45.out.alloc HB45.out.size (.cells #[.int .i64 250, .int .i64 250, .int .i64 250, .int .i64 250] 3)).size))
      clear hb6
      have hpb : 0 ≤ n * (k : Int) ∧ n * (k : Int) ≤ 8000 := ⟨Int.mul_nonneg L0 (by omega), by
        have := Int.mul_le_mul L1 (show (k : Int) ≤ 8 by omega) (by omega) (by omega)
        omega⟩
      obtain ⟨p0, p1⟩ := hpb
      by_cases hp : 1000 < n * (k : Int)
      · go_wp2_with fail
        go_ret
        exact ⟨rfl, HB4.out.trans (HB46.out.mono HB4.out.size)⟩
      · have HR6 := Lib.hid (X4r.out.below HB46.out (Nat.le_refl _))
        have hp2 := decide_eq_false hp
        go_wp2_with fail
        refine (CA.out _ HB46.out).mono ?_
        rintro e w7 ⟨v7, rfl, h7, hb7⟩
        have HR7 := Lib.hid (HR6.out.below hb7 (Nat.le_refl _))
        have HB47 := Lib.hid (HB46.out.trans (hb7.mono HB46.out.size))
        have Y7 := Lib.hid h7.r1
        clear h7 hb7
        go_wp2_with fail
        refine (equ_same _ _ _ _ HR7.out Y7.out (by rw [HLr.out]; omega)).mono ?_
        rintro e w8 ⟨rfl, hb8⟩
        go_wp2_with fail
        go_ret
        exact ⟨rfl, HB4.out.trans ((HB47.out.trans (hb8.mono HB47.out.size)).mono HB4.out.size)⟩
end Go.Proofs.Ytgkldgljebhcgaa
