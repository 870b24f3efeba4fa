/- The law of what holders get when a bond pays. -/
import Derived.Test.YtbihadelhknlnaaDoorCpD
namespace Go.Proofs.YtbihadelhknlnaaDoor
open Go.RowKit
theorem Cp.step {d : Int} {fs : List Flo} (hne : ∀ i j, i < j → j < fs.length → (fs.getD i f0).1 ≠ (fs.getD j f0).1) {k : Nat} (hk : k < fs.length) :
    ((fs.getD k f0).1 = d → Cp.sum d (fs.take (k + 1)) = (fs.getD k f0).2) ∧ ((fs.getD k f0).1 ≠ d → Cp.sum d (fs.take (k + 1)) = Cp.sum d (fs.take k)) := by
  rw [Cp.sum_take hk]
  refine ⟨fun h => ?_, fun h => ?_⟩
  · have := (Cp.miss d (fs.take k) (fun j hj e => by
      have hj2 : j < k := by rw [List.length_take] at hj; omega
      have h1 := hne j k hj2 hk
      have h2 : (fs.take k).getD j f0 = fs.getD j f0 := by
        rw [List.getD_eq_getElem?_getD, List.getElem?_take_of_lt hj2, ← List.getD_eq_getElem?_getD]
      rw [h2] at e
      omega)).2
    rw [this]
    unfold Cp.one
    rw [if_pos h]; omega
  · unfold Cp.one
    rw [if_neg h]; omega
theorem Cp.sum_map (hs : List Int) (P : Int) : (hs.map (· * P)).sum = hs.sum * P := by
  induction hs with
  | nil => simp
  | cons h hs ih => rw [List.map_cons, List.sum_cons, List.sum_cons, ih, Int.add_mul]
theorem Cp.val_ne {s e m r d : Int} {hs : List Int} (h : (Cp.val s e m r hs d).length ≠ 0) : vbB s e m r = true ∧ Ho.ok hs = true := by
  by_cases c : vbB s e m r = true ∧ Ho.ok hs = true
  · exact c
  · exfalso; unfold Cp.val at h; rw [if_neg c] at h; exact h rfl
theorem Cp.val_le {s e m r d : Int} {hs : List Int} (hl : hs.length ≤ 10) : (Cp.val s e m r hs d).length ≤ 10 := by
  unfold Cp.val
  split
  · rw [List.length_map]; exact hl
  · simp
set_option maxRecDepth 8000 in
set_option maxHeartbeats 8000000 in
theorem lawCouponPay (a : Option Addr) (len cap : Nat) (zs : List Int) (w : World) (h : IsRow .u8 w a len cap zs) (hT : Tab w) :
    Calls Tryd.prog 3 #[.slice a len cap] w fun e w' => e = .returned (.bool true) ∧ Below w.heap.size w w' := by
  have H := Lib.hid h; clear h
  by_cases hl : 1048576 < (len : Int)
  · go_enter Tryd.func3, Tryd.ntmps3
    go_wp2_with fail
    go_ret
    exact ⟨rfl, Below.refl _ _⟩
  · have hl' := decide_eq_false hl
    clear hl
    have HT := Lib.hid (fun W (hW : Below w.heap.size w W) => hT.below hW hT.pos)
    clear hT
    go_enter Tryd.func3, Tryd.ntmps3
    go_wp2_with fail
    refine (drawCp_any _ _ _ _ _ H.out).mono ?_
    rintro x w1 ⟨s, e, m, r, d, a1, c1, hs, rfl, hR, hlen, hb1⟩
    have hm : hs.length ≤ 9223372036854775807 := by omega
    have IM := Lib.hid (fun W hW v hv => couponPay_any s e m r d W hW v hs hv hm)
    have SP := Lib.hid (fun W v hv => scouponPay_any s e m r d W v hs hv hm)
    have hvl := Cp.val_le (s := s) (e := e) (m := m) (r := r) (d := d) hlen
    have HNe := Lib.hid (fun h => Cp.val_ne (s := s) (e := e) (m := m) (r := r) (d := d) (hs := hs) h)
    have HYes := Lib.hid (fun (h : vbB s e m r = true ∧ Ho.ok hs = true) => Cp.val_yes (d := d) h.1 h.2)
    generalize Cp.val s e m r hs d = qs at IM SP hvl HNe HYes
    have HB1 := Lib.hid (hb1.alloc hb1.size (.cells #[.int .i64 s, .int .i64 e, .int .i64 m, .int .i64 r] 24))
    have KB1 := Lib.hid (Blk.new w1 #[.int .i64 s, .int .i64 e, .int .i64 m, .int .i64 r] 24)
    have R1 := Lib.hid (hR.below ((Below.refl w1.heap.size w1).alloc (Nat.le_refl _) (.cells #[.int .i64 s, .int .i64 e, .int .i64 m, .int .i64 r] 24)) (Nat.le_refl _))
    clear hb1 hR
    go_wp2_with fail
    refine (IM.out _ (HT.out _ HB1.out) _ R1.out).mono ?_
    rintro x w2 ⟨v2, rfl, h2, hb2⟩
    have R2 := Lib.hid (R1.out.below hb2 (Nat.le_refl _))
    have KB2 := Lib.hid (KB1.out.below hb2 KB1.out.lt)
    have HB2 := Lib.hid (HB1.out.trans (hb2.mono HB1.out.size))
    obtain ⟨a2, c2, rfl⟩ := h2.slice
    have X2 := Lib.hid h2
    obtain ⟨b0, b1, b2, b3⟩ := KB2.out.four
    clear h2 hb2 R1 KB1 HB1
    go_wp2_with fail
    refine (SP.out _ _ R2.out).mono ?_
    rintro x w3 ⟨v3, rfl, h3, hb3⟩
    have R3' := Lib.hid (R2.out.below hb3 (Nat.le_refl _))
    have KB3 := Lib.hid (KB2.out.below hb3 KB2.out.lt)
    have HB3 := Lib.hid (HB2.out.trans (hb3.mono HB2.out.size))
    have X3 := Lib.hid (X2.out.below hb3 (Nat.le_refl _))
    have Y3 := Lib.hid h3.r1
    clear h3 hb3 X2 R2 KB2 HB2 b0 b1 b2 b3
    go_wp2_with fail
    refine (equ_same _ _ _ _ X3.out.r1 Y3.out (by omega)).mono ?_
    rintro x w4 ⟨rfl, hb4⟩
    have R4 := Lib.hid (R3'.out.below hb4 (Nat.le_refl _))
    have KB4 := Lib.hid (KB3.out.below hb4 KB3.out.lt)
    have HB4 := Lib.hid (HB3.out.trans (hb4.mono HB3.out.size))
    have X4 := Lib.hid (X3.out.below hb4 (Nat.le_refl _))
    obtain ⟨b0, b1, b2, b3⟩ := KB4.out.four
    clear hb4 X3 R3' Y3 KB3 HB3
    by_cases h0 : qs.length = 0
    · have hz : ((qs.length : Int) == 0) = true := by rw [h0]; rfl
      clear h0
      go_wp2_with fail
      refine (SP.out _ _ R4.out).mono ?_
      rintro x w5 ⟨v5, rfl, h5, hb5⟩
      have X5 := Lib.hid (X4.out.below hb5 (Nat.le_refl _))
      have HB5 := Lib.hid (HB4.out.trans (hb5.mono HB4.out.size))
      have Y5 := Lib.hid h5.r1
      clear h5 hb5 hz b0 b1 b2 b3
      go_wp2_with fail
      refine (equ_same _ _ _ _ X5.out.r1 Y5.out (by omega)).mono ?_
      rintro x w6 ⟨rfl, hb6⟩
      go_wp2_with fail
      go_ret
      exact ⟨rfl, HB5.out.trans (hb6.mono HB5.out.size)⟩
    · have hz : ((qs.length : Int) == 0) = false := by rw [beq_eq_false_iff_ne]; omega
      obtain ⟨hvb, hho⟩ := HNe.out h0
      have HQe := Lib.hid (HYes.out ⟨hvb, hho⟩)
      obtain ⟨l0, l1, hall⟩ := Ho.parts hho
      have HAt := Lib.hid (fun i (hi : i < hs.length) => Ho.at hall hi)
      obtain ⟨p0, p1⟩ := Cp.P_bd s e m r d
      have HPs := Lib.hid (Cp.P_sum s e m r d)
      have HFl := Lib.hid (fun W hW => flowsOf_any s e m r W hW)
      have hl40 : (floL s e m r).length ≤ 40 := by rw [floL_len]; exact perL_len s e m r
      have HStep := Lib.hid (fun k (hk : k < (floL s e m r).length) => Cp.step (d := d) (fs := floL s e m r) flo_ne hk)
      unfold CollF at HFl
      obtain ⟨t0', t1'⟩ := Ho.sum_bd hall l1
      clear hvb hho hall HNe HYes IM SP h0
      generalize floL s e m r = fs at HFl hl40 HStep HPs
      generalize Cp.P s e m r d = P at *
      have hql : qs.length = hs.length := by rw [HQe.out]; exact List.length_map _
      have HQa := Lib.hid (fun k (hk : k < hs.length) => (show qs.getD k 0 = hs.getD k 0 * P by rw [HQe.out]; exact Cp.at hk))
      have HQs := Lib.hid (show qs.sum = hs.sum * P by rw [HQe.out]; exact Cp.sum_map hs P)
      clear HQe
      go_wp2_with fail
      refine (HFl.out _ (HT.out _ HB4.out)).mono ?_
      rintro x w5 ⟨v5, rfl, h5, -, hb5⟩
      have R5 := Lib.hid (R4.out.below hb5 (Nat.le_refl _))
      have X5 := Lib.hid (X4.out.r1.below hb5 (Nat.le_refl _))
      have HB5 := Lib.hid (HB4.out.trans (hb5.mono HB4.out.size))
      obtain ⟨⟨a5, c5, rfl⟩, hcell⟩ := h5.rd
      have HC := Lib.hid hcell
      obtain ⟨n, hn⟩ : ∃ n, n = fs.length := ⟨_, rfl⟩
      rw [← hn] at hl40 ⊢
      have HN := Lib.hid hn
      clear hcell h5 hb5 hn b0 b1 b2 b3 R4 KB4 X4 HB4 HFl HT
      go_wp2_with fail
      go_loopw [7, 9] (fun o y wr => ∃ k q : Nat, k ≤ n ∧ y = .int .i64 k ∧ o = .int .i64 (Cp.sum d (fs.take k)) ∧ wr = w5.drewN q) (fun _ y _ => n - (intOf y).toNat)
      case atStart => exact ⟨0, 0, Nat.zero_le _, rfl, by simp [Cp.sum], rfl⟩
      case round =>
        obtain ⟨k, q, hk, rfl, rfl, rfl⟩ := hrel
        by_cases hlt : k < n
        · obtain ⟨bf, c', e', hbl, hc⟩ := HC.out (by rw [← HN.out]; omega)
          rw [← HN.out] at e'
          simp only [Value.slice.injEq, true_and] at e'
          obtain ⟨rfl, rfl⟩ := e'
          obtain ⟨q0, q1⟩ := hc k (by rw [← HN.out]; exact hlt)
          replace q0 : (w5.drewN q).cell? ⟨bf, k * 2, none⟩ = _ := q0
          replace q1 : (w5.drewN q).cell? ⟨bf, k * 2 + 1, none⟩ = _ := q1
          clear hc
          have HS := Lib.hid (HStep.out k (by rw [← HN.out]; exact hlt))
          generalize fs.getD k f0 = p at q0 q1 HS
          obtain ⟨D, A⟩ := p
          simp only at q0 q1 HS
          have hi0 : (0 : Int) ≤ k := by omega
          have hi1 : (k : Int) < n := by omega
          by_cases hd : D = d
          · have he : (D == d) = true := by simp [hd]
            have HV := Lib.hid (HS.out.1 hd)
            clear hd HS
            go_wp2_with fail
            go_roundw
            case rel => exact ⟨k + 1, q, by omega, by go_num, by rw [HV.out], rfl⟩
            case measure => simp [intOf]; omega
          · have he : (D == d) = false := by simp [hd]
            have HV := Lib.hid (HS.out.2 hd)
            clear hd HS
            go_wp2_with fail
            go_roundw
            case rel => exact ⟨k + 1, q, by omega, by go_num, by rw [HV.out], rfl⟩
            case measure => simp [intOf]; omega
        · obtain rfl : k = n := by omega
          have htk : fs.take k = fs := List.take_of_length_le (by rw [← HN.out]; omega)
          rw [htk, HPs.out]
          have R6 := Lib.hid (show R1o (w5.drewN q) _ hs from R5.out)
          have X6 := Lib.hid (show R1o (w5.drewN q) _ qs from X5.out)
          have HB6 := Lib.hid (belowN HB5.out q)
          clear htk HPs R5 X5 HB5 HC HStep HN
          generalize w5.drewN q = W at R6 X6 HB6 ⊢
          rw [hql] at X6
          go_wp2_with fail
          go_loopw [10] (fun y wr => ∃ i q : Nat, i ≤ hs.length ∧ y = .int .i64 i ∧ wr = W.drewN q) (fun y _ => hs.length - (intOf y).toNat)
          case atStart => exact ⟨0, 0, Nat.zero_le _, rfl, rfl⟩
          case round =>
            obtain ⟨i, q2, hi, rfl, rfl⟩ := hrel
            by_cases hlt2 : i < hs.length
            · obtain ⟨b2, o2, c2', e2, hbl2, hc2⟩ := X6.out.2 (by omega)
              obtain ⟨b3, o3, c3', e3, hbl3, hc3⟩ := R6.out.2 (by omega)
              simp only [hql, Value.slice.injEq, true_and] at e2
              simp only [Value.slice.injEq, true_and] at e3
              obtain ⟨rfl, rfl⟩ := e2
              obtain ⟨rfl, rfl⟩ := e3
              have q0 := hc2 i (by omega)
              have q1 := hc3 i hlt2
              rw [HQa.out i hlt2] at q0
              replace q0 : (W.drewN q2).cell? ⟨b2, o2 + i, none⟩ = _ := q0
              replace q1 : (W.drewN q2).cell? ⟨b3, o3 + i, none⟩ = _ := q1
              clear hc2 hc3
              have HW2 := Lib.hid (fun n => World.drewN_drewN W q2 n)
              generalize W.drewN q2 = W2 at q0 q1 HW2 ⊢
              obtain ⟨h0, h1⟩ := HAt.out i hlt2
              generalize hs.getD i 0 = y at q0 q1 h0 h1
              have u0 : 0 ≤ y * P := Int.mul_nonneg h0 p0
              have u1 : y * P ≤ 9999 * 130000000 := Int.mul_le_mul h1 p1 p0 (by decide)
              have W1 : IntKind.i64.wrap (y * P) = y * P := IntWalk.i64_in _ (by omega)
              have hne : (y * P != y * P) = false := by simp
              have hi0 : (0 : Int) ≤ i := by omega
              have hi1 : (i : Int) < hs.length := by omega
              go_wp2_with fail
              go_quiet (fail)
              go_wp2_with fail
              go_roundw
              case rel => exact ⟨i + 1, _, by omega, by go_num, HW2.out _⟩
              case measure => simp [intOf]; omega
            · obtain rfl : i = hs.length := by omega
              have R7 := Lib.hid (show R1o (W.drewN q2) _ hs from R6.out)
              have X7 := Lib.hid (show R1o (W.drewN q2) _ qs from (by rw [← hql] at X6; exact X6.out))
              have HB7 := Lib.hid (belowN HB6.out q2)
              have HBq := Lib.hid (show ∀ i, i < qs.length → -1000000000000000 ≤ qs.getD i 0 ∧ qs.getD i 0 ≤ 1000000000000000 from fun i hi => by
                rw [HQa.out i (by omega)]
                obtain ⟨h0, h1⟩ := HAt.out i (by omega)
                have u0 : 0 ≤ hs.getD i 0 * P := Int.mul_nonneg h0 p0
                have u1 : hs.getD i 0 * P ≤ 9999 * 130000000 := Int.mul_le_mul h1 p1 p0 (by decide)
                omega)
              have HBh := Lib.hid (show ∀ i, i < hs.length → -1000000000000000 ≤ hs.getD i 0 ∧ hs.getD i 0 ≤ 1000000000000000 from fun i hi => by
                have := HAt.out i hi
                omega)
              have LQ := Lib.hid (fun (_ : Unit) => lsum_any (W.drewN q2) _ qs X7.out (by omega) HBq.out)
              have LH := Lib.hid (fun (_ : Unit) => lsum_any (W.drewN q2) _ hs R7.out (by omega) HBh.out)
              rw [HQs.out, hql] at LQ
              generalize hs.sum = S at LQ LH t0' t1'
              have u0 : 0 ≤ S * P := Int.mul_nonneg t0' p0
              have u1 : S * P ≤ 79992 * 130000000 := Int.mul_le_mul t1' p1 p0 (by decide)
              have W1 : IntKind.i64.wrap (S * P) = S * P := IntWalk.i64_in _ (by omega)
              have hee : (S * P == S * P) = true := by simp
              clear R6 X6 HB6 R7 X7 HBq HBh HQa HQs HAt
              generalize W.drewN q2 = W9 at LQ LH HB7 ⊢
              go_wp2_with fail
              refine (LQ.out ()).mono ?_
              rintro x w7 ⟨rfl, rfl⟩
              go_wp2_with fail
              refine (LH.out ()).mono ?_
              rintro x w8 ⟨rfl, rfl⟩
              go_wp2_with fail
              go_ret
              exact ⟨rfl, HB7.out⟩
end Go.Proofs.YtbihadelhknlnaaDoor
