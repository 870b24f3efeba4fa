/- The laws of needs. -/
import Derived.Test.YthlnmbnaimobgaaFwL
namespace Go.Proofs.Ythlnmbnaimobgaa
open Go.RowKit
/-- Less would be short. -/
def Fl.short (ps : List Pr) (n : Int) : Nat → Bool
  | 0 => decide (n = 0)
  | k + 1 => Fl.short ps n k || decide (n - 1 + Fl.sum ps (ps.getD k pr0).1 < 0)
theorem Fl.need_ge (ps : List Pr) : ∀ k i, i < k → - Fl.sum ps (ps.getD i pr0).1 ≤ Fl.needK ps k
  | 0, i, h => by omega
  | k + 1, i, h => by
    unfold Fl.needK
    rcases Nat.lt_or_ge i k with q | q
    · have := Fl.need_ge ps k i q; omega
    · obtain rfl : i = k := by omega
      omega
theorem Fl.need_nn (ps : List Pr) : ∀ k, 0 ≤ Fl.needK ps k
  | 0 => by simp [Fl.needK]
  | k + 1 => by have := Fl.need_nn ps k; unfold Fl.needK; omega
theorem Fl.need_at (ps : List Pr) : ∀ k, Fl.needK ps k = 0 ∨ ∃ i, i < k ∧ Fl.needK ps k = - Fl.sum ps (ps.getD i pr0).1
  | 0 => .inl rfl
  | k + 1 => by
    unfold Fl.needK
    rcases Fl.need_at ps k with h | ⟨i, hi, h⟩
    · by_cases c : 0 ≤ - Fl.sum ps (ps.getD k pr0).1
      · exact .inr ⟨k, by omega, by omega⟩
      · exact .inl (by omega)
    · by_cases c : Fl.needK ps k ≤ - Fl.sum ps (ps.getD k pr0).1
      · exact .inr ⟨k, by omega, by omega⟩
      · exact .inr ⟨i, by omega, by omega⟩
theorem Fl.need_le (ps : List Pr) (c : Int) (h0 : 0 ≤ c) : ∀ k, (∀ i, i < k → - Fl.sum ps (ps.getD i pr0).1 ≤ c) → Fl.needK ps k ≤ c
  | 0, _ => by simpa [Fl.needK] using h0
  | k + 1, h => by
    have := Fl.need_le ps c h0 k (fun i hi => h i (by omega))
    have := h k (by omega)
    unfold Fl.needK
    omega
theorem Fl.short_zero (ps : List Pr) : ∀ k, Fl.short ps 0 k = true
  | 0 => rfl
  | k + 1 => by unfold Fl.short; rw [Fl.short_zero ps k]; rfl
theorem Fl.short_at (ps : List Pr) (n : Int) : ∀ k i, i < k → n - 1 + Fl.sum ps (ps.getD i pr0).1 < 0 → Fl.short ps n k = true
  | 0, i, h, _ => by omega
  | k + 1, i, h, hs => by
    unfold Fl.short
    rcases Nat.lt_or_ge i k with q | q
    · rw [Fl.short_at ps n k i q hs]; rfl
    · obtain rfl : i = k := by omega
      rw [decide_eq_true hs]; simp
theorem Fl.short_all (ps : List Pr) (k : Nat) : Fl.short ps (Fl.needK ps k) k = true := by
  rcases Fl.need_at ps k with h | ⟨i, hi, h⟩
  · rw [h]; exact Fl.short_zero ps k
  · exact Fl.short_at ps _ k i hi (by omega)
/-- The order does not matter. -/
theorem Fl.sum_rev (ps : List Pr) (x : Int) : Fl.sum ps.reverse x = Fl.sum ps x := by
  unfold Fl.sum
  rw [List.map_reverse, List.sum_reverse]
theorem Fl.ok_rev (ps : List Pr) : Fl.ok ps.reverse = Fl.ok ps := by
  unfold Fl.ok
  rw [List.length_reverse, List.all_reverse]
theorem Fl.need_rev (ps : List Pr) : Fl.need ps.reverse = Fl.need ps := by
  unfold Fl.need
  rw [Fl.ok_rev, List.length_reverse]
  have key : ∀ qs : List Pr, Fl.needK qs.reverse qs.length ≤ Fl.needK qs qs.length := fun qs => by
    refine Fl.need_le _ _ (Fl.need_nn _ _) _ fun i hi => ?_
    rw [Fl.sum_rev]
    have e : qs.reverse.getD i pr0 = qs.getD (qs.length - 1 - i) pr0 := by
      rw [List.getD_eq_getElem?_getD, List.getD_eq_getElem?_getD, List.getElem?_reverse hi]
    rw [e]
    exact Fl.need_ge qs _ _ (by omega)
  have h1 := key ps
  have h2 := key ps.reverse
  rw [List.reverse_reverse, List.length_reverse] at h2
  have : Fl.needK ps.reverse ps.length = Fl.needK ps ps.length := by omega
  rw [this]
set_option maxRecDepth 8000 in
set_option maxHeartbeats 4000000 in
theorem lawCashNeed (a : Option Addr) (len cap : Nat) (zs : List Int) (w : World) (h : IsRow .u8 w a len cap zs) :
    Calls Try.prog 14 #[.slice a len cap] w fun e w' => e = .returned (.bool true) ∧ Below w.heap.size w w' := by
  have H := Lib.hid h; clear h
  by_cases hl : 1048576 < (len : Int)
  · go_enter Try.func14, Try.ntmps14
    go_wp2_with fail
    go_ret
    exact ⟨rfl, Below.refl _ _⟩
  · have hl' := decide_eq_false hl
    clear hl
    go_enter Try.func14, Try.ntmps14
    go_wp2_with fail
    refine (drawCN_any _ _ _ _ _ H.out).mono ?_
    rintro e w1 ⟨v, ps, rfl, hF, hlen, hI, ⟨vb, vc, rfl⟩, hb1⟩
    have R1 := Lib.hid hF.r2.o
    have hm : ps.length ≤ 9223372036854775807 := by omega
    have hbb : ∀ b : Int, (b != b) = false := fun b => by simp
    have hn0 := hbb (Fl.need ps)
    have hn1 : (Fl.need ps == Fl.need ps) = true := by simp
    clear hF hI hbb
    by_cases hbig : Fl.ok ps = true ∧ Fl.need ps ≤ 1000000000
    · obtain ⟨hps, hle⟩ := hbig
      have hE : Fl.need ps = Fl.needK ps ps.length := if_pos hps
      rw [hE] at hle hn0 hn1
      have hnn := Fl.need_nn ps ps.length
      have HNE := Lib.hid hE
      have HOK := Lib.hid hps
      have HGE := Lib.hid (fun i hi => Fl.need_ge ps ps.length i hi)
      have HSA := Lib.hid (Fl.short_all ps ps.length)
      have HCA := Lib.hid (show ∀ x, Fl.cash ps (Fl.needK ps ps.length) x = Fl.needK ps ps.length + Fl.sum ps x from fun x => if_pos ⟨hps, btw_t (by omega) hle⟩)
      have HCB := Lib.hid (show ∀ x, Fl.cash ps (Fl.needK ps ps.length - 1) x = Fl.needK ps ps.length - 1 + Fl.sum ps x from fun x => if_pos ⟨hps, btw_t (by omega) (by omega)⟩)
      have HOA := Lib.hid (show Fl.cashOk ps (Fl.needK ps ps.length) = true by unfold Fl.cashOk; rw [hps, btw_t (by omega) hle]; rfl)
      have HOB := Lib.hid (show Fl.cashOk ps (Fl.needK ps ps.length - 1) = true by unfold Fl.cashOk; rw [hps, btw_t (by omega) (by omega)]; rfl)
      have hlt0 : ¬ Fl.needK ps ps.length < 0 := by omega
      have HS0 := Lib.hid (show Fl.short ps (Fl.needK ps ps.length) 0 = decide (Fl.needK ps ps.length = 0) from rfl)
      have HSS := Lib.hid (show ∀ k, Fl.short ps (Fl.needK ps ps.length) (k + 1) = (Fl.short ps (Fl.needK ps ps.length) k || decide (Fl.needK ps ps.length - 1 + Fl.sum ps (ps.getD k pr0).1 < 0)) from fun _ => rfl)
      clear hE hps
      go_wp2_with fail
      refine (need_any _ _ _ R1.out hm).mono ?_
      rw [HNE.out]
      rintro e w2 ⟨rfl, hb2⟩
      have R2 := Lib.hid (R1.out.below hb2 (Nat.le_refl _))
      have hb3 := hb1.trans (hb2.mono hb1.size)
      clear hb2
      go_wp2_with fail
      refine (sneed_any _ _ _ R2.out hm).mono ?_
      rw [HNE.out]
      rintro e w4 ⟨rfl, hb4⟩
      have R4 := Lib.hid (R2.out.below hb4 (Nat.le_refl _))
      have hb5 := hb3.trans (hb4.mono hb3.size)
      clear hb4 hb3
      generalize Fl.needK ps ps.length = n at *
      have HSB : Hid (Value.bool (n == 0) = Value.bool (Fl.short ps n 0)) := Lib.hid (by rw [HS0.out]; rfl)
      go_wp2_with fail
      go_loopw [5, 6] (fun o y wr => ∃ k : Nat, k ≤ ps.length ∧ y = .int .i64 k ∧ o = .bool (Fl.short ps n k) ∧ Below w4.heap.size w4 wr) (fun _ y _ => ps.length - (intOf y).toNat)
      case atStart => exact ⟨0, Nat.zero_le _, rfl, HSB.out, Below.refl _ _⟩
      case round =>
        obtain ⟨k, hk, rfl, rfl, hb⟩ := hrel
        by_cases hlt : k < ps.length
        · have RR := Lib.hid (R4.out.below hb (Nat.le_refl _))
          obtain ⟨bb, off, c, e, hbb, hc⟩ := RR.out.2 (by omega)
          simp only [Value.slice.injEq, true_and] at e
          obtain ⟨e2, rfl⟩ := e
          simp only [Option.some.injEq, Addr.mk.injEq, and_true] at e2
          obtain ⟨rfl, rfl⟩ := e2
          obtain ⟨c0, c1⟩ := hc k hlt
          simp only [Nat.zero_add] at c0 c1
          clear hc
          obtain ⟨s0, s1⟩ := Fl.bd_all HOK.out (ps.getD k pr0).1
          have hge := HGE.out k hlt
          have HSk := Lib.hid (HSS.out k)
          generalize ps.getD k pr0 = p at c0 c1 s0 s1 hge HSk
          obtain ⟨d, m⟩ := p
          simp only at c0 c1 s0 s1 hge HSk
          have hnl : ¬ n + Fl.sum ps d < 0 := by omega
          generalize hSd : Fl.sum ps d = S at s0 s1 hge HSk hnl
          have HSd := Lib.hid hSd; clear hSd
          go_wp2_with fail
          refine (cash_any _ _ _ _ _ RR.out hm).mono ?_
          rw [HCA.out, HOA.out, HSd.out]
          rintro e w6 ⟨rfl, hb6⟩
          have R6 := Lib.hid (RR.out.below hb6 (Nat.le_refl _))
          replace c0 := (hb6.cell (p := ⟨vb, k * 2, none⟩) hbb).trans c0
          have hb7 := hb.trans (hb6.mono hb.size)
          clear hb6 c1
          go_wp2_with fail
          refine (cash_any _ _ _ _ _ R6.out hm).mono ?_
          rw [HCB.out, HOB.out, HSd.out]
          rintro e w8 ⟨rfl, hb8⟩
          have hb9 := hb7.trans (hb8.mono hb7.size)
          clear hb8 hb7
          cases hsh : Fl.short ps n k with
          | true =>
            rw [hsh] at HSk
            clear hsh
            go_wp2_with fail
            go_roundw
            case rel => exact ⟨k + 1, by omega, by go_num, by rw [HSk.out]; rfl, hb9⟩
            case measure => simp [intOf] <;> omega
          | false =>
            rw [hsh] at HSk
            clear hsh
            go_wp2_with fail
            go_roundw
            case rel => exact ⟨k + 1, by omega, by go_num, by rw [HSk.out]; rfl, hb9⟩
            case measure => simp [intOf] <;> omega
        · obtain rfl : k = ps.length := by omega
          rw [HSA.out]
          go_wp2_with fail
          go_ret
          exact ⟨rfl, hb5.trans (hb.mono hb5.size)⟩
    · have hcase : Fl.need ps < 0 ∨ 1000000000 < Fl.need ps := by
        by_cases hps : Fl.ok ps = true
        · exact .inr (by rcases Int.lt_or_le 1000000000 (Fl.need ps) with q | q; exact q; exact absurd ⟨hps, q⟩ hbig)
        · left; unfold Fl.need; rw [if_neg hps]; decide
      clear hbig
      have SM := Lib.hid (fun W (hr : R2o W (.slice (some ⟨vb, 0, none⟩) ps.length vc) ps) => sneed_any W _ ps hr hm)
      have IM := Lib.hid (need_any w1 _ ps R1.out hm)
      generalize Fl.need ps = n at *
      rcases hcase with q | q
      all_goals
        have q' : ¬ n < 0 ∨ n < 0 := by omega
        clear q'
        go_wp2_with fail
        refine IM.out.mono ?_
        rintro e w2 ⟨rfl, hb2⟩
        have R2 := Lib.hid (R1.out.below hb2 (Nat.le_refl _))
        have hb3 := hb1.trans (hb2.mono hb1.size)
        clear hb2
        go_wp2_with fail
        refine (SM.out _ R2.out).mono ?_
        rintro e w4 ⟨rfl, hb4⟩
        have R4 := Lib.hid (R2.out.below hb4 (Nat.le_refl _))
        have hb5 := hb3.trans (hb4.mono hb3.size)
        clear hb4
        go_wp2_with fail
        refine (SM.out _ R4.out).mono ?_
        rintro e w6 ⟨rfl, hb6⟩
        have hb7 := hb5.trans (hb6.mono hb5.size)
        clear hb6
        go_wp2_with fail
        go_ret
        exact ⟨rfl, hb7⟩
end Go.Proofs.Ythlnmbnaimobgaa
