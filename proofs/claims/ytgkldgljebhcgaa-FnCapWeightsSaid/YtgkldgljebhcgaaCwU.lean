/- Weights with a cap: the model. -/
import Derived.Test.YtgkldgljebhcgaaCwS
import Derived.Test.YtgkldgljebhcgaaCwT
namespace Go.Proofs.Ytgkldgljebhcgaa
open Go.RowKit
set_option maxHeartbeats 1000000 in
theorem scopyC_any (w : World) (v : Value) (ws : List Int) (hv : R1o w v ws) (h0 : 1 ≤ ws.length) (hm : ws.length ≤ 8) :
    Calls Try.prog 29 #[v] w (HandsI ws w) := by
  obtain ⟨-, h1⟩ := hv
  obtain ⟨b, off, c, rfl, hbl, hc⟩ := h1 (by omega)
  have HC := Lib.hid (show ∀ j u, (ws.map (Value.int .i64))[j]? = some u → (w.alloc (.cells #[] 3)).cell? ((⟨b, off, none⟩ : Addr).add j) = some u from fun j u hu => by
    have hj : j < ws.length := by
      rcases Nat.lt_or_ge j ws.length with h | h
      · exact h
      · rw [List.getElem?_eq_none (by simpa using h)] at hu; cases hu
    have e : (⟨b, off, none⟩ : Addr).add j = ⟨b, off + j, none⟩ := by unfold Addr.add; split <;> simp_all
    rw [e, (((Below.refl _ _).alloc (Nat.le_refl _) _ : Below w.heap.size w (w.alloc (.cells #[] 3))).cell (p := ⟨b, off + j, none⟩) hbl).trans (hc j hj)]
    rw [List.getElem?_map, List.getElem?_eq_getElem hj] at hu
    rw [Sr.getD_get hj]
    simpa using hu)
  have HO := Lib.hid (own_new w)
  have hbA := Lib.hid ((Below.refl w.heap.size w).alloc (Nat.le_refl _) (.cells #[] 3))
  obtain ⟨i0, hi, hz0, hz1, hz2⟩ := info_parts infoInt
  clear hc h1
  go_enter Try.func29, Try.ntmps29
  go_wp2_with (at_builtin; refine wpList_append_own _ rfl _ _ 23 rfl w.heap.size 3 i0 (.int .i64 0) 1 8 Try.underlying23 hi hz0 hz1 hz2 rfl (by decide) (.slice (some ⟨w.heap.size, 0, none⟩) 0 0) 0 [] rfl HO.out.1 ⟨b, off, none⟩ ws.length c (ws.map (Value.int .i64)) rfl (by simp) HC.out (ints_oneCell .i64 ws) (by unfold maxLen; omega) (by omega) (by simp) ?_; intro v5 w5 hown5 hg5 hv5)
  go_ret
  refine ⟨v5, rfl, ?_, ?_⟩
  · unfold IRow; simpa using hown5
  · exact hbA.out.grown hg5 (by simp) (fun j hj => by simp [Value.ownBlock] at hj; omega)
theorem Cw.ho_of {xs : List Int} (h : Ho.ok xs = false) : Cw.ok xs = false := by
  cases e : Cw.ok xs with
  | false => rfl
  | true =>
    obtain ⟨n1, n8, hw, -⟩ := Cw.parts e
    have : Ho.ok xs = true := by
      unfold Ho.ok
      rw [Bool.and_eq_true, btw_iff]
      exact ⟨by omega, Cw.hold hw⟩
    rw [h] at this; cases this
theorem Cw.all_of {xs : List Int} (h : xs.all wtB = false) : Cw.ok xs = false := by unfold Cw.ok Cw.pre; rw [h]; simp
theorem Cw.sum_of {xs : List Int} (h : xs.sum ≠ 1000) : Cw.ok xs = false := by
  unfold Cw.ok
  rw [show (xs.sum == 1000) = false by simpa using h]; simp
theorem Cw.ok_of {xs : List Int} (h : Ho.ok xs = true) (h1 : xs.all wtB = true) (h2 : xs.sum = 1000) : Cw.ok xs = true := by
  have hp := Ho.parts h
  unfold Cw.ok Cw.pre
  rw [Bool.and_eq_true, Bool.and_eq_true, btw_iff]
  exact ⟨⟨by omega, h1⟩, by rw [h2]; rfl⟩
theorem Cw.arg_f {xs : List Int} {L : Int} (h : Cw.ok xs = false) : Cw.argB xs L = false := by unfold Cw.argB; rw [h]; rfl
set_option maxRecDepth 8000 in
set_option maxHeartbeats 8000000 in
theorem scap_any (w : World) (v : Value) (xs : List Int) (L : Int) (hv : R1o w v xs) (hm : xs.length ≤ 9223372036854775807) :
    Calls Try.prog 9 #[v, .int .i64 L] w (HandsI (Cw.val xs L) w) := by
  have HH := Lib.hid (sholders_any w v xs hv hm)
  have HA := Lib.hid (allIn_any w v xs 0 1000 hv hm)
  have HV := Lib.hid hv
  have ea : xs.all (fun x => btw x 0 1000) = xs.all wtB := rfl
  rw [ea] at HA
  clear ea
  obtain ⟨⟨a, cap, rfl⟩, -⟩ := hv
  cases h0 : Ho.ok xs with
  | false =>
    have E := Lib.hid (Cw.val_no (Cw.arg_f (L := L) (Cw.ho_of h0)))
    rw [h0] at HH
    clear h0
    go_enter Try.func9, Try.ntmps9
    go_wp2_with fail
    refine HH.out.mono ?_
    rintro e w1 ⟨rfl, rfl⟩
    go_wp2_with fail
    go_ret
    exact ⟨_, rfl, by rw [E.out]; exact IRow.nil _ _, Below.refl _ _⟩
  | true =>
    rw [h0] at HH
    obtain ⟨l1, l8, hh⟩ := Ho.parts h0
    cases h1 : xs.all wtB with
    | false =>
      have E := Lib.hid (Cw.val_no (Cw.arg_f (L := L) (Cw.all_of h1)))
      rw [h1] at HA
      clear h0 h1 hh
      go_enter Try.func9, Try.ntmps9
      go_wp2_with fail
      refine HH.out.mono ?_
      rintro e w1 ⟨rfl, rfl⟩
      go_wp2_with fail
      refine HA.out.mono ?_
      rintro e w1 ⟨rfl, rfl⟩
      go_wp2_with fail
      go_ret
      exact ⟨_, rfl, by rw [E.out]; exact IRow.nil _ _, Below.refl _ _⟩
    | true =>
      rw [h1] at HA
      have ST := Lib.hid (stotal_any w _ xs HV.out (by omega) (Cw.small h1))
      by_cases h2 : xs.sum = 1000
      · rw [h2] at ST
        have hk := Cw.ok_of h0 h1 h2
        have hO : Cw.argB xs L = (Cw.ok xs && (btw L 0 1000 && decide (1000 ≤ L * (xs.length : Int)))) := rfl
        rw [hk, Bool.true_and] at hO
        clear h0 h1 h2 hh
        cases h3 : btw L 0 1000 with
        | false =>
          have E := Lib.hid (Cw.val_no (hO.trans (by rw [h3]; rfl)))
          have H3 := Lib.hid h3
          clear hO hk h3
          go_enter Try.func9, Try.ntmps9
          go_wp2_with fail
          refine HH.out.mono ?_
          rintro e w1 ⟨rfl, rfl⟩
          go_wp2_with fail
          refine HA.out.mono ?_
          rintro e w1 ⟨rfl, rfl⟩
          go_wp2_with fail
          refine ST.out.mono ?_
          rintro e w1 ⟨rfl, rfl⟩
          go_wp2_with fail
          refine (inRange_any _ _ _ _).mono ?_
          rintro e w1 ⟨rfl, rfl⟩
          rw [H3.out]
          go_wp2_with fail
          go_ret
          exact ⟨_, rfl, by rw [E.out]; exact IRow.nil _ _, Below.refl _ _⟩
        | true =>
          obtain ⟨L0, L1⟩ := btw_iff.1 h3
          have H3 := Lib.hid h3
          have hpb : 0 ≤ L * (xs.length : Int) ∧ L * (xs.length : Int) ≤ 8000 := ⟨Int.mul_nonneg L0 (by omega), by
            have := Int.mul_le_mul L1 (show (xs.length : Int) ≤ 8 by omega) (by omega) (by omega)
            omega⟩
          obtain ⟨p0, p1⟩ := hpb
          by_cases hp : L * (xs.length : Int) < 1000
          · have E := Lib.hid (Cw.val_no (hO.trans (by rw [h3, decide_eq_false (by omega)]; rfl)))
            clear hO hk h3
            go_enter Try.func9, Try.ntmps9
            go_wp2_with fail
            refine HH.out.mono ?_
            rintro e w1 ⟨rfl, rfl⟩
            go_wp2_with fail
            refine HA.out.mono ?_
            rintro e w1 ⟨rfl, rfl⟩
            go_wp2_with fail
            refine ST.out.mono ?_
            rintro e w1 ⟨rfl, rfl⟩
            go_wp2_with fail
            refine (inRange_any _ _ _ _).mono ?_
            rintro e w1 ⟨rfl, rfl⟩
            rw [H3.out]
            go_wp2_with fail
            go_ret
            exact ⟨_, rfl, by rw [E.out]; exact IRow.nil _ _, Below.refl _ _⟩
          · have hp' := decide_eq_false hp
            have hok : Cw.argB xs L = true := hO.trans (by rw [h3, decide_eq_true (by omega)]; rfl)
            have E := Lib.hid (Cw.val_yes hok)
            have HI := Lib.hid (Cw.inv0 hok)
            have CP := Lib.hid (scopyC_any w _ xs HV.out l1 l8)
            have hn : xs.length ≤ 1000 := by omega
            have fmk := fun W => mk_bools hn W
            clear hO hk h3 hok
            go_enter Try.func9, Try.ntmps9
            go_wp2_with fail
            refine HH.out.mono ?_
            rintro e w1 ⟨rfl, rfl⟩
            go_wp2_with fail
            refine HA.out.mono ?_
            rintro e w1 ⟨rfl, rfl⟩
            go_wp2_with fail
            refine ST.out.mono ?_
            rintro e w1 ⟨rfl, rfl⟩
            go_wp2_with fail
            refine (inRange_any _ _ _ _).mono ?_
            rintro e w1 ⟨rfl, rfl⟩
            rw [H3.out]
            go_wp2_with fail
            refine CP.out.mono ?_
            rintro e w3 ⟨v3, rfl, hv3, hb3⟩
            obtain ⟨bw, cw, rfl, gbw, lbw, -, -, -⟩ := hv3.form (by omega)
            have HC0 := Lib.hid (show Ct (w3.alloc (.cells (mzb xs.length) 4)) w.heap.size bw w3.heap.size cw xs.length xs (List.replicate xs.length false) from
              ⟨hv3.alloc _, mzb_row w3 xs.length hn w.heap.size hb3.size, by omega, by simp⟩)
            have HB0 := Lib.hid (hb3.alloc hb3.size (.cells (mzb xs.length) 4))
            clear hv3 hb3
            go_wp2_with fail
            generalize (w3.alloc (.cells (mzb xs.length) 4)) = w4 at *
            generalize w3.heap.size = bm at *
            have HE0 := Lib.hid (show Cw.go L xs.length xs (List.replicate xs.length false) = Cw.res xs L from rfl)
            clear fmk CP
            go_loopg [7, 8] xs.length (fun k _ _ wx => ∃ (ws : List Int) (cs : List Bool), Hid (ws.length = xs.length) ∧ Hid (Ct wx w.heap.size bw bm cw xs.length ws cs) ∧ Hid (Cw.Inv L ws cs) ∧ Hid (cs.count false ≤ k ∧ Cw.go L k ws cs = Cw.res xs L) ∧ Hid (Below w.heap.size w wx))
            case atStart => exact ⟨xs, _, Lib.hid rfl, HC0, HI, Lib.hid ⟨by simp, HE0.out⟩, HB0⟩
            case round =>
              obtain ⟨ws, cs, HW, HC, HI, HG, HB⟩ := hrel
              have hlen := HI.out.len
              have HLen := Lib.hid hlen
              have HX := Lib.hid (fun i (hi : i < xs.length) => And.intro (HI.out.nn i (by rw [HW.out]; exact hi)) (HI.out.top (by rw [HW.out]; exact hi)))
              have HZl := Lib.hid (Cw.cut_len L ws)
              have HKc := Lib.hid ((Cw.caps_len (L := L) hlen).trans hlen)
              have HZa := Lib.hid (fun i (hi : i < xs.length) => Cw.cut_at (L := L) (ws := ws) (i := i) (by rw [HW.out]; exact hi))
              have HKa := Lib.hid (fun i (hi : i < xs.length) => Cw.caps_at (L := L) (i := i) hlen (by rw [HW.out]; exact hi))
              have HAb := Lib.hid (fun i (hi : i ≤ xs.length) => Cw.above_le L0 (ws := ws) (fun i hi => And.intro (HI.out.nn i hi) (HI.out.top hi)) i (by rw [HW.out]; exact hi))
              have HAt := Lib.hid (fun i (hi : i < xs.length) => Cw.above_take (L := L) (ws := ws) (i := i) (by rw [HW.out]; exact hi))
              clear hlen
              go_wp2_with fail
              go_loopw [7, 8] (fun s x wx => ∃ i : Nat, i ≤ xs.length ∧ x = .int .i64 i ∧ s = .int .i64 (Cw.above L (ws.take i)) ∧ Hid (Ct wx w.heap.size bw bm cw xs.length (Cw.mix (Cw.cut L ws) ws i) (Cw.mix (Cw.caps L ws cs) cs i)) ∧ Hid (Below w.heap.size w wx)) (fun _ x _ => xs.length - (intOf x).toNat)
              case atStart => exact ⟨0, Nat.zero_le _, rfl, by simp [Cw.above], by rw [Cw.mix_zero, Cw.mix_zero]; exact HC, HB⟩
              case round =>
                obtain ⟨i, hi, rfl, rfl, HK, HBi⟩ := hrel
                have hml := Cw.mix_len HZl.out (j := i) (by rw [HW.out]; exact hi)
                rw [HW.out] at hml
                by_cases hlt : i < xs.length
                · have c1 := (HK.out.wAt (by rw [hml]; omega)).1 i (by rw [hml]; exact hlt)
                  have g1 := (HK.out.wAt (by rw [hml]; omega)).2 i
                  have c2 := HK.out.mAt.1 i (by rw [hml]; exact hlt)
                  have g2 := HK.out.mAt.2 i
                  rw [Cw.mix_at HZl.out (by rw [HW.out]; exact hlt)] at c1
                  rw [Cw.mix_at HKc.out (by rw [← HLen.out, HW.out]; exact hlt)] at c2
                  obtain ⟨⟨gw, -⟩, gm, -⟩ := HK.out.bds
                  have hnm := HK.out.n1
                  have hza := HZa.out i hlt
                  have hka := HKa.out i hlt
                  obtain ⟨x0, x1⟩ := HX.out i hlt
                  obtain ⟨s0, s1⟩ := HAb.out i hi
                  have HAs := Lib.hid (HAt.out i hlt)
                  have hk1 : (i : Int) < xs.length := by omega
                  have hk0 : (0 : Int) ≤ i := by omega
                  have hk8 : (i : Int) ≤ 8 := by omega
                  clear hml
                  by_cases hL : L < ws.getD i 0
                  · rw [if_pos hL] at hza
                    rw [decide_eq_true hL, Bool.true_or] at hka
                    have HS2 := Lib.hid ((HK.out.setW i L).setM i true)
                    rw [Cw.mix_put HZl.out (by rw [HW.out]; exact hlt) hza, Cw.mix_put HKc.out (by rw [← HLen.out, HW.out]; exact hlt) hka] at HS2
                    have HB2 := Lib.hid ((HBi.out.setCell (p := ⟨bw, i, none⟩) gw (.int .i64 L)).setCell (p := ⟨bm, i, none⟩) gm (.bool true))
                    generalize ws.getD i 0 = x at c1 hL x0 x1 HAs
                    generalize cs.getD i false = c at c2
                    generalize Cw.above L (ws.take i) = S at s0 s1 HAs ⊢
                    have HAs2 := Lib.hid (show Cw.above L (ws.take (i + 1)) = S + x - L by rw [HAs.out]; omega)
                    clear hza hka HAs
                    go_wp2_with fail
                    go_roundw
                    case rel => exact ⟨i + 1, by omega, by go_num, by rw [HAs2.out], HS2, HB2⟩
                    case measure => simp [intOf]; omega
                  · rw [if_neg hL] at hza
                    rw [decide_eq_false hL, Bool.false_or] at hka
                    have HS2 := HK
                    rw [Cw.mix_same HZl.out (by rw [HW.out]; exact hlt) hza, Cw.mix_same HKc.out (by rw [← HLen.out, HW.out]; exact hlt) hka] at HS2
                    generalize ws.getD i 0 = x at c1 hL x0 x1 HAs
                    generalize Cw.above L (ws.take i) = S at s0 s1 HAs ⊢
                    have HAs2 := Lib.hid (show Cw.above L (ws.take (i + 1)) = S by rw [HAs.out]; omega)
                    clear hza hka HAs c2
                    go_wp2_with fail
                    go_roundw
                    case rel => exact ⟨i + 1, by omega, by go_num, by rw [HAs2.out], HS2, HBi⟩
                    case measure => simp [intOf]; omega
                · obtain rfl : i = xs.length := by omega
                  have HK2 := Lib.hid (show Ct wr w.heap.size bw bm cw xs.length (Cw.cut L ws) (Cw.caps L ws cs) by
                    have h := HK.out
                    have e1 := Cw.mix_end HZl.out
                    have e2 := Cw.mix_end HKc.out
                    rw [HW.out] at e1
                    rw [← HLen.out, HW.out] at e2
                    rwa [e1, e2] at h)
                  have e0 : ws.take xs.length = ws := List.take_of_length_le (by rw [HW.out]; exact Nat.le_refl _)
                  rw [e0]
                  clear e0 hml HK hlt
                  cases ha : Cw.anyB L ws with
                  | true =>
                    have hf := Cw.more_pos HI.out ha
                    obtain ⟨j, rfl⟩ : ∃ j, gk = j + 1 := ⟨gk - 1, by have := HG.out.1; omega⟩
                    have hp := Cw.any_above ha
                    obtain ⟨a0, a1⟩ := HI.out.above_bd
                    have SP := Lib.hid (spread_any wr w.heap.size bw bm cw xs.length (Cw.cut L ws) (Cw.caps L ws cs) (Cw.above L ws) HK2.out (by rw [HZl.out, HW.out]; exact l1) (by rw [HZl.out, HW.out]; exact l8) (fun i hi => by have := HI.out.cut_bd (i := i) (by rw [← HZl.out]; exact hi); omega) a0 a1 HI.out.F_hold (HI.out.F_pos hp))
                    have eS : List.zipWith (· + ·) (Cw.cut L ws) (Pr.out (Cw.above L ws) (Cw.free (Cw.cut L ws) (Cw.caps L ws cs))) = Cw.step L ws cs := rfl
                    rw [eS, HZl.out, HW.out] at SP
                    have HI2 := Lib.hid (HI.out.next hp)
                    have HW2 := Lib.hid (show (Cw.step L ws cs).length = xs.length from (Cw.step_len HLen.out).trans HW.out)
                    have HG2 := Lib.hid (show (Cw.caps L ws cs).count false ≤ j ∧ Cw.go L j (Cw.step L ws cs) (Cw.caps L ws cs) = Cw.res xs L from ⟨by have := HG.out.1; omega, (Cw.go_more ha).symm.trans HG.out.2⟩)
                    have hA0 : (Cw.above L ws == 0) = false := by simpa using (show Cw.above L ws ≠ 0 by omega)
                    clear hf ha hp eS a0 a1
                    go_wp2_with fail
                    refine SP.out.mono ?_
                    rintro e w5 ⟨rfl, hC5, hB5⟩
                    have HC5 := Lib.hid hC5
                    have HB5 := Lib.hid (HBi.out.trans hB5)
                    clear hC5 hB5
                    go_wp2_with fail
                    go_roundg j
                    case measure => omega
                    case rel => exact ⟨_, _, HW2, HC5, HI2, HG2, HB5⟩
                  | false =>
                    obtain ⟨ec, eA⟩ := Cw.any_cut ha
                    rw [eA]
                    have HG2 := Lib.hid (show Cw.val xs L = ws from E.out.trans (HG.out.2.symm.trans (Cw.go_done ha)))
                    have HRow := Lib.hid (show IRow wr w.heap.size (.slice (some ⟨bw, 0, none⟩) xs.length cw) ws by
                      have h := HK2.out.w
                      rw [ec, HW.out] at h
                      exact h)
                    clear ha ec eA
                    go_wp2_with fail
                    go_ret
                    exact ⟨_, rfl, by rw [HG2.out]; exact HRow.out, HBi.out⟩
      · have E := Lib.hid (Cw.val_no (Cw.arg_f (L := L) (Cw.sum_of h2)))
        have hsb : (xs.sum != 1000) = true := by simpa using h2
        clear h0 h1 h2 hh
        go_enter Try.func9, Try.ntmps9
        go_wp2_with fail
        refine HH.out.mono ?_
        rintro e w1 ⟨rfl, rfl⟩
        go_wp2_with fail
        refine HA.out.mono ?_
        rintro e w1 ⟨rfl, rfl⟩
        go_wp2_with fail
        refine ST.out.mono ?_
        rintro e w1 ⟨rfl, rfl⟩
        go_wp2_with fail
        go_ret
        exact ⟨_, rfl, by rw [E.out]; exact IRow.nil _ _, Below.refl _ _⟩
end Go.Proofs.Ytgkldgljebhcgaa
