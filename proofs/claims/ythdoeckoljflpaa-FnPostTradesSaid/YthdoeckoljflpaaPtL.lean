/- The law of the postings of trades. -/
import Derived.Test.YthdoeckoljflpaaPtS
import Derived.Test.YthdoeckoljflpaaPtE
import Derived.Test.YthdoeckoljflpaaBal2
namespace Go.Proofs.Ythdoeckoljflpaa
open Go.RowKit
theorem TRow.sli {T : TypeId} {w : World} {B : Nat} {v : Value} {ps : List Tri} (h : TRow T w B v ps) : ∃ a c, v = .slice a ps.length c := by
  rcases h.2 with ⟨rfl, h3⟩ | ⟨b, cap, cur, rfl, _⟩
  · exact ⟨none, 0, by rw [h3]⟩
  · exact ⟨_, _, rfl⟩
theorem Pt.one {t : Tri} (h : Lt.tone t) : Ps.one (Pt.of t) = true ∧ Bl.one (Pt.of t) 1 = t.2.1 * t.2.2 := by
  have hp := Gn.prod (m := t.2.1) (p := t.2.2) ⟨h.1.1, h.1.2.1⟩ h.2
  have hn : t.2.1 * t.2.2 ≠ 0 := Int.mul_ne_zero h.1.2.2 (by have := h.2; omega)
  unfold Pt.of Pt.pos
  generalize t.2.1 * t.2.2 = x at hp hn
  by_cases hx : x < 0
  · rw [if_pos hx]
    constructor
    · unfold Ps.one
      rw [Bool.and_eq_true, Bool.and_eq_true, Bool.and_eq_true, btw_iff, btw_iff, btw_iff]
      refine ⟨⟨by simp, by simp⟩, ⟨by simp, by simp⟩, (by decide : ((1 : Int) != 0) = true), by show 1 ≤ -x; omega, by show -x ≤ 1000000000; omega⟩
    · unfold Bl.one
      show -x * ((if (0 : Int) = 1 then 1 else 0) - (if (1 : Int) = 1 then 1 else 0)) = x
      rw [if_neg (by decide), if_pos rfl]; omega
  · rw [if_neg hx]
    constructor
    · unfold Ps.one
      rw [Bool.and_eq_true, Bool.and_eq_true, Bool.and_eq_true, btw_iff, btw_iff, btw_iff]
      refine ⟨⟨by simp, by simp⟩, ⟨by simp, by simp⟩, (by decide : ((0 : Int) != 1) = true), by show 1 ≤ x; omega, by show x ≤ 1000000000; omega⟩
    · unfold Bl.one
      show x * ((if (1 : Int) = 1 then 1 else 0) - (if (0 : Int) = 1 then 1 else 0)) = x
      rw [if_pos rfl, if_neg (by decide)]; omega
theorem Pt.sums : ∀ ps : List Tri, (∀ t ∈ ps, Lt.tone t) → Bl.sum (ps.map Pt.of) 1 = (ps.map fun t => t.2.1 * t.2.2).sum
  | [], _ => rfl
  | t :: ps, h => by
    have ih := Pt.sums ps fun y hy => h y (List.mem_cons_of_mem _ hy)
    unfold Bl.sum at *
    rw [List.map_cons, List.map_cons, List.sum_cons, List.map_cons, List.sum_cons, ih, (Pt.one (h t List.mem_cons_self)).2]
theorem Pt.good {ps : List Tri} (h : Td.ok ps = true) : Ps.ok (ps.map Pt.of) = true ∧ Bl.val (ps.map Pt.of) 1 = Lt.worth (Lt.lots ps) - Lt.gain ps := by
  have hon := Lt.tones h
  have hme : ∀ t ∈ ps, Lt.tone t := Gn.mem_at hon
  have h16 := (Td.parts h).1
  have hok : Ps.ok (ps.map Pt.of) = true := by
    unfold Ps.ok
    rw [Bool.and_eq_true, decide_eq_true_eq, List.length_map, List.all_eq_true]
    refine ⟨by omega, fun x hx => ?_⟩
    obtain ⟨t, ht, rfl⟩ := List.mem_map.1 hx
    exact (Pt.one (hme t ht)).1
  refine ⟨hok, ?_⟩
  unfold Bl.val
  rw [if_pos hok, Pt.sums ps hme]
  have hG := (Lt.good hon ps.length (Nat.le_refl _)).worth
  rw [List.take_of_length_le (Nat.le_refl _)] at hG
  unfold Lt.lots Lt.gain
  rw [if_pos h, if_pos h]
  omega
set_option maxHeartbeats 1000000 in
theorem drawPT_any (w : World) (a : Option Addr) (len cap : Nat) (zs : List Int) (h : IsRow .u8 w a len cap zs) :
    Calls Try.prog 13 #[.slice a len cap] w (DT w) := by
  have H := Lib.hid h; clear h
  go_enter Try.func13, Try.ntmps13
  go_wp2_with fail
  refine (newReader_any _ _ _ _ _ H.out).mono ?_
  rintro e w1 ⟨g, rfl, hg, hr, hb⟩
  have HB := Lib.hid hb
  go_wp2_with fail
  refine (anyTrades_any _ _ _ hr (by omega)).mono ?_
  rintro e w2 ⟨b, c, ps, rfl, hF, hl, hI, hr2, hg2⟩
  have HF := Lib.hid (hF.lower HB.out.size)
  have HB2 := Lib.hid (below_grown HB.out hg2 (by omega))
  clear hF hg2 hr2
  go_wp2_with fail
  go_ret
  exact ⟨_, _, _, rfl, HF.out, hl, hI, HB2.out⟩
set_option maxRecDepth 8000 in
set_option maxHeartbeats 8000000 in
theorem lawPostTrades (a : Option Addr) (len cap : Nat) (zs : List Int) (w : World) (h : IsRow .u8 w a len cap zs) :
    Calls Try.prog 3 #[.slice a len cap] w fun e w' => e = .returned (.bool true) ∧ Below w.heap.size w w' := by
  have H := Lib.hid h; clear h
  by_cases hl : 1048576 < (len : Int)
  · go_enter Try.func3, Try.ntmps3
    go_wp2_with fail
    go_ret
    exact ⟨rfl, Below.refl _ _⟩
  · have hl' := decide_eq_false hl
    clear hl
    go_enter Try.func3, Try.ntmps3
    go_wp2_with fail
    refine (drawPT_any _ _ _ _ _ H.out).mono ?_
    rintro e w1 ⟨b, c, ps, rfl, hF, hln, hI, hb1⟩
    have R1 := Lib.hid hF.r3.o
    have HB1 := Lib.hid hb1
    have hm : ps.length ≤ 9223372036854775807 := by omega
    have PO := Lib.hid (post_any _ _ _ R1.out hm)
    have SP := Lib.hid (fun W (hW : Below w1.heap.size w1 W) => spost_any W _ ps (R1.out.below hW (Nat.le_refl _)) hm)
    have HQ := Lib.hid (show (Pt.val ps).length ≠ 0 → Td.ok ps = true ∧ Pt.val ps = ps.map Pt.of from fun h => by
      cases h0 : Td.ok ps with
      | true => exact ⟨rfl, if_pos h0⟩
      | false => exact absurd (by unfold Pt.val; rw [h0]; rfl) h)
    have hq : (Pt.val ps).length ≤ 40 := by
      unfold Pt.val
      split
      · rw [List.length_map]; omega
      · simp
    clear hF hI hb1
    generalize Pt.val ps = Q at *
    go_wp2_with fail
    refine PO.out.mono ?_
    rintro e w2 ⟨u, rfl, hu, hb2⟩
    obtain ⟨au, cu, rfl⟩ := hu.sli
    have HU2 := Lib.hid hu.r3.o
    have HB12 := Lib.hid hb2
    clear hu hb2 PO
    go_wp2_with fail
    refine (SP.out _ HB12.out).mono ?_
    rintro e w3 ⟨u3, rfl, hu3, hb3⟩
    have HU3 := Lib.hid (HU2.out.below hb3 (Nat.le_refl _))
    have HV3 := Lib.hid hu3.r3.o
    have HB13 := Lib.hid (HB12.out.trans (hb3.mono HB12.out.size))
    clear hu3 hb3
    go_wp2_with fail
    refine (eqPo_same _ _ _ _ HU3.out HV3.out (by omega)).mono ?_
    rintro e w4 ⟨rfl, hb4⟩
    have HU4 := Lib.hid (HU3.out.below hb4 (Nat.le_refl _))
    have HB14 := Lib.hid (HB13.out.trans (hb4.mono HB13.out.size))
    clear hb4 HU2 HU3 HV3
    by_cases hz : Q.length = 0
    · have hz' : ((Q.length : Int) == 0) = true := by rw [hz]; rfl
      clear hz
      go_wp2_with fail
      refine (SP.out _ HB14.out).mono ?_
      rintro e w5 ⟨u5, rfl, hu5, hb5⟩
      have HU5 := Lib.hid (HU4.out.below hb5 (Nat.le_refl _))
      have HV5 := Lib.hid hu5.r3.o
      have HB15 := Lib.hid (HB14.out.trans (hb5.mono HB14.out.size))
      clear hu5 hb5
      go_wp2_with fail
      refine (eqPo_same _ _ _ _ HU5.out HV5.out (by omega)).mono ?_
      rintro e w6 ⟨rfl, hb6⟩
      go_wp2_with fail
      go_ret
      exact ⟨rfl, HB1.out.trans ((HB15.out.trans (hb6.mono HB15.out.size)).mono HB1.out.size)⟩
    · have hz' : ((Q.length : Int) == 0) = false := by simp only [beq_eq_false_iff_ne, ne_eq]; omega
      obtain ⟨h0, hQe⟩ := HQ.out hz
      obtain ⟨hok, hval⟩ := Pt.good h0
      rw [← hQe] at hok hval
      have hlQ : Q.length = ps.length := by rw [hQe]; exact List.length_map _
      have hon := Lt.tones h0
      have hG := Lt.good hon ps.length (Nat.le_refl _)
      rw [List.take_of_length_le (Nat.le_refl _)] at hG
      have eL : Lt.lots ps = (Lt.st ps).1 := by unfold Lt.lots; rw [if_pos h0]
      have h16 := (Td.parts h0).1
      have hll : (Lt.lots ps).length ≤ 16 := by rw [eL]; have := hG.len; omega
      have HLo := Lib.hid (show ∀ x ∈ Lt.lots ps, Lt.one x by rw [eL]; exact hG.one)
      have R4 := Lib.hid (R1.out.below HB14.out (Nat.le_refl _))
      have LO := Lib.hid (lots_any w4 _ ps R4.out hm)
      have GA := Lib.hid (fun W (hW : Below w4.heap.size w4 W) => gain_any W _ ps (R4.out.below hW (Nat.le_refl _)) hm)
      have hQm : Q.length ≤ 9223372036854775807 := by omega
      have VP := Lib.hid (fun W (hW : Below w4.heap.size w4 W) => vposts_any W _ Q (HU4.out.below hW (Nat.le_refl _)) hQm)
      rw [hok] at VP
      have BO := Lib.hid (fun W (hW : Below w4.heap.size w4 W) => balOf_any W _ Q 1 (HU4.out.below hW (Nat.le_refl _)) hQm (by decide))
      rw [hval] at BO
      have hgb : (Lt.gain ps).natAbs ≤ 8000000000 := by
        unfold Lt.gain; rw [if_pos h0]; have := hG.gain; omega
      clear h0 hQe hok hval hon hG eL HQ R1 R4 HU4 SP hz
      have HWb := Lib.hid (Gn.worth_bd HLo.out)
      have HWs := Lib.hid (fun i (hi : i < (Lt.lots ps).length) => Gn.worth_step hi)
      have hlen : ((Q.length : Int) == (ps.length : Int)) = true := by rw [hlQ]; simp
      clear hlQ
      generalize Lt.lots ps = q at *
      generalize Lt.gain ps = G at *
      have heq : (Lt.worth q - G == Lt.worth q - G) = true := by simp
      have HE2 := Lib.hid (show ∀ i, q.length ≤ i → q.take i = q from fun i hi => List.take_of_length_le hi)
      go_wp2_with fail
      refine LO.out.mono ?_
      rintro e w5 ⟨⟨u, rfl, hu⟩, hb5⟩
      have HU := Lib.hid hu.r2o
      obtain ⟨au5, cu5, rfl⟩ := hu.slice
      have HB5 := Lib.hid hb5
      obtain ⟨k, hk⟩ : ∃ k, k = q.length := ⟨_, rfl⟩
      rw [← hk] at hll HWb HWs HE2 ⊢
      have HK := Lib.hid hk; clear hk hu hb5 LO
      go_wp2_with fail
      go_loopw [6, 7] (fun s x wx => ∃ j : Nat, j ≤ k ∧ x = .int .i64 j ∧ s = .int .i64 (Lt.worth (q.take j)) ∧ ∃ m, wx = w5.drewN m) (fun _ x _ => k - (intOf x).toNat)
      case atStart => exact ⟨0, Nat.zero_le _, rfl, by simp [Lt.worth], 0, rfl⟩
      case round =>
        obtain ⟨j, hj, rfl, rfl, m2, rfl⟩ := hrel
        by_cases hlt2 : j < k
        · obtain ⟨b2, o2, d2, e2, hbl2, hc2⟩ := HU.out.2 (by rw [← HK.out]; omega)
          rw [← HK.out] at e2
          simp only [Value.slice.injEq, true_and] at e2
          obtain ⟨rfl, rfl⟩ := e2
          obtain ⟨q1, q2⟩ := hc2 j (by rw [← HK.out]; exact hlt2)
          have ht := Gn.one_at HLo.out (show j < q.length by rw [← HK.out]; exact hlt2)
          obtain ⟨⟨t0', t1'⟩, -⟩ := HWb.out j hj
          have HWi := Lib.hid (HWs.out j hlt2)
          clear hc2
          generalize hqe : q.getD j pr0 = t at ht HWi
          have hqe2 : q.getD j (0, 0) = t := hqe
          rw [hqe2] at q1 q2
          clear hqe hqe2
          obtain ⟨tm, tp⟩ := t
          obtain ⟨⟨m0, m1, mx⟩, p0, p1⟩ := ht
          simp only at q1 q2 m0 m1 mx p0 p1 HWi
          obtain ⟨z0, z1⟩ := Gn.prod ⟨m0, m1⟩ ⟨p0, p1⟩
          have hi1 : (j : Int) < k := by omega
          have hi0 : (0 : Int) ≤ j := by omega
          have hi6 : (j : Int) ≤ 16 := by omega
          generalize Lt.worth (q.take j) = S at t0' t1' HWi ⊢
          have HWj := Lib.hid (show Lt.worth (q.take (j + 1)) = S + tm * tp by rw [HWi.out])
          clear HWi
          go_wp2_with fail
          go_quiet (fail)
          go_wp2_with fail
          go_roundw
          case rel => exact ⟨j + 1, by omega, by go_num, by rw [HWj.out], _, (by first | exact World.drewN_drewN _ _ _ | rfl)⟩
          case measure => simp [intOf]; omega
        · obtain rfl : j = k := by omega
          have hwb := (HWb.out j (Nat.le_refl _)).1
          rw [HE2.out j (Nat.le_refl _)] at hwb
          rw [HE2.out j (Nat.le_refl _)]
          have HB6 := Lib.hid (belowE HB5.out m2)
          generalize w5.drewN m2 = wr at HB6 ⊢
          clear HU HLo HWb HWs HE2 HK HB5
          generalize Lt.worth q = W0 at *
          go_wp2_with fail
          refine (VP.out _ HB6.out).mono ?_
          rintro e w7 ⟨rfl, hb7⟩
          have HB7 := Lib.hid (HB6.out.trans (hb7.mono HB6.out.size))
          clear hb7
          go_wp2_with fail
          refine (BO.out _ HB7.out).mono ?_
          rintro e w8 ⟨rfl, hb8⟩
          have HB8 := Lib.hid (HB7.out.trans (hb8.mono HB7.out.size))
          clear hb8
          go_wp2_with fail
          refine (GA.out _ HB8.out).mono ?_
          rintro e w9 ⟨rfl, hb9⟩
          have HB9 := Lib.hid (HB8.out.trans (hb9.mono HB8.out.size))
          clear hb9
          go_wp2_with fail
          go_ret
          have h := HB14.out.trans (HB9.out.mono HB14.out.size)
          exact ⟨rfl, HB1.out.trans (h.mono HB1.out.size)⟩
end Go.Proofs.Ythdoeckoljflpaa
