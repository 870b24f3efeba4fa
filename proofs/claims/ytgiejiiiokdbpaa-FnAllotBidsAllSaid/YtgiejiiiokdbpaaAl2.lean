/- What bids get: the program. -/
import Derived.Test.YtgiejiiiokdbpaaAlM
namespace Go.Proofs.Ytgiejiiiokdbpaa
open Go.RowKit
theorem bd_small {ps : List Pr} {f : Pr → Bool} (h : ps.all Bd.one = true) : Small (Al.want f ps) := small_hold (Al.want_mem h)
set_option maxRecDepth 8000 in
set_option maxHeartbeats 8000000 in
theorem allot_any (w : World) (n : Int) (v : Value) (ps : List Pr) (hv : R2o w v ps) (hm : ps.length ≤ 9223372036854775807) :
    Calls Try.prog 33 #[v, .int .i64 n] w (HandsI (Al.val ps n) w) := by
  have AU := Lib.hid (auction_any w v ps n hv hm)
  have SY := Lib.hid (fun W (hb : Below w.heap.size w W) => stopYield_any W v ps n (hv.below hb (Nat.le_refl _)) hm)
  have HV := Lib.hid hv
  obtain ⟨⟨a, cap, rfl⟩, -⟩ := hv
  cases h : Bd.auc ps n with
  | false =>
    have E := Lib.hid (Al.val_no h)
    have H := Lib.hid h; clear h
    go_enter Try.func33, Try.ntmps33
    go_wp2_with fail
    refine AU.out.mono ?_
    rw [H.out]
    rintro e w1 ⟨rfl, hb1⟩
    go_wp2_with fail
    go_ret
    exact ⟨_, rfl, by rw [E.out]; exact IRow.nil _ _, hb1⟩
  | true =>
    have E := Lib.hid (Al.val_yes h)
    have H := Lib.hid h
    have hl := (Bd.parts ((Bool.and_eq_true _ _).mp (show (Bd.ok ps && btw n 1 1000000000) = true from h)).1).1
    have HSv := Lib.hid (Bd.val_yes h)
    by_cases hs : Bd.stop ps n < 0
    · have HR := Lib.hid (show Al.res ps n = Al.want (fun _ => true) ps from if_pos hs)
      have HW := Lib.hid (fun W (hb : Below w.heap.size w W) => wanted1_any W _ ps (HV.out.below hb (Nat.le_refl _)) hl)
      clear h
      generalize Bd.stop ps n = s at *
      go_enter Try.func33, Try.ntmps33
      go_wp2_with fail
      refine AU.out.mono ?_
      rw [H.out]
      rintro e w1 ⟨rfl, hb1⟩
      have HB1 := Lib.hid hb1; clear hb1
      go_wp2_with fail
      refine (SY.out _ HB1.out).mono ?_
      rw [HSv.out]
      rintro e w2 ⟨rfl, hb2⟩
      have HB2 := Lib.hid (HB1.out.trans (hb2.mono HB1.out.size)); clear hb2
      have HA2 := Lib.hid (HB2.out.alloc HB2.out.size (.cells #[.int .i64 s] 3))
      have hq := (Blk.new w2 #[.int .i64 s] 3).one0
      go_wp2_with fail
      refine (HW.out _ HA2.out).mono ?_
      rintro e w3 ⟨v3, rfl, hF, hb3⟩
      have HF := Lib.hid hF; clear hF
      go_wp2_with fail
      go_ret
      exact ⟨_, rfl, by rw [E.out, HR.out]; exact (HF.out.irow).lower HA2.out.size, HA2.out.trans (hb3.mono HA2.out.size)⟩
    · have ok := Al.ok_of h (show 0 ≤ Bd.stop ps n by omega)
      have HR := Lib.hid (show Al.res ps n = Al.out ps n from if_neg hs)
      have HOK := Lib.hid ok
      obtain ⟨lf0, lf1, -⟩ := ok.left_bd
      obtain ⟨n0, n1⟩ := ok.n0
      have HPR := Lib.hid ok.pr
      have hls : Small (Al.less ps (Bd.stop ps n)) := bd_small ok.all
      have HSm := Lib.hid hls
      have HLl := Lib.hid (show (Al.less ps (Bd.stop ps n)).length = ps.length from Al.want_len _ _)
      have HLa := Lib.hid (show (Al.last ps (Bd.stop ps n)).length = ps.length from Al.want_len _ _)
      have HLs := Lib.hid (Al.shr_len ps n)
      have HPv := Lib.hid (show Pr.val (Al.left ps n) (Al.last ps (Bd.stop ps n)) = Al.shr ps n from Pr.val_yes ok.pr)
      have HLf := Lib.hid (show n - (Al.less ps (Bd.stop ps n)).sum = Al.left ps n from rfl)
      have HOl := Lib.hid (Al.out_len ps n)
      have HOa := Lib.hid (fun i (hi : i < ps.length) => Al.out_at (n := n) hi)
      have HWb := Lib.hid (fun i (hi : i < ps.length) => Al.want_bd (f := fun p => decide (p.1 < Bd.stop ps n)) ok.all hi)
      have HSb := Lib.hid (fun i (hi : i < ps.length) => ok.shr_bd hi)
      have HLb := Lib.hid (fun i (hi : i < ps.length) => Al.want_bd (f := fun p => p.1 == Bd.stop ps n) ok.all hi)
      have HW2 := Lib.hid (fun W q (hb : Below w.heap.size w W) hq hql => wanted2_any W _ ps (HV.out.below hb (Nat.le_refl _)) hl q (Bd.stop ps n) hq hql)
      have HW3 := Lib.hid (fun W q (hb : Below w.heap.size w W) hq hql => wanted3_any W _ ps (HV.out.below hb (Nat.le_refl _)) hl q (Bd.stop ps n) hq hql)
      clear h ok hls
      change Hid (∀ i, i < ps.length → 0 ≤ (Al.less ps (Bd.stop ps n)).getD i 0 ∧ (Al.less ps (Bd.stop ps n)).getD i 0 ≤ 9999) at HWb
      change Hid (∀ i, i < ps.length → 0 ≤ (Al.last ps (Bd.stop ps n)).getD i 0 ∧ (Al.last ps (Bd.stop ps n)).getD i 0 ≤ 9999) at HLb
      change Hid (∀ W q (_ : Below w.heap.size w W) (_ : W.cell? ⟨q, 0, none⟩ = some (.int .i64 (Bd.stop ps n))) (_ : q < W.heap.size), Calls Try.prog 62 #[.slice a ps.length cap, (.func (.func 64) #[] #[.pointer (some ⟨q, 0, none⟩)])] W (HandsN (Al.less ps (Bd.stop ps n)) W)) at HW2
      change Hid (∀ W q (_ : Below w.heap.size w W) (_ : W.cell? ⟨q, 0, none⟩ = some (.int .i64 (Bd.stop ps n))) (_ : q < W.heap.size), Calls Try.prog 62 #[.slice a ps.length cap, (.func (.func 65) #[] #[.pointer (some ⟨q, 0, none⟩)])] W (HandsN (Al.last ps (Bd.stop ps n)) W)) at HW3
      generalize Al.less ps (Bd.stop ps n) = xl at *
      generalize Al.last ps (Bd.stop ps n) = xa at *
      generalize Bd.stop ps n = s at *
      generalize Al.left ps n = lf at *
      go_enter Try.func33, Try.ntmps33
      go_wp2_with fail
      refine AU.out.mono ?_
      rw [H.out]
      rintro e w1 ⟨rfl, hb1⟩
      have HB1 := Lib.hid hb1; clear hb1
      go_wp2_with fail
      refine (SY.out _ HB1.out).mono ?_
      rw [HSv.out]
      rintro e w2 ⟨rfl, hb2⟩
      have HB2 := Lib.hid (HB1.out.trans (hb2.mono HB1.out.size)); clear hb2
      have HA2 := Lib.hid (HB2.out.alloc HB2.out.size (.cells #[.int .i64 s] 3))
      have KQ := Lib.hid (Blk.new w2 #[.int .i64 s] 3)
      have hq := KQ.out.one0
      go_wp2_with fail
      refine (HW2.out _ w2.heap.size HA2.out KQ.out.one0 KQ.out.lt).mono ?_
      rintro e w3 ⟨v3, rfl, hF, hb3⟩
      obtain ⟨b3, c3, rfl, hb3w, hb3l, -, -⟩ := hF.form
      rw [HLl.out] at hF ⊢
      have HF3 := Lib.hid hF.irow
      have HB3 := Lib.hid (HA2.out.trans (hb3.mono HA2.out.size))
      have KQ3 := Lib.hid (KQ.out.below hb3 KQ.out.lt)
      have hszA : w.heap.size ≤ (w2.alloc (.cells #[.int .i64 s] 3)).heap.size := HA2.out.size
      clear hF hb3 hq
      have hq := KQ3.out.one0
      go_wp2_with fail
      refine (HW3.out _ w2.heap.size HB3.out KQ3.out.one0 KQ3.out.lt).mono ?_
      rintro e w4 ⟨v4, rfl, hF4, hb4⟩
      have HF4 := Lib.hid (HF3.out.below hb4 (Nat.le_refl _))
      have HB4 := Lib.hid (HB3.out.trans (hb4.mono HB3.out.size))
      have HR4 := Lib.hid hF4.irow.r1
      have hsz34 := hb4.size
      clear hF4 hb4 hq
      have SI := Lib.hid (sumInts_any w4 _ _ HF4.out.r1 (by rw [HLl.out]; omega) HSm.out)
      have PR := Lib.hid (proRate_any w4 lf _ _ HR4.out (by rw [HLa.out]; exact hm))
      rw [HPv.out] at PR
      have hlf := HLf.out
      have hS0 : (0 : Int) ≤ xl.sum ∧ xl.sum ≤ 1000000000 := by omega
      generalize xl.sum = S at SI hlf HLf hS0
      obtain ⟨S0, S1⟩ := hS0
      generalize Al.shr ps n = sh at *
      generalize Al.out ps n = zo at *
      obtain ⟨m, hmm⟩ : ∃ m, m = ps.length := ⟨_, rfl⟩
      rw [← hmm] at hl hm HF4 HLl HLa HLs HOl HOa HWb HSb HLb SI ⊢
      have HN := Lib.hid hmm; clear hmm
      have hszw : w.heap.size ≤ w4.heap.size := HB4.out.size
      have hb3w' : w.heap.size ≤ b3 := Nat.le_trans hszA hb3w
      have hbl4 := (World.ownsRow.lt HF4.out b3 rfl).2
      go_wp2_with fail
      refine SI.out.mono ?_
      rintro e w5 ⟨rfl, rfl⟩
      go_wp2_with fail
      refine PR.out.mono ?_
      rintro e w6 ⟨v6, rfl, h6, hb6⟩
      have HF6 := Lib.hid (HF4.out.below hb6 (Nat.le_refl _))
      have HB6 := Lib.hid (HB4.out.trans (hb6.mono hszw))
      obtain ⟨a6, c6, rfl⟩ := h6.slice
      have hfar : ∀ j, (Value.slice a6 sh.length c6).ownBlock = some j → j ≠ b3 := fun j hj => by
        have := (World.ownsRow.lt h6 j hj).1
        omega
      have HFar := Lib.hid hfar
      have H6 := Lib.hid h6
      clear h6 hb6 hfar
      rw [HLs.out]
      have HM0 := Lib.hid (show IRow w6 _ (.slice (some ⟨b3, 0, none⟩) m c3) (Al.mix zo xl 0) by rw [Al.mix_zero]; exact HF6.out)
      have hzl : zo.length = xl.length := by rw [HOl.out, HLl.out]
      have HZl := Lib.hid hzl
      clear hzl
      go_wp2_with fail
      go_loopw [34] (fun x wr => ∃ j : Nat, j ≤ m ∧ x = .int .i64 j ∧ Hid (IRow wr (w2.alloc (.cells #[.int .i64 s] 3)).heap.size (.slice (some ⟨b3, 0, none⟩) m c3) (Al.mix zo xl j)) ∧ Hid (w6.grownBy wr (some b3))) (fun x _ => m - (intOf x).toNat)
      case atStart => exact ⟨0, Nat.zero_le _, rfl, HM0, Lib.hid ⟨rfl, rfl, rfl, Nat.le_refl _, fun _ _ _ => rfl⟩⟩
      case round =>
        obtain ⟨j, hj, rfl, HFj, HGj⟩ := hrel
        by_cases hlt : j < m
        · have HSr := Lib.hid ((H6.out.keptBy HGj.out HFar.out).r1)
          obtain ⟨b7, off7, c7, e7, -, hc7⟩ := HSr.out.2 (by rw [HLs.out]; omega)
          rw [HLs.out] at e7
          simp only [Value.slice.injEq, true_and] at e7
          obtain ⟨rfl, rfl⟩ := e7
          have c0 := hc7 j (by rw [HLs.out]; exact hlt)
          clear hc7
          have hlm := (Al.mix_len HZl.out (j := j) (by rw [HLl.out]; exact hj)).trans HLl.out
          have HLm := Lib.hid hlm
          clear hlm
          obtain ⟨b8, cap8, e8, -, -, -, hc8, hf8⟩ := HFj.out.form (by rw [HLm.out]; omega)
          simp only [Value.slice.injEq, Option.some.injEq, Addr.mk.injEq, and_true] at e8
          obtain ⟨rfl, -⟩ := e8
          have d0 := hc8 j (by rw [HLm.out]; exact hlt)
          have g0 := hf8 j
          clear hc8 hf8
          rw [Al.mix_at HZl.out (by rw [HLl.out]; exact hlt)] at d0
          have hoa := HOa.out j hlt
          obtain ⟨x0, x1⟩ := HWb.out j hlt
          obtain ⟨y0, y1⟩ := HSb.out j hlt
          obtain ⟨-, z1⟩ := HLb.out j hlt
          have HSt := Lib.hid (Al.mix_set HZl.out (j := j) (by rw [HLl.out]; exact hlt))
          rw [hoa] at HSt
          have HSo := Lib.hid ((show IRow wr (w2.alloc (.cells #[.int .i64 s] 3)).heap.size (.slice (some ⟨b3, 0, none⟩) (Al.mix zo xl j).length c3) (Al.mix zo xl j) by rw [HLm.out]; exact HFj.out).store j (xl.getD j 0 + sh.getD j 0))
          generalize xl.getD j 0 = x at d0 x0 x1 HSt HSo
          generalize sh.getD j 0 = y at c0 y0 y1 HSt HSo
          have hj1 : (j : Int) < m := by omega
          have hj0 : (0 : Int) ≤ j := by omega
          clear hoa
          go_wp2_with fail
          go_roundw
          case rel =>
            refine ⟨j + 1, by omega, by go_num, ?_, Lib.hid (grownS HGj.out HSo.out.2)⟩
            have h := HSo.out.1
            rw [List.length_set, HLm.out, HSt.out] at h
            exact Lib.hid h
          case measure => simp [intOf]; omega
        · obtain rfl : j = m := by omega
          have HBj := Lib.hid (HB6.out.grown HGj.out HB6.out.size (fun i hi => by injection hi with hi; omega))
          have HRes := Lib.hid (show IRow wr w.heap.size (.slice (some ⟨b3, 0, none⟩) j c3) zo from by
            have h := HFj.out
            have e := Al.mix_end HZl.out
            rw [HLl.out] at e
            rw [e] at h
            exact h.lower hszA)
          go_wp2_with fail
          go_ret
          exact ⟨_, rfl, by rw [E.out, HR.out]; exact HRes.out, HBj.out⟩
end Go.Proofs.Ytgiejiiiokdbpaa
