/- Discounts: the program, whole. -/
import Derived.Test.YtfelledogdplaaaDoorDcA
namespace Go.Proofs.YtfelledogdplaaaDoor
open Go.RowKit
theorem Dc.ok_btw {y p d n : Int} : Dc.ok y p d n = (btw y 0 100000 && (btw d 1 4000 && (btw p 0 d && btw n 0 40))) := by
  rw [Bool.eq_iff_iff, Dc.ok_iff]
  simp only [Bool.and_eq_true, btw_iff]
theorem btwC_any (x l h : Int) (b : Bool) (hb : btw x l h = b) (w : World) : Calls Tryd.prog 16 #[.int .i64 x, .int .i64 l, .int .i64 h] w fun e w' => e = .returned (.bool b) ∧ w = w' := hb ▸ between_any x l h w
theorem vYieldC_any (n : Int) (b : Bool) (hb : btw n 0 100000 = b) (w : World) : Calls Tryd.prog 15 #[.int .i64 n] w fun e w' => e = .returned (.bool b) ∧ w = w' := hb ▸ vYield_any n w
set_option maxRecDepth 8000 in
set_option maxHeartbeats 4000000 in
theorem disc_any (a : Addr) (y p d n : Int) (w : World) (hS : Sen a w) :
    Calls Tryd.prog 8 #[.int .i64 y, .int .i64 p, .int .i64 d, .int .i64 n] w fun e w' => e = .returned (rV (Dc.val y p d n).1 (Dc.val y p d n).2) ∧ Below w.heap.size w w' := by
  have HS := Lib.hid (hS.alloc (.cells #[.int .i64 0, .int .i64 0] 26))
  have HB0 := Lib.hid ((Below.refl w.heap.size w).alloc (Nat.le_refl _) (.cells #[.int .i64 0, .int .i64 0] 26))
  have KR0 := Lib.hid (Blk.new w #[.int .i64 0, .int .i64 0] 26)
  cases hok : Dc.ok y p d n with
  | true =>
    obtain ⟨⟨y0, y1⟩, ⟨d0, d1⟩, ⟨p0, p1⟩, n0, n1⟩ := Dc.ok_iff.1 hok
    obtain ⟨m, rfl⟩ : ∃ m : Nat, n = m := ⟨n.toNat, by omega⟩
    have HV := Lib.hid (show Dc.val y p d m = (Dc.dl (Dc.hi y p d m), Dc.dh (Dc.lo y p d m)) by unfold Dc.val; rw [if_pos hok]; rfl)
    have HG := Lib.hid (fun W hW => growthOf_any a y p d m W hW hok)
    obtain ⟨b0, b1, b2⟩ := Dc.bd40 hok (i := m) (by omega)
    have HBd := Lib.hid (fun W hW => discountBy_any a (Dc.lo y p d m) (Dc.hi y p d m) W hW b0 b1 b2)
    have HY := Lib.hid (fun W => vYieldC_any y true (btw_iff.2 ⟨y0, y1⟩) W)
    have HD := Lib.hid (fun W => btwC_any d 1 4000 true (btw_iff.2 ⟨d0, d1⟩) W)
    have HP := Lib.hid (fun W => btwC_any p 0 d true (btw_iff.2 ⟨p0, p1⟩) W)
    have HN := Lib.hid (fun W => btwC_any m 0 40 true (btw_iff.2 ⟨n0, n1⟩) W)
    clear hok b0 b1 b2
    go_enter Tryd.func8, Tryd.ntmps8
    go_wp2_with (first | (go_at_call 15; refine (HY.out _).mono ?_; rintro e w' ⟨rfl, rfl⟩) | (go_at_call 16; (first | with_reducible refine (HD.out _).mono ?_ | with_reducible refine (HP.out _).mono ?_ | with_reducible refine (HN.out _).mono ?_); rintro e w' ⟨rfl, rfl⟩))
    refine (HG.out _ HS.out).mono ?_
    rintro e w1 ⟨b, c, ys, rfl, hT, hR, hb1⟩
    have HB1 := Lib.hid (HB0.out.trans (hb1.mono HB0.out.size))
    have KR1 := Lib.hid (KR0.out.below hb1 KR0.out.lt)
    have HS1 := Lib.hid (HS.out.below hb1 HS.out.pos)
    have hg := hR.2 m (Nat.le_refl _)
    obtain ⟨⟨c0, c1⟩, -, -⟩ := hT.at2 hR.1 m (by omega)
    rw [hg] at c0 c1
    simp only at c0 c1
    clear hT hR hb1 hg HY HD HP HN HG HS HB0 KR0
    generalize Dc.lo y p d m = l at HBd HV c0
    generalize Dc.hi y p d m = h at HBd HV c1
    have hm1 : (0 : Int) ≤ m := by omega
    have hm2 : (m : Int) < m + 1 := by omega
    go_wp2_with fail
    refine (HBd.out _ HS1.out).mono ?_
    rintro e w2 ⟨rfl, hb2⟩
    have HB2 := Lib.hid (HB1.out.trans (hb2.mono HB1.out.size))
    have KR2 := Lib.hid (KR1.out.below hb2 KR1.out.lt)
    clear hb2 c0 c1
    obtain ⟨⟨r0, r1⟩, f0, f1⟩ := KR2.out.two
    generalize Dc.dl h = L at HV
    generalize Dc.dh l = U at HV
    go_wp2_with fail
    rw [HV.out]
    obtain ⟨⟨q0, q1⟩, -, -⟩ := (KR2.out.wr2 (.int .i64 L) (.int .i64 U)).two
    refine bodyPost_ret (v := rV L U) (by simp [results, Tryd.results8, go_sem, q0, q1]) rfl ⟨rfl, (HB2.out.setCell (by simp) _).setCell (by simp) _⟩
  | false =>
    have HV := Lib.hid (show Dc.val y p d n = (0, 0) by unfold Dc.val; rw [if_neg (by rw [hok]; simp)])
    rw [Dc.ok_btw] at hok
    clear HS
    rw [HV.out]
    cases hy : btw y 0 100000 with
    | false =>
      have HY := Lib.hid (fun W => vYieldC_any y false hy W)
      clear hy hok
      go_enter Tryd.func8, Tryd.ntmps8
      go_wp2_with (first | (go_at_call 15; refine (HY.out _).mono ?_; rintro e w' ⟨rfl, rfl⟩))
      exact bodyPost_ret (v := rV 0 0) (by simp [results, Tryd.results8, go_sem, KR0.out.twoD.1, KR0.out.twoD.2]) rfl ⟨rfl, HB0.out⟩
    | true =>
      have HY := Lib.hid (fun W => vYieldC_any y true hy W)
      cases hd : btw d 1 4000 with
      | false =>
        have HD := Lib.hid (fun W => btwC_any d 1 4000 false hd W)
        clear hy hd hok
        go_enter Tryd.func8, Tryd.ntmps8
        go_wp2_with (first | (go_at_call 15; refine (HY.out _).mono ?_; rintro e w' ⟨rfl, rfl⟩) | (go_at_call 16; (first | with_reducible refine (HD.out _).mono ?_); rintro e w' ⟨rfl, rfl⟩))
        exact bodyPost_ret (v := rV 0 0) (by simp [results, Tryd.results8, go_sem, KR0.out.twoD.1, KR0.out.twoD.2]) rfl ⟨rfl, HB0.out⟩
      | true =>
        have HD := Lib.hid (fun W => btwC_any d 1 4000 true hd W)
        cases hp : btw p 0 d with
        | false =>
          have HP := Lib.hid (fun W => btwC_any p 0 d false hp W)
          clear hy hd hp hok
          go_enter Tryd.func8, Tryd.ntmps8
          go_wp2_with (first | (go_at_call 15; refine (HY.out _).mono ?_; rintro e w' ⟨rfl, rfl⟩) | (go_at_call 16; (first | with_reducible refine (HD.out _).mono ?_ | with_reducible refine (HP.out _).mono ?_); rintro e w' ⟨rfl, rfl⟩))
          exact bodyPost_ret (v := rV 0 0) (by simp [results, Tryd.results8, go_sem, KR0.out.twoD.1, KR0.out.twoD.2]) rfl ⟨rfl, HB0.out⟩
        | true =>
          have HP := Lib.hid (fun W => btwC_any p 0 d true hp W)
          cases hn : btw n 0 40 with
          | false =>
            have HN := Lib.hid (fun W => btwC_any n 0 40 false hn W)
            clear hy hd hp hn hok
            go_enter Tryd.func8, Tryd.ntmps8
            go_wp2_with (first | (go_at_call 15; refine (HY.out _).mono ?_; rintro e w' ⟨rfl, rfl⟩) | (go_at_call 16; (first | with_reducible refine (HD.out _).mono ?_ | with_reducible refine (HP.out _).mono ?_ | with_reducible refine (HN.out _).mono ?_); rintro e w' ⟨rfl, rfl⟩))
            exact bodyPost_ret (v := rV 0 0) (by simp [results, Tryd.results8, go_sem, KR0.out.twoD.1, KR0.out.twoD.2]) rfl ⟨rfl, HB0.out⟩
          | true =>
            rw [hy, hd, hp, hn] at hok; cases hok
end Go.Proofs.YtfelledogdplaaaDoor
