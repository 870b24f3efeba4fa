/- Discounts: the model, whole. -/
import Derived.Test.YtfelledogdplaaaDoorDcC
namespace Go.Proofs.YtfelledogdplaaaDoor
open Go.RowKit
set_option maxRecDepth 8000 in
set_option maxHeartbeats 4000000 in
theorem sdisc_any (y p d n : Int) (w : World) :
    Calls Tryd.prog 9 #[.int .i64 y, .int .i64 p, .int .i64 d, .int .i64 n] w fun e w' => e = .returned (rV (Dc.val y p d n).1 (Dc.val y p d n).2) ∧ Below w.heap.size w w' := by
  have HB0 := Lib.hid ((Below.refl w.heap.size w).alloc (Nat.le_refl _) (.cells #[.int .i64 0, .int .i64 0] 26))
  have KR0 := Lib.hid (Blk.new w #[.int .i64 0, .int .i64 0] 26)
  cases hok : Dc.ok y p d n with
  | true =>
    obtain ⟨⟨y0, y1⟩, ⟨d0, d1⟩, ⟨p0, p1⟩, n0, n1⟩ := Dc.ok_iff.1 hok
    obtain ⟨m, rfl⟩ : ∃ m : Nat, n = m := ⟨n.toNat, by omega⟩
    have HG := Lib.hid (fun W => sdiscount_any y p d m W hok)
    have HY := Lib.hid (fun W => sVYieldC_any y true (btw_iff.2 ⟨y0, y1⟩) W)
    have HD := Lib.hid (fun W => sBtwC_any d 1 4000 true (btw_iff.2 ⟨d0, d1⟩) W)
    have HP := Lib.hid (fun W => sBtwC_any p 0 d true (btw_iff.2 ⟨p0, p1⟩) W)
    have HN := Lib.hid (fun W => sBtwC_any m 0 40 true (btw_iff.2 ⟨n0, n1⟩) W)
    clear hok
    go_enter Tryd.func9, Tryd.ntmps9
    go_wp2_with (first | (go_at_call 19; refine (HY.out _).mono ?_; rintro e w' ⟨rfl, rfl⟩) | (go_at_call 20; (first | with_reducible refine (HD.out _).mono ?_ | with_reducible refine (HP.out _).mono ?_ | with_reducible refine (HN.out _).mono ?_); rintro e w' ⟨rfl, rfl⟩))
    refine (HG.out _).mono ?_
    rintro e w1 ⟨rfl, hb1⟩
    have HB1 := Lib.hid (HB0.out.trans (hb1.mono HB0.out.size))
    have KR1 := Lib.hid (KR0.out.below hb1 KR0.out.lt)
    clear hb1
    obtain ⟨⟨r0, r1⟩, f0, f1⟩ := KR1.out.two
    have HE := Lib.hid (show Dc.val y p d m = ((Dc.val y p d m).1, (Dc.val y p d m).2) from rfl)
    generalize (Dc.val y p d m).1 = L at HE ⊢
    generalize (Dc.val y p d m).2 = U at HE ⊢
    go_wp2_with fail
    obtain ⟨⟨q0, q1⟩, -, -⟩ := (KR1.out.wr2 (.int .i64 L) (.int .i64 U)).two
    refine bodyPost_ret (v := rV L U) (by simp [results, Tryd.results9, go_sem, q0, q1]) rfl ⟨by rw [HE.out], (HB1.out.setCell (by simp) _).setCell (by simp) _⟩
  | false =>
    have HV := Lib.hid (show Dc.val y p d n = (0, 0) by unfold Dc.val; rw [if_neg (by rw [hok]; simp)])
    rw [Dc.ok_btw] at hok
    rw [HV.out]
    cases hy : btw y 0 100000 with
    | false =>
      have HY := Lib.hid (fun W => sVYieldC_any y false hy W)
      clear hy hok
      go_enter Tryd.func9, Tryd.ntmps9
      go_wp2_with (first | (go_at_call 19; refine (HY.out _).mono ?_; rintro e w' ⟨rfl, rfl⟩))
      exact bodyPost_ret (v := rV 0 0) (by simp [results, Tryd.results9, go_sem, KR0.out.twoD.1, KR0.out.twoD.2]) rfl ⟨rfl, HB0.out⟩
    | true =>
      have HY := Lib.hid (fun W => sVYieldC_any y true hy W)
      cases hd : btw d 1 4000 with
      | false =>
        have HD := Lib.hid (fun W => sBtwC_any d 1 4000 false hd W)
        clear hy hd hok
        go_enter Tryd.func9, Tryd.ntmps9
        go_wp2_with (first | (go_at_call 19; refine (HY.out _).mono ?_; rintro e w' ⟨rfl, rfl⟩) | (go_at_call 20; (first | with_reducible refine (HD.out _).mono ?_); rintro e w' ⟨rfl, rfl⟩))
        exact bodyPost_ret (v := rV 0 0) (by simp [results, Tryd.results9, go_sem, KR0.out.twoD.1, KR0.out.twoD.2]) rfl ⟨rfl, HB0.out⟩
      | true =>
        have HD := Lib.hid (fun W => sBtwC_any d 1 4000 true hd W)
        cases hp : btw p 0 d with
        | false =>
          have HP := Lib.hid (fun W => sBtwC_any p 0 d false hp W)
          clear hy hd hp hok
          go_enter Tryd.func9, Tryd.ntmps9
          go_wp2_with (first | (go_at_call 19; refine (HY.out _).mono ?_; rintro e w' ⟨rfl, rfl⟩) | (go_at_call 20; (first | with_reducible refine (HD.out _).mono ?_ | with_reducible refine (HP.out _).mono ?_); rintro e w' ⟨rfl, rfl⟩))
          exact bodyPost_ret (v := rV 0 0) (by simp [results, Tryd.results9, go_sem, KR0.out.twoD.1, KR0.out.twoD.2]) rfl ⟨rfl, HB0.out⟩
        | true =>
          have HP := Lib.hid (fun W => sBtwC_any p 0 d true hp W)
          cases hn : btw n 0 40 with
          | false =>
            have HN := Lib.hid (fun W => sBtwC_any n 0 40 false hn W)
            clear hy hd hp hn hok
            go_enter Tryd.func9, Tryd.ntmps9
            go_wp2_with (first | (go_at_call 19; refine (HY.out _).mono ?_; rintro e w' ⟨rfl, rfl⟩) | (go_at_call 20; (first | with_reducible refine (HD.out _).mono ?_ | with_reducible refine (HP.out _).mono ?_ | with_reducible refine (HN.out _).mono ?_); rintro e w' ⟨rfl, rfl⟩))
            exact bodyPost_ret (v := rV 0 0) (by simp [results, Tryd.results9, go_sem, KR0.out.twoD.1, KR0.out.twoD.2]) rfl ⟨rfl, HB0.out⟩
          | true =>
            rw [hy, hd, hp, hn] at hok; cases hok
end Go.Proofs.YtfelledogdplaaaDoor
