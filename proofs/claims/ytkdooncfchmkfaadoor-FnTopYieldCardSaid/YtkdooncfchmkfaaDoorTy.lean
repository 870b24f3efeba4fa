/- Every price of every bond tells its yields. -/
import Derived.Test.YtkdooncfchmkfaaDoorYdS
import Derived.Deep.Cut
namespace Go.Proofs.YtkdooncfchmkfaaDoor
open Go.RowKit
theorem Yd.says (s e m r d x : Int) : ((Yd.val s e m r d x).1 < 0 ∨ x ≤ (Pc.pr s e m r d (Yd.val s e m r d x).1).1) ∧ ((Yd.val s e m r d x).2 < 0 ∨ (Pc.pr s e m r d (Yd.val s e m r d x).2).2 ≤ x) ∧ ((Yd.val s e m r d x).1 < 0 ∨ (Yd.val s e m r d x).2 < 0 ∨ (Yd.val s e m r d x).1 ≤ (Yd.val s e m r d x).2) := by
  cases hR : runB s e m r d with
  | false =>
    have e1 : Yd.val s e m r d x = (-1, -1) := if_neg (by rw [hR]; simp)
    rw [e1]
    exact ⟨.inl (by decide), .inl (by decide), .inl (by decide)⟩
  | true =>
    have e1 : Yd.val s e m r d x = (Yd.least (Yd.kl (d - Pc.F s e m r d) (Pc.T s e m r d - Pc.F s e m r d) (Pc.am s e m r d) x), Yd.most (Yd.km (d - Pc.F s e m r d) (Pc.T s e m r d - Pc.F s e m r d) (Pc.am s e m r d) x) 41) := if_pos hR
    rw [e1]
    have ok := Pc.run_ok (y := 0) hR (by omega) (by omega)
    have ha := Pc.am_ok hR
    obtain ⟨-, f0, f1, t0, t1, -⟩ := Pc.run hR
    have hL : ∀ i : Nat, i ≤ 40 → (Pc.pr s e m r d (2500 * (i : Int))).1 = Yd.L (d - Pc.F s e m r d) (Pc.T s e m r d - Pc.F s e m r d) (Pc.am s e m r d) i ∧ (Pc.pr s e m r d (2500 * (i : Int))).2 = Yd.H (d - Pc.F s e m r d) (Pc.T s e m r d - Pc.F s e m r d) (Pc.am s e m r d) i := fun i hi => by
      rw [Pc.pr_yes hR (btw_t (by omega) (by omega))]; exact ⟨rfl, rfl⟩
    rcases Yd.least_says (p := d - Pc.F s e m r d) (d := Pc.T s e m r d - Pc.F s e m r d) (x := x) (am := Pc.am s e m r d) rfl with ⟨a1, -⟩ | ⟨i, hi, -, a2, a3, -⟩
    · refine ⟨.inl (by rw [a1]; exact (by decide : (-1 : Int) < 0)), ?_, .inl (by rw [a1]; exact (by decide : (-1 : Int) < 0))⟩
      rcases Yd.most_says (p := d - Pc.F s e m r d) (d := Pc.T s e m r d - Pc.F s e m r d) (x := x) (am := Pc.am s e m r d) rfl with ⟨b1, -⟩ | ⟨hk, b2, b3, -⟩
      · exact .inl (by rw [b1]; exact (by decide : (-1 : Int) < 0))
      · exact .inr (by dsimp only; rw [b2, (hL _ hk).2]; exact b3)
    · refine ⟨.inr (by dsimp only; rw [a2, (hL _ hi).1]; exact a3), ?_⟩
      rcases Yd.most_says (p := d - Pc.F s e m r d) (d := Pc.T s e m r d - Pc.F s e m r d) (x := x) (am := Pc.am s e m r d) rfl with ⟨b1, -⟩ | ⟨hk, b2, b3, -⟩
      · exact ⟨.inl (by rw [b1]; exact (by decide : (-1 : Int) < 0)), .inr (.inl (by rw [b1]; exact (by decide : (-1 : Int) < 0)))⟩
      · exact ⟨.inr (by dsimp only; rw [b2, (hL _ hk).2]; exact b3), .inr (.inr (by dsimp only; rw [a2, b2]; exact Yd.order ok (by omega) ha hi hk a3 b3))⟩
set_option maxRecDepth 8000 in
set_option maxHeartbeats 4000000 in
theorem topYield (s e m r d y : Int) (w : World) (hT : Tab w) (ea : Addr) (hS : Sen ea w) :
    Calls Tryd.prog 5 #[boV s e m r, .int .i64 d, .int .i64 y] w fun x w' => x = .returned (.bool true) ∧ Below w.heap.size w w' := by
  have HT := Lib.hid (fun W (hW : Below w.heap.size w W) => hT.below hW hT.pos)
  have HS := Lib.hid (fun W (hW : Below w.heap.size w W) => hS.below hW hS.pos)
  clear hT hS
  have KB := Lib.hid (Blk.new w #[.int .i64 s, .int .i64 e, .int .i64 m, .int .i64 r] 27)
  have HB := Lib.hid ((Below.refl w.heap.size w).alloc (Nat.le_refl _) (.cells #[.int .i64 s, .int .i64 e, .int .i64 m, .int .i64 r] 27))
  have YI := Lib.hid (fun W hT hS => yieldOf_any ea s e m r d y W hT hS)
  have YS := Lib.hid (fun W => sYieldOf_any s e m r d y W)
  have PL := Lib.hid (fun W hT hS => priceOf_any ea s e m r d (Yd.val s e m r d y).1 W hT hS)
  have PU := Lib.hid (fun W hT hS => priceOf_any ea s e m r d (Yd.val s e m r d y).2 W hT hS)
  have HSay := Lib.hid (Yd.says s e m r d y)
  generalize Yd.val s e m r d y = V at *
  obtain ⟨L, U⟩ := V
  generalize Pc.pr s e m r d L = A at *
  generalize Pc.pr s e m r d U = B at *
  obtain ⟨al, ah⟩ := A
  obtain ⟨bl, bh⟩ := B
  have e1 : (L != L) = false := by simp
  have e2 : (U != U) = false := by simp
  have FL0 := rgFld0
  have FL1 := rgFld1
  go_enter Tryd.func5, Tryd.ntmps5
  go_upto_region 1 with fail
  generalize w.alloc (.cells #[.int .i64 s, .int .i64 e, .int .i64 m, .int .i64 r] 27) = w1 at HB KB ⊢
  obtain ⟨c0, c1, c2, c3⟩ := KB.out.four
  go_wp2_with fail
  refine (YI.out _ (HT.out _ HB.out) (HS.out _ HB.out)).mono ?_
  rintro x w2 ⟨rfl, hb2⟩
  have HB2 := Lib.hid (HB.out.trans (hb2.mono HB.out.size))
  have KB2 := Lib.hid (KB.out.below hb2 KB.out.lt)
  clear hb2 c0 c1 c2 c3
  obtain ⟨c0, c1, c2, c3⟩ := KB2.out.four
  go_wp2_with fail
  refine (YS.out _).mono ?_
  rintro x w3 ⟨rfl, hb3⟩
  have HB3 := Lib.hid (HB2.out.trans (hb3.mono HB2.out.size))
  have KB3 := Lib.hid (KB2.out.below hb3 KB2.out.lt)
  clear hb3 c0 c1 c2 c3
  obtain ⟨c0, c1, c2, c3⟩ := KB3.out.four
  obtain ⟨s1, s2, s3⟩ := HSay.out
  by_cases l0 : L < 0
  · have d1 := decide_eq_true l0
    by_cases m0 : U < 0
    · have d2 := decide_eq_true m0
      clear l0 m0 s1 s2 s3
      go_wp2_with fail
      go_ret
      exact ⟨rfl, HB3.out⟩
    · have d2 := decide_eq_false m0
      have d3 := decide_eq_true ((s2.resolve_left m0))
      clear l0 m0 s1 s2 s3
      go_wp2_with fail
      refine (PU.out _ (HT.out _ HB3.out) (HS.out _ HB3.out)).mono ?_
      rintro x w4 ⟨rfl, hb4⟩
      have HB4 := Lib.hid (HB3.out.trans (hb4.mono HB3.out.size))
      clear hb4 c0 c1 c2 c3
      go_wp2_with fail
      go_ret
      exact ⟨rfl, HB4.out⟩
  · have d1 := decide_eq_false l0
    have d4 := decide_eq_true ((s1.resolve_left l0))
    by_cases m0 : U < 0
    · have d2 := decide_eq_true m0
      clear l0 m0 s1 s2 s3
      go_wp2_with fail
      refine (PL.out _ (HT.out _ HB3.out) (HS.out _ HB3.out)).mono ?_
      rintro x w4 ⟨rfl, hb4⟩
      have HB4 := Lib.hid (HB3.out.trans (hb4.mono HB3.out.size))
      clear hb4 c0 c1 c2 c3
      go_wp2_with fail
      go_ret
      exact ⟨rfl, HB4.out⟩
    · have d2 := decide_eq_false m0
      have d3 := decide_eq_true ((s2.resolve_left m0))
      have d5 := decide_eq_true ((s3.resolve_left l0).resolve_left m0)
      clear l0 m0 s1 s2 s3
      go_wp2_with fail
      refine (PL.out _ (HT.out _ HB3.out) (HS.out _ HB3.out)).mono ?_
      rintro x w4 ⟨rfl, hb4⟩
      have HB4 := Lib.hid (HB3.out.trans (hb4.mono HB3.out.size))
      have KB4 := Lib.hid (KB3.out.below hb4 KB3.out.lt)
      clear hb4 c0 c1 c2 c3
      obtain ⟨c0, c1, c2, c3⟩ := KB4.out.four
      go_wp2_with fail
      refine (PU.out _ (HT.out _ HB4.out) (HS.out _ HB4.out)).mono ?_
      rintro x w5 ⟨rfl, hb5⟩
      have HB5 := Lib.hid (HB4.out.trans (hb5.mono HB4.out.size))
      clear hb5 c0 c1 c2 c3
      go_wp2_with fail
      go_ret
      exact ⟨rfl, HB5.out⟩
end Go.Proofs.YtkdooncfchmkfaaDoor
