/- The law of months kept. -/
import Derived.Test.YtcmmlgpaijfkeaaDoorAdj3
namespace Go.Proofs.YtcmmlgpaijfkeaaDoor
open Go.RowKit
theorem adj_month {xs : List Int} {n : Int} (h : ¬ adjV xs n 3 < 0) :
    (0 ≤ n ∧ n ≤ 36524) ∧ (-1 ≤ adjV xs n 1 ∧ adjV xs n 1 ≤ 36524) ∧ (-1 ≤ adjV xs n 2 ∧ adjV xs n 2 ≤ 36524) ∧
    ((0 ≤ adjV xs n 1 ∧ adjV xs n 3 = adjV xs n 1 ∧ Cal.M (adjV xs n 1) = Cal.M n) ∨ (0 ≤ adjV xs n 2 ∧ adjV xs n 3 = adjV xs n 2 ∧ (adjV xs n 1 < 0 ∨ Cal.M (adjV xs n 1) ≠ Cal.M n))) := by
  obtain ⟨h1, ⟨n0, n1⟩, _⟩ := adjV_parts h
  have hb := btw_t n0 n1
  rw [adjV_3 h1 hb] at h
  rw [adjV_1 h1 hb, adjV_2 h1 hb, adjV_3 h1 hb]
  have hu := up_bd2 xs n0
  have hd : -1 ≤ Biz.dn xs n ∧ Biz.dn xs n ≤ 36524 := by rcases Biz.dn_bd xs n with e | ⟨a, b, _⟩ <;> omega
  refine ⟨⟨n0, n1⟩, hu, hd, ?_⟩
  rcases Int.lt_or_le (Biz.up xs n) 0 with q | q
  · rw [monV_f1 q] at h ⊢
    exact .inr ⟨by omega, rfl, .inl q⟩
  · by_cases hM : Cal.M (Biz.up xs n) = Cal.M n
    · rw [monV_t h1 n0 q hM]
      exact .inl ⟨q, rfl, hM⟩
    · rw [monV_f2 hM] at h ⊢
      exact .inr ⟨by omega, rfl, .inr hM⟩
set_option maxHeartbeats 1000000 in
theorem lawAdjustDayMonth (a : Option Addr) (len cap : Nat) (zs : List Int) (w : World) (h : IsRow .u8 w a len cap zs) (hT : Tab w) :
    Calls Tryd.prog 6 #[.slice a len cap] w fun e w' => e = .returned (.bool true) ∧ Below w.heap.size w w' := by
  have H := Lib.hid h; clear h
  have HT := Lib.hid hT; clear hT
  by_cases hl : 1048576 < (len : Int)
  · go_enter Tryd.func6, Tryd.ntmps6
    go_wp2_with fail
    go_ret
    exact ⟨rfl, Below.refl _ _⟩
  · have hl' := decide_eq_false hl
    clear hl
    go_enter Tryd.func6, Tryd.ntmps6
    go_wp2_with fail
    refine (drawAdj_any _ _ _ _ _ H.out).mono ?_
    rintro e w0 ⟨a0, c0, xs, n, r, rfl, hi, hlx0, ⟨n0, n1⟩, ⟨r0, r1⟩, hB0⟩
    have HI0 := Lib.hid hi; clear hi
    have hs0 : w0.heap.size ≤ w0.heap.size := Nat.le_refl _
    have hlx : xs.length ≤ 1048576 := by omega
    have HT0 := Lib.hid (HT.out.below hB0 HT.out.pos)
    have hne : (adjV xs n r != adjV xs n r) = false := by simp
    go_wp2_with fail
    refine (iAdj_any _ _ _ _ _ _ _ HI0.out HT0.out hs0 hlx).mono ?_
    rintro e w1 ⟨rfl, hb1⟩
    have HI1 := Lib.hid (HI0.out.below hb1 hs0)
    have HT1 := Lib.hid (HT0.out.below hb1 HT0.out.pos)
    have hs1 : w0.heap.size ≤ w1.heap.size := Nat.le_trans hs0 hb1.size
    have hB1 := hB0.trans (hb1.mono hB0.size)
    clear hb1
    go_wp2_with fail
    refine (sAdj_any _ _ _ _ _ _ _ HI1.out hs1 hlx).mono ?_
    rintro e w2 ⟨rfl, hb2⟩
    have HI2 := Lib.hid (HI1.out.below hb2 hs1)
    have HT2 := Lib.hid (HT1.out.below hb2 HT1.out.pos)
    have hs2 : w0.heap.size ≤ w2.heap.size := Nat.le_trans hs1 hb2.size
    have hB2 := hB1.trans (hb2.mono hB1.size)
    clear hb2
    by_cases hc : adjV xs n r < 0
    · go_wp2_with fail
      refine (sAdj_any _ _ _ _ _ _ _ HI2.out hs2 hlx).mono ?_
      rintro e w3 ⟨rfl, hb3⟩
      have HI3 := Lib.hid (HI2.out.below hb3 hs2)
      have HT3 := Lib.hid (HT2.out.below hb3 HT2.out.pos)
      have hs3 : w0.heap.size ≤ w3.heap.size := Nat.le_trans hs2 hb3.size
      have hB3 := hB2.trans (hb3.mono hB2.size)
      clear hb3
      go_wp2_with fail
      go_ret
      exact ⟨ret_bool (by simp), hB3⟩
    · by_cases hr : r = 3
      · subst hr
        obtain ⟨⟨x0, x1⟩, ⟨u0, u1⟩, ⟨d0, d1⟩, hcase⟩ := adj_month hc
        obtain ⟨U, hU⟩ : ∃ U, U = adjV xs n 1 := ⟨_, rfl⟩
        obtain ⟨D, hD⟩ : ∃ D, D = adjV xs n 2 := ⟨_, rfl⟩
        obtain ⟨m, hm⟩ : ∃ m, m = adjV xs n 3 := ⟨_, rfl⟩
        rw [← hU] at u0 u1 hcase
        rw [← hD] at d0 d1 hcase
        rw [← hm] at hcase hc hne
        rw [← hm]
        have HU := Lib.hid hU; clear hU
        have HD := Lib.hid hD; clear hD
        clear hm
        go_wp2_with fail
        refine (iAdj_any _ _ _ _ _ _ _ HI2.out HT2.out hs2 hlx).mono ?_
        rintro e w3 ⟨rfl, hb3⟩
        have HI3 := Lib.hid (HI2.out.below hb3 hs2)
        have HT3 := Lib.hid (HT2.out.below hb3 HT2.out.pos)
        have hs3 : w0.heap.size ≤ w3.heap.size := Nat.le_trans hs2 hb3.size
        have hB3 := hB2.trans (hb3.mono hB2.size)
        clear hb3
        rw [← HU.out]
        go_wp2_with fail
        refine (iAdj_any _ _ _ _ _ _ _ HI3.out HT3.out hs3 hlx).mono ?_
        rintro e w4 ⟨rfl, hb4⟩
        have HI4 := Lib.hid (HI3.out.below hb4 hs3)
        have HT4 := Lib.hid (HT3.out.below hb4 HT3.out.pos)
        have hs4 : w0.heap.size ≤ w4.heap.size := Nat.le_trans hs3 hb4.size
        have hB4 := hB3.trans (hb4.mono hB3.size)
        clear hb4
        rw [← HD.out]
        have HDN := Lib.hid (show dayB n = true from btw_t x0 x1)
        have HDM := Lib.hid (show dayB m = true from btw_t (by omega) (by rcases hcase with ⟨_, e, _⟩ | ⟨_, e, _⟩ <;> omega))
        rcases hcase with ⟨c1, c2, c3⟩ | ⟨c1, c2, c3⟩
        · have q1 : (m == U) = true := by simp [c2]
          have q2 : (Cal.M U == Cal.M n) = true := by simp [c3]
          have q3 : (Cal.M m == Cal.M n) = true := by simp [c2, c3]
          have Q := Lib.hid (And.intro q1 (And.intro q2 q3)); clear q1 q2 q3 c2 c3
          by_cases hd : D < 0
          · have HDU := Lib.hid (show dayB U = true from btw_t (by omega) (by omega))
            have HDD := Lib.hid (show dayB D = false from btw_f (.inl (by omega)))
            go_wp2_with fail
            refine (dateOf_yes _ _ HT4.out HDN.out).mono ?_
            rintro e w5 ⟨rfl, hb5⟩
            have HT5 := Lib.hid ((HT4.out.below hb5 HT4.out.pos).alloc (.cells #[.int .i64 (Cal.Y n), .int .i64 (Cal.M n), .int .i64 (Cal.D n)] 30))
            have hB5 := (hB4.trans (hb5.mono hB4.size)).alloc (hB4.trans (hb5.mono hB4.size)).size (.cells #[.int .i64 (Cal.Y n), .int .i64 (Cal.M n), .int .i64 (Cal.D n)] 30)
            have BKa_5 := Lib.hid (Blk.new w5 #[.int .i64 (Cal.Y n), .int .i64 (Cal.M n), .int .i64 (Cal.D n)] 30)
            clear hb5
            go_wp2_with fail
            refine (dateOf_yes _ _ HT5.out HDU.out).mono ?_
            rintro e w6 ⟨rfl, hb6⟩
            have HT6 := Lib.hid ((HT5.out.below hb6 HT5.out.pos).alloc (.cells #[.int .i64 (Cal.Y U), .int .i64 (Cal.M U), .int .i64 (Cal.D U)] 30))
            have hB6 := (hB5.trans (hb6.mono hB5.size)).alloc (hB5.trans (hb6.mono hB5.size)).size (.cells #[.int .i64 (Cal.Y U), .int .i64 (Cal.M U), .int .i64 (Cal.D U)] 30)
            have BKa_6 := Lib.hid ((BKa_5.out.below hb6 BKa_5.out.lt).alloc (.cells #[.int .i64 (Cal.Y U), .int .i64 (Cal.M U), .int .i64 (Cal.D U)] 30))
            have BKb_6 := Lib.hid (Blk.new w6 #[.int .i64 (Cal.Y U), .int .i64 (Cal.M U), .int .i64 (Cal.D U)] 30)
            clear hb6
            go_wp2_with fail
            refine (dateOf_no _ _ HDD.out).mono ?_
            rintro e w7 ⟨rfl, hb7⟩
            have HT7 := Lib.hid ((HT6.out.below hb7 HT6.out.pos).alloc (.cells #[.int .i64 0, .int .i64 0, .int .i64 0] 30))
            have hB7 := (hB6.trans (hb7.mono hB6.size)).alloc (hB6.trans (hb7.mono hB6.size)).size (.cells #[.int .i64 0, .int .i64 0, .int .i64 0] 30)
            have BKa_7 := Lib.hid ((BKa_6.out.below hb7 BKa_6.out.lt).alloc (.cells #[.int .i64 0, .int .i64 0, .int .i64 0] 30))
            have BKb_7 := Lib.hid ((BKb_6.out.below hb7 BKb_6.out.lt).alloc (.cells #[.int .i64 0, .int .i64 0, .int .i64 0] 30))
            have BKc_7 := Lib.hid (Blk.new w7 #[.int .i64 0, .int .i64 0, .int .i64 0] 30)
            clear hb7
            go_wp2_with fail
            refine (dateOf_yes _ _ HT7.out HDM.out).mono ?_
            rintro e w8 ⟨rfl, hb8⟩
            have HT8 := Lib.hid ((HT7.out.below hb8 HT7.out.pos).alloc (.cells #[.int .i64 (Cal.Y m), .int .i64 (Cal.M m), .int .i64 (Cal.D m)] 30))
            have hB8 := (hB7.trans (hb8.mono hB7.size)).alloc (hB7.trans (hb8.mono hB7.size)).size (.cells #[.int .i64 (Cal.Y m), .int .i64 (Cal.M m), .int .i64 (Cal.D m)] 30)
            have BKa_8 := Lib.hid ((BKa_7.out.below hb8 BKa_7.out.lt).alloc (.cells #[.int .i64 (Cal.Y m), .int .i64 (Cal.M m), .int .i64 (Cal.D m)] 30))
            have BKb_8 := Lib.hid ((BKb_7.out.below hb8 BKb_7.out.lt).alloc (.cells #[.int .i64 (Cal.Y m), .int .i64 (Cal.M m), .int .i64 (Cal.D m)] 30))
            have BKc_8 := Lib.hid ((BKc_7.out.below hb8 BKc_7.out.lt).alloc (.cells #[.int .i64 (Cal.Y m), .int .i64 (Cal.M m), .int .i64 (Cal.D m)] 30))
            have BKd_8 := Lib.hid (Blk.new w8 #[.int .i64 (Cal.Y m), .int .i64 (Cal.M m), .int .i64 (Cal.D m)] 30)
            clear hb8
            obtain ⟨⟨_, c0, _⟩, _⟩ := BKa_8.out.three
            obtain ⟨⟨_, c1, _⟩, _⟩ := BKb_8.out.three
            obtain ⟨⟨_, c2, _⟩, _⟩ := BKc_8.out.three
            obtain ⟨⟨_, c3, _⟩, _⟩ := BKd_8.out.three
            obtain ⟨q1, q2, q3⟩ := Q.out
            go_wp2_with fail
            go_ret
            exact ⟨ret_bool (by simp), hB8⟩
          · have HDU := Lib.hid (show dayB U = true from btw_t (by omega) (by omega))
            have HDD := Lib.hid (show dayB D = true from btw_t (by omega) (by omega))
            go_wp2_with fail
            refine (dateOf_yes _ _ HT4.out HDN.out).mono ?_
            rintro e w5 ⟨rfl, hb5⟩
            have HT5 := Lib.hid ((HT4.out.below hb5 HT4.out.pos).alloc (.cells #[.int .i64 (Cal.Y n), .int .i64 (Cal.M n), .int .i64 (Cal.D n)] 30))
            have hB5 := (hB4.trans (hb5.mono hB4.size)).alloc (hB4.trans (hb5.mono hB4.size)).size (.cells #[.int .i64 (Cal.Y n), .int .i64 (Cal.M n), .int .i64 (Cal.D n)] 30)
            have BKa_5 := Lib.hid (Blk.new w5 #[.int .i64 (Cal.Y n), .int .i64 (Cal.M n), .int .i64 (Cal.D n)] 30)
            clear hb5
            go_wp2_with fail
            refine (dateOf_yes _ _ HT5.out HDU.out).mono ?_
            rintro e w6 ⟨rfl, hb6⟩
            have HT6 := Lib.hid ((HT5.out.below hb6 HT5.out.pos).alloc (.cells #[.int .i64 (Cal.Y U), .int .i64 (Cal.M U), .int .i64 (Cal.D U)] 30))
            have hB6 := (hB5.trans (hb6.mono hB5.size)).alloc (hB5.trans (hb6.mono hB5.size)).size (.cells #[.int .i64 (Cal.Y U), .int .i64 (Cal.M U), .int .i64 (Cal.D U)] 30)
            have BKa_6 := Lib.hid ((BKa_5.out.below hb6 BKa_5.out.lt).alloc (.cells #[.int .i64 (Cal.Y U), .int .i64 (Cal.M U), .int .i64 (Cal.D U)] 30))
            have BKb_6 := Lib.hid (Blk.new w6 #[.int .i64 (Cal.Y U), .int .i64 (Cal.M U), .int .i64 (Cal.D U)] 30)
            clear hb6
            go_wp2_with fail
            refine (dateOf_yes _ _ HT6.out HDD.out).mono ?_
            rintro e w7 ⟨rfl, hb7⟩
            have HT7 := Lib.hid ((HT6.out.below hb7 HT6.out.pos).alloc (.cells #[.int .i64 (Cal.Y D), .int .i64 (Cal.M D), .int .i64 (Cal.D D)] 30))
            have hB7 := (hB6.trans (hb7.mono hB6.size)).alloc (hB6.trans (hb7.mono hB6.size)).size (.cells #[.int .i64 (Cal.Y D), .int .i64 (Cal.M D), .int .i64 (Cal.D D)] 30)
            have BKa_7 := Lib.hid ((BKa_6.out.below hb7 BKa_6.out.lt).alloc (.cells #[.int .i64 (Cal.Y D), .int .i64 (Cal.M D), .int .i64 (Cal.D D)] 30))
            have BKb_7 := Lib.hid ((BKb_6.out.below hb7 BKb_6.out.lt).alloc (.cells #[.int .i64 (Cal.Y D), .int .i64 (Cal.M D), .int .i64 (Cal.D D)] 30))
            have BKc_7 := Lib.hid (Blk.new w7 #[.int .i64 (Cal.Y D), .int .i64 (Cal.M D), .int .i64 (Cal.D D)] 30)
            clear hb7
            go_wp2_with fail
            refine (dateOf_yes _ _ HT7.out HDM.out).mono ?_
            rintro e w8 ⟨rfl, hb8⟩
            have HT8 := Lib.hid ((HT7.out.below hb8 HT7.out.pos).alloc (.cells #[.int .i64 (Cal.Y m), .int .i64 (Cal.M m), .int .i64 (Cal.D m)] 30))
            have hB8 := (hB7.trans (hb8.mono hB7.size)).alloc (hB7.trans (hb8.mono hB7.size)).size (.cells #[.int .i64 (Cal.Y m), .int .i64 (Cal.M m), .int .i64 (Cal.D m)] 30)
            have BKa_8 := Lib.hid ((BKa_7.out.below hb8 BKa_7.out.lt).alloc (.cells #[.int .i64 (Cal.Y m), .int .i64 (Cal.M m), .int .i64 (Cal.D m)] 30))
            have BKb_8 := Lib.hid ((BKb_7.out.below hb8 BKb_7.out.lt).alloc (.cells #[.int .i64 (Cal.Y m), .int .i64 (Cal.M m), .int .i64 (Cal.D m)] 30))
            have BKc_8 := Lib.hid ((BKc_7.out.below hb8 BKc_7.out.lt).alloc (.cells #[.int .i64 (Cal.Y m), .int .i64 (Cal.M m), .int .i64 (Cal.D m)] 30))
            have BKd_8 := Lib.hid (Blk.new w8 #[.int .i64 (Cal.Y m), .int .i64 (Cal.M m), .int .i64 (Cal.D m)] 30)
            clear hb8
            obtain ⟨⟨_, c0, _⟩, _⟩ := BKa_8.out.three
            obtain ⟨⟨_, c1, _⟩, _⟩ := BKb_8.out.three
            obtain ⟨⟨_, c2, _⟩, _⟩ := BKc_8.out.three
            obtain ⟨⟨_, c3, _⟩, _⟩ := BKd_8.out.three
            obtain ⟨q1, q2, q3⟩ := Q.out
            go_wp2_with fail
            go_ret
            exact ⟨ret_bool (by simp), hB8⟩
        · have q1 : (m == D) = true := by simp [c2]
          have q3 : (Cal.M m == Cal.M n) = (Cal.M D == Cal.M n) := by simp [c2]
          have Q := Lib.hid (And.intro q1 q3); clear q1 q3 c2
          by_cases hu : U < 0
          · have HDU := Lib.hid (show dayB U = false from btw_f (.inl (by omega)))
            have HDD := Lib.hid (show dayB D = true from btw_t (by omega) (by omega))
            go_wp2_with fail
            refine (dateOf_yes _ _ HT4.out HDN.out).mono ?_
            rintro e w5 ⟨rfl, hb5⟩
            have HT5 := Lib.hid ((HT4.out.below hb5 HT4.out.pos).alloc (.cells #[.int .i64 (Cal.Y n), .int .i64 (Cal.M n), .int .i64 (Cal.D n)] 30))
            have hB5 := (hB4.trans (hb5.mono hB4.size)).alloc (hB4.trans (hb5.mono hB4.size)).size (.cells #[.int .i64 (Cal.Y n), .int .i64 (Cal.M n), .int .i64 (Cal.D n)] 30)
            have BKa_5 := Lib.hid (Blk.new w5 #[.int .i64 (Cal.Y n), .int .i64 (Cal.M n), .int .i64 (Cal.D n)] 30)
            clear hb5
            go_wp2_with fail
            refine (dateOf_no _ _ HDU.out).mono ?_
            rintro e w6 ⟨rfl, hb6⟩
            have HT6 := Lib.hid ((HT5.out.below hb6 HT5.out.pos).alloc (.cells #[.int .i64 0, .int .i64 0, .int .i64 0] 30))
            have hB6 := (hB5.trans (hb6.mono hB5.size)).alloc (hB5.trans (hb6.mono hB5.size)).size (.cells #[.int .i64 0, .int .i64 0, .int .i64 0] 30)
            have BKa_6 := Lib.hid ((BKa_5.out.below hb6 BKa_5.out.lt).alloc (.cells #[.int .i64 0, .int .i64 0, .int .i64 0] 30))
            have BKb_6 := Lib.hid (Blk.new w6 #[.int .i64 0, .int .i64 0, .int .i64 0] 30)
            clear hb6
            go_wp2_with fail
            refine (dateOf_yes _ _ HT6.out HDD.out).mono ?_
            rintro e w7 ⟨rfl, hb7⟩
            have HT7 := Lib.hid ((HT6.out.below hb7 HT6.out.pos).alloc (.cells #[.int .i64 (Cal.Y D), .int .i64 (Cal.M D), .int .i64 (Cal.D D)] 30))
            have hB7 := (hB6.trans (hb7.mono hB6.size)).alloc (hB6.trans (hb7.mono hB6.size)).size (.cells #[.int .i64 (Cal.Y D), .int .i64 (Cal.M D), .int .i64 (Cal.D D)] 30)
            have BKa_7 := Lib.hid ((BKa_6.out.below hb7 BKa_6.out.lt).alloc (.cells #[.int .i64 (Cal.Y D), .int .i64 (Cal.M D), .int .i64 (Cal.D D)] 30))
            have BKb_7 := Lib.hid ((BKb_6.out.below hb7 BKb_6.out.lt).alloc (.cells #[.int .i64 (Cal.Y D), .int .i64 (Cal.M D), .int .i64 (Cal.D D)] 30))
            have BKc_7 := Lib.hid (Blk.new w7 #[.int .i64 (Cal.Y D), .int .i64 (Cal.M D), .int .i64 (Cal.D D)] 30)
            clear hb7
            go_wp2_with fail
            refine (dateOf_yes _ _ HT7.out HDM.out).mono ?_
            rintro e w8 ⟨rfl, hb8⟩
            have HT8 := Lib.hid ((HT7.out.below hb8 HT7.out.pos).alloc (.cells #[.int .i64 (Cal.Y m), .int .i64 (Cal.M m), .int .i64 (Cal.D m)] 30))
            have hB8 := (hB7.trans (hb8.mono hB7.size)).alloc (hB7.trans (hb8.mono hB7.size)).size (.cells #[.int .i64 (Cal.Y m), .int .i64 (Cal.M m), .int .i64 (Cal.D m)] 30)
            have BKa_8 := Lib.hid ((BKa_7.out.below hb8 BKa_7.out.lt).alloc (.cells #[.int .i64 (Cal.Y m), .int .i64 (Cal.M m), .int .i64 (Cal.D m)] 30))
            have BKb_8 := Lib.hid ((BKb_7.out.below hb8 BKb_7.out.lt).alloc (.cells #[.int .i64 (Cal.Y m), .int .i64 (Cal.M m), .int .i64 (Cal.D m)] 30))
            have BKc_8 := Lib.hid ((BKc_7.out.below hb8 BKc_7.out.lt).alloc (.cells #[.int .i64 (Cal.Y m), .int .i64 (Cal.M m), .int .i64 (Cal.D m)] 30))
            have BKd_8 := Lib.hid (Blk.new w8 #[.int .i64 (Cal.Y m), .int .i64 (Cal.M m), .int .i64 (Cal.D m)] 30)
            clear hb8
            obtain ⟨⟨_, c0, _⟩, _⟩ := BKa_8.out.three
            obtain ⟨⟨_, c1, _⟩, _⟩ := BKb_8.out.three
            obtain ⟨⟨_, c2, _⟩, _⟩ := BKc_8.out.three
            obtain ⟨⟨_, c3, _⟩, _⟩ := BKd_8.out.three
            obtain ⟨q1, q3⟩ := Q.out
            cases q4 : (Cal.M D == Cal.M n) <;> cases q5 : (m == U)
            all_goals
              rw [q4] at q3
              go_wp2_with fail
              go_ret
              exact ⟨ret_bool (by simp), hB8⟩
          · have q6 : (Cal.M U == Cal.M n) = false := by
              rcases c3 with e | e
              · omega
              · simp [e]
            have Q6 := Lib.hid q6; clear q6 c3
            have HDU := Lib.hid (show dayB U = true from btw_t (by omega) (by omega))
            have HDD := Lib.hid (show dayB D = true from btw_t (by omega) (by omega))
            go_wp2_with fail
            refine (dateOf_yes _ _ HT4.out HDN.out).mono ?_
            rintro e w5 ⟨rfl, hb5⟩
            have HT5 := Lib.hid ((HT4.out.below hb5 HT4.out.pos).alloc (.cells #[.int .i64 (Cal.Y n), .int .i64 (Cal.M n), .int .i64 (Cal.D n)] 30))
            have hB5 := (hB4.trans (hb5.mono hB4.size)).alloc (hB4.trans (hb5.mono hB4.size)).size (.cells #[.int .i64 (Cal.Y n), .int .i64 (Cal.M n), .int .i64 (Cal.D n)] 30)
            have BKa_5 := Lib.hid (Blk.new w5 #[.int .i64 (Cal.Y n), .int .i64 (Cal.M n), .int .i64 (Cal.D n)] 30)
            clear hb5
            go_wp2_with fail
            refine (dateOf_yes _ _ HT5.out HDU.out).mono ?_
            rintro e w6 ⟨rfl, hb6⟩
            have HT6 := Lib.hid ((HT5.out.below hb6 HT5.out.pos).alloc (.cells #[.int .i64 (Cal.Y U), .int .i64 (Cal.M U), .int .i64 (Cal.D U)] 30))
            have hB6 := (hB5.trans (hb6.mono hB5.size)).alloc (hB5.trans (hb6.mono hB5.size)).size (.cells #[.int .i64 (Cal.Y U), .int .i64 (Cal.M U), .int .i64 (Cal.D U)] 30)
            have BKa_6 := Lib.hid ((BKa_5.out.below hb6 BKa_5.out.lt).alloc (.cells #[.int .i64 (Cal.Y U), .int .i64 (Cal.M U), .int .i64 (Cal.D U)] 30))
            have BKb_6 := Lib.hid (Blk.new w6 #[.int .i64 (Cal.Y U), .int .i64 (Cal.M U), .int .i64 (Cal.D U)] 30)
            clear hb6
            go_wp2_with fail
            refine (dateOf_yes _ _ HT6.out HDD.out).mono ?_
            rintro e w7 ⟨rfl, hb7⟩
            have HT7 := Lib.hid ((HT6.out.below hb7 HT6.out.pos).alloc (.cells #[.int .i64 (Cal.Y D), .int .i64 (Cal.M D), .int .i64 (Cal.D D)] 30))
            have hB7 := (hB6.trans (hb7.mono hB6.size)).alloc (hB6.trans (hb7.mono hB6.size)).size (.cells #[.int .i64 (Cal.Y D), .int .i64 (Cal.M D), .int .i64 (Cal.D D)] 30)
            have BKa_7 := Lib.hid ((BKa_6.out.below hb7 BKa_6.out.lt).alloc (.cells #[.int .i64 (Cal.Y D), .int .i64 (Cal.M D), .int .i64 (Cal.D D)] 30))
            have BKb_7 := Lib.hid ((BKb_6.out.below hb7 BKb_6.out.lt).alloc (.cells #[.int .i64 (Cal.Y D), .int .i64 (Cal.M D), .int .i64 (Cal.D D)] 30))
            have BKc_7 := Lib.hid (Blk.new w7 #[.int .i64 (Cal.Y D), .int .i64 (Cal.M D), .int .i64 (Cal.D D)] 30)
            clear hb7
            go_wp2_with fail
            refine (dateOf_yes _ _ HT7.out HDM.out).mono ?_
            rintro e w8 ⟨rfl, hb8⟩
            have HT8 := Lib.hid ((HT7.out.below hb8 HT7.out.pos).alloc (.cells #[.int .i64 (Cal.Y m), .int .i64 (Cal.M m), .int .i64 (Cal.D m)] 30))
            have hB8 := (hB7.trans (hb8.mono hB7.size)).alloc (hB7.trans (hb8.mono hB7.size)).size (.cells #[.int .i64 (Cal.Y m), .int .i64 (Cal.M m), .int .i64 (Cal.D m)] 30)
            have BKa_8 := Lib.hid ((BKa_7.out.below hb8 BKa_7.out.lt).alloc (.cells #[.int .i64 (Cal.Y m), .int .i64 (Cal.M m), .int .i64 (Cal.D m)] 30))
            have BKb_8 := Lib.hid ((BKb_7.out.below hb8 BKb_7.out.lt).alloc (.cells #[.int .i64 (Cal.Y m), .int .i64 (Cal.M m), .int .i64 (Cal.D m)] 30))
            have BKc_8 := Lib.hid ((BKc_7.out.below hb8 BKc_7.out.lt).alloc (.cells #[.int .i64 (Cal.Y m), .int .i64 (Cal.M m), .int .i64 (Cal.D m)] 30))
            have BKd_8 := Lib.hid (Blk.new w8 #[.int .i64 (Cal.Y m), .int .i64 (Cal.M m), .int .i64 (Cal.D m)] 30)
            clear hb8
            obtain ⟨⟨_, c0, _⟩, _⟩ := BKa_8.out.three
            obtain ⟨⟨_, c1, _⟩, _⟩ := BKb_8.out.three
            obtain ⟨⟨_, c2, _⟩, _⟩ := BKc_8.out.three
            obtain ⟨⟨_, c3, _⟩, _⟩ := BKd_8.out.three
            have q6 := Q6.out
            obtain ⟨q1, q3⟩ := Q.out
            cases q4 : (Cal.M D == Cal.M n) <;> cases q5 : (m == U)
            all_goals
              rw [q4] at q3
              go_wp2_with fail
              go_ret
              exact ⟨ret_bool (by simp), hB8⟩
      · have f3 : (r != 3) = true := by simp [hr]
        go_wp2_with fail
        refine (sAdj_any _ _ _ _ _ _ _ HI2.out hs2 hlx).mono ?_
        rintro e w3 ⟨rfl, hb3⟩
        have HI3 := Lib.hid (HI2.out.below hb3 hs2)
        have HT3 := Lib.hid (HT2.out.below hb3 HT2.out.pos)
        have hs3 : w0.heap.size ≤ w3.heap.size := Nat.le_trans hs2 hb3.size
        have hB3 := hB2.trans (hb3.mono hB2.size)
        clear hb3
        go_wp2_with fail
        go_ret
        exact ⟨ret_bool (by simp), hB3⟩
end Go.Proofs.YtcmmlgpaijfkeaaDoor
