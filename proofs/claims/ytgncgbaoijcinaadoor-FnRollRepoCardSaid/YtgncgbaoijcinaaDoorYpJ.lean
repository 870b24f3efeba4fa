/- The walks of the program's parts of years, second part: days in leap years, the kinds, interest. -/
import Derived.Test.YtgncgbaoijcinaaDoorYpI
import Derived.Test.YtgncgbaoijcinaaDoorYpM
namespace Go.Proofs.YtgncgbaoijcinaaDoor
open Go.RowKit
theorem yearQ (y : Int) (w : World) (h0 : 1 ≤ y) (h1 : y ≤ 3000) : Calls Tryd.prog 49 #[.int .i64 y] w fun e w' => e = .returned (.int .i64 (Cal.ys y)) ∧ w' = w :=
  (yearStart_any y w h0 h1).mono fun _ _ ⟨a, b⟩ => ⟨a, b.symm⟩
set_option maxHeartbeats 1000000 in
theorem leapDays_any (x y : Int) (w : World) (hT : Tab w) (h0 : 0 ≤ x) (h : x ≤ y) (h1 : y ≤ 36524) :
    Calls Tryd.prog 41 #[.int .i64 x, .int .i64 y] w fun e w' => e = .returned (.int .i64 (Yp.L y - Yp.L x)) ∧ Below w.heap.size w w' := by
  have HT := Lib.hid hT; clear hT
  have HX := Lib.hid (show dayB x = true from btw_t h0 (by omega))
  have HY := Lib.hid (show dayB y = true from btw_t (by omega) h1)
  have dx := Cal.isDate h0 (by omega)
  have dy := Cal.isDate (n := y) (by omega) h1
  have hxy : Cal.Y x ≤ Cal.Y y := by rcases Yp.ord h0 h h1 with a | a <;> omega
  have yx := Cal.Y_bd h0 (by omega)
  have yy := Cal.Y_bd (n := y) (by omega) h1
  obtain ⟨yx0, yx1⟩ := yx
  obtain ⟨yy0, yy1⟩ := yy
  have DX1 := dx.y1
  have DX2 := dx.y2
  have DY1 := dy.y1
  have DY2 := dy.y2
  clear dx dy
  go_enter Tryd.func41, Tryd.ntmps41
  go_wp2_with fail
  refine (dateOf_yes _ _ HT.out HX.out).mono ?_
  rintro e w1 ⟨rfl, hb1⟩
  have HT1 := Lib.hid ((HT.out.below hb1 HT.out.pos).alloc (.cells #[.int .i64 (Cal.Y x), .int .i64 (Cal.M x), .int .i64 (Cal.D x)] 59))
  have kA := Blk.new w1 #[.int .i64 (Cal.Y x), .int .i64 (Cal.M x), .int .i64 (Cal.D x)] 59
  have hB1 := hb1.alloc hb1.size (.cells #[.int .i64 (Cal.Y x), .int .i64 (Cal.M x), .int .i64 (Cal.D x)] 59)
  go_wp2_with fail
  refine (dateOf_yes _ _ HT1.out HY.out).mono ?_
  rintro e w2 ⟨rfl, hb2⟩
  replace kA := (kA.below hb2 kA.lt).alloc (.cells #[.int .i64 (Cal.Y y), .int .i64 (Cal.M y), .int .i64 (Cal.D y)] 59)
  have kB := Blk.new w2 #[.int .i64 (Cal.Y y), .int .i64 (Cal.M y), .int .i64 (Cal.D y)] 59
  have hB2 := (hB1.trans (hb2.mono hB1.size)).alloc (hB1.trans (hb2.mono hB1.size)).size (.cells #[.int .i64 (Cal.Y y), .int .i64 (Cal.M y), .int .i64 (Cal.D y)] 59)
  obtain ⟨⟨a0, a1, a2⟩, _⟩ := kA.three
  obtain ⟨⟨b0, b1, b2⟩, _⟩ := kB.three
  clear a1 a2 b1 b2 kA kB hb1 hb2
  go_wp2_with fail
  clear a0
  go_loopw [9, 10] (fun d n wr => ∃ k : Int, Cal.Y x ≤ k ∧ k ≤ Cal.Y y + 1 ∧ n = .int .i64 k ∧ d = .int .i64 (Yp.L (Yp.clamp x y (Cal.ys k)) - Yp.L x) ∧ ∃ q, wr = (w2.alloc (.cells #[.int .i64 (Cal.Y y), .int .i64 (Cal.M y), .int .i64 (Cal.D y)] 59)).drewN q) (fun _ n _ => 3000 - (intOf n).toNat)
  case atStart => exact ⟨Cal.Y x, by omega, by omega, rfl, by rw [Yp.clamp_first h DX1]; simp, 0, rfl⟩
  case round =>
    obtain ⟨k, k0, k1, rfl, rfl, q, rfl⟩ := hrel
    by_cases hk : k ≤ Cal.Y y
    · have hs := Cal.ys_mono hk
      have hs2 := Cal.ys_mono (show Cal.Y x + 1 ≤ k + 1 by omega)
      obtain ⟨c1, c2, c3, c4, c5, c6⟩ := Yp.clamp_step (yr := k) h0 h h1 (by omega) (by omega)
      have hL0 := Yp.L_bd h0 (show x ≤ Yp.clamp x y (Cal.ys k) by unfold Yp.clamp; omega)
      have hL1 := Yp.L_bd h0 (show x ≤ Yp.clamp x y (Cal.ys (k + 1)) by unfold Yp.clamp; omega)
      obtain ⟨l0, l1⟩ := hL0
      obtain ⟨l2, l3⟩ := hL1
      have E1 := Lib.hid (show (if x < Cal.ys k then Cal.ys k else x) = Yp.clamp x y (Cal.ys k) by rw [← c1]; split <;> omega)
      have E2 := Lib.hid (show (if Cal.ys (k + 1) < y then Cal.ys (k + 1) else y) = Yp.clamp x y (Cal.ys (k + 1)) by rw [← c2]; split <;> omega)
      cases hl : leapB k with
      | true =>
        have E3 := Lib.hid (show Yp.L (Yp.clamp x y (Cal.ys (k + 1))) = Yp.L (Yp.clamp x y (Cal.ys k)) + (Yp.clamp x y (Cal.ys (k + 1)) - Yp.clamp x y (Cal.ys k)) by rw [c3, lp_of_true hl]; omega)
        have HL := Lib.hid hl
        clear c1 c2 c3 hl
        go_wp2_with (first | (go_at_call 51; refine (isLeap_any _ _ (by omega) (by omega)).mono ?_; rintro e w' ⟨rfl, rfl⟩; rw [HL.out]) | (go_at_call 49; refine (yearStart_any _ _ (by omega) (by omega)).mono ?_; rintro e w' ⟨rfl, rfl⟩))
        go_roundw
        case rel => exact ⟨k + 1, by omega, by omega, rfl, by rw [E1.out, E2.out, E3.out]; congr 1; omega, q, rfl⟩
        case measure => simp [intOf]; omega
      | false =>
        have E3 := Lib.hid (show Yp.L (Yp.clamp x y (Cal.ys (k + 1))) = Yp.L (Yp.clamp x y (Cal.ys k)) by rw [c3, lp_of_false hl]; omega)
        have HL := Lib.hid hl
        clear c1 c2 c3 hl
        go_wp2_with (go_at_call 51; refine (isLeap_any _ _ (by omega) (by omega)).mono ?_; rintro e w' ⟨rfl, rfl⟩; rw [HL.out])
        go_roundw
        case rel => exact ⟨k + 1, by omega, by omega, rfl, by rw [E3.out], q, rfl⟩
        case measure => simp [intOf]; omega
    · obtain rfl : k = Cal.Y y + 1 := by omega
      have E := Lib.hid (Yp.clamp_last h DY2)
      go_wp2_with fail
      go_ret
      exact ⟨ret_int (by rw [E.out]), below_drewN hB2 q⟩
set_option maxHeartbeats 400000 in
theorem cntYear_any (x y : Int) (w : World) (hT : Tab w) (h0 : 0 ≤ x) (h : x ≤ y) (h1 : y ≤ 36524) :
    Calls Tryd.prog 32 #[.int .i64 x, .int .i64 y] w fun e w' => e = .returned (.tuple #[.int .i64 (365 * (Yp.L y - Yp.L x) + 366 * (y - x - (Yp.L y - Yp.L x))), .int .i64 133590]) ∧ Below w.heap.size w w' := by
  have HT := Lib.hid hT; clear hT
  obtain ⟨l0, l1⟩ := Yp.L_bd h0 h
  go_enter Tryd.func32, Tryd.ntmps32
  go_wp2_with fail
  refine (leapDays_any _ _ _ HT.out h0 h h1).mono ?_
  rintro e w1 ⟨rfl, hb1⟩
  go_wp2_with fail
  go_ret2
  exact ⟨by congr 3; simp; omega, hb1⟩
/-- What YearPart gives. -/
noncomputable def ypV (k x y : Int) : Value := if btw k 0 3 = true ∧ spanB x y = true then .tuple #[.agg #[.int .i64 (Rt.ln (Yp.num k x y) (Yp.den k)), .int .i64 (Rt.ld (Yp.num k x y) (Yp.den k))], .bool true] else .tuple #[.agg #[.int .i64 0, .int .i64 0], .bool false]
theorem ypV_yes {k x y : Int} (h1 : btw k 0 3 = true) (h2 : spanB x y = true) : ypV k x y = makeV (Yp.num k x y) (Yp.den k) := by
  obtain ⟨a, b, c, d⟩ := spanB_iff.1 h2
  unfold ypV makeV
  rw [if_pos ⟨h1, h2⟩, if_pos (Yp.terms a b c d)]
theorem ypV_no {k x y : Int} (h : btw k 0 3 = false ∨ spanB x y = false) : ypV k x y = .tuple #[.agg #[.int .i64 0, .int .i64 0], .bool false] := if_neg (by rintro ⟨a, b⟩; rw [a, b] at h; simp at h)
set_option maxHeartbeats 1000000 in
theorem yearPart_any (k x y : Int) (w : World) (hT : Tab w) :
    Calls Tryd.prog 23 #[.int .i64 k, .int .i64 x, .int .i64 y] w fun e w' => e = .returned (ypV k x y) ∧ Below w.heap.size w w' := by
  have HT := Lib.hid hT; clear hT
  cases h1 : btw k 0 3 with
  | false =>
    have E := Lib.hid (ypV_no (k := k) (x := x) (y := y) (.inl h1))
    have c1 : ∀ W : World, Calls Tryd.prog 16 #[.int .i64 k, .int .i64 0, .int .i64 3] W fun e w' => e = .returned (.bool false) ∧ W = w' := fun W => by
      have := between_any k 0 3 W; rw [h1] at this; exact this
    have C1 := Lib.hid c1; clear c1 h1
    go_enter Tryd.func23, Tryd.ntmps23
    go_wp2_with fail
    refine (C1.out _).mono ?_
    rintro e w1 ⟨rfl, rfl⟩
    go_wp2_with fail
    refine bodyPost_ret (v := .tuple #[.agg #[.int .i64 0, .int .i64 0], .bool false]) (by simp [results, Tryd.results23, go_sem]) rfl ⟨by rw [E.out], ?_⟩
    exact ((Below.refl w.heap.size w).alloc (Nat.le_refl _) _).alloc (by simp) _
  | true =>
    have c1 : ∀ W : World, Calls Tryd.prog 16 #[.int .i64 k, .int .i64 0, .int .i64 3] W fun e w' => e = .returned (.bool true) ∧ W = w' := fun W => by
      have := between_any k 0 3 W; rw [h1] at this; exact this
    have C1 := Lib.hid c1; clear c1
    cases h2 : spanB x y with
    | false =>
      have E := Lib.hid (ypV_no (k := k) (x := x) (y := y) (.inr h2))
      have c2 : ∀ W : World, Calls Tryd.prog 18 #[.int .i64 x, .int .i64 y] W fun e w' => e = .returned (.bool false) ∧ W = w' := fun W => by
        have := span_any x y W; rw [h2] at this; exact this
      have C2 := Lib.hid c2; clear c2 h1 h2
      go_enter Tryd.func23, Tryd.ntmps23
      go_wp2_with fail
      refine (C1.out _).mono ?_
      rintro e w1 ⟨rfl, rfl⟩
      go_wp2_with fail
      refine (C2.out _).mono ?_
      rintro e w1 ⟨rfl, rfl⟩
      go_wp2_with fail
      refine bodyPost_ret (v := .tuple #[.agg #[.int .i64 0, .int .i64 0], .bool false]) (by simp [results, Tryd.results23, go_sem]) rfl ⟨by rw [E.out], ?_⟩
      exact ((Below.refl w.heap.size w).alloc (Nat.le_refl _) _).alloc (by simp) _
    | true =>
      have hE := ypV_yes h1 h2
      obtain ⟨x0, xy, y1, y2⟩ := spanB_iff.1 h2
      have hm : makeV (Yp.num k x y) (Yp.den k) = .tuple #[.agg #[.int .i64 (Rt.ln (Yp.num k x y) (Yp.den k)), .int .i64 (Rt.ld (Yp.num k x y) (Yp.den k))], .bool true] := by unfold makeV; rw [if_pos (Yp.terms x0 xy y1 y2)]
      have E := Lib.hid (hE.trans hm)
      have M := Lib.hid hm
      have c2 : ∀ W : World, Calls Tryd.prog 18 #[.int .i64 x, .int .i64 y] W fun e w' => e = .returned (.bool true) ∧ W = w' := fun W => by
        have := span_any x y W; rw [h2] at this; exact this
      have C2 := Lib.hid c2
      have kb := btw_iff.1 h1
      have hk : k = 0 ∨ k = 1 ∨ k = 2 ∨ k = 3 := by omega
      clear c2 h2 hE hm h1 kb
      rcases hk with rfl | rfl | rfl | rfl
      · have HN := Lib.hid (show Yp.num 0 x y = y - x by unfold Yp.num; simp)
        have HD := Lib.hid (show Yp.den 0 = 365 from rfl)
        have HT2 := Lib.hid ((HT.out.alloc (.cells #[.int .i64 0, .int .i64 0] 47)).alloc (.cells #[.func (.func 29) #[] #[], .func (.func 30) #[] #[], .func (.func 31) #[] #[], .func (.func 32) #[] #[]] 53))
        have kR := (Blk.new w #[.int .i64 0, .int .i64 0] 47).alloc (.cells #[.func (.func 29) #[] #[], .func (.func 30) #[] #[], .func (.func 31) #[] #[], .func (.func 32) #[] #[]] 53)
        have hbA := ((Below.refl w.heap.size w).alloc (Nat.le_refl _) (.cells #[.int .i64 0, .int .i64 0] 47)).alloc (by simp) (.cells #[.func (.func 29) #[] #[], .func (.func 30) #[] #[], .func (.func 31) #[] #[], .func (.func 32) #[] #[]] 53)
        go_enter Tryd.func23, Tryd.ntmps23
        go_wp2_with fail
        refine (C1.out _).mono ?_
        rintro e w1 ⟨rfl, rfl⟩
        go_wp2_with fail
        refine (C2.out _).mono ?_
        rintro e w1 ⟨rfl, rfl⟩
        go_wp2_with fail
        refine (cntFixed_any _ _ _ x0 xy y1).mono ?_
        rintro e w1 ⟨rfl, rfl⟩
        go_wp2_with fail
        refine (makeRatio_any _ _ _).mono ?_
        rw [← HN.out, ← HD.out, M.out]
        rintro e w2 ⟨rfl, hb2⟩
        replace kR := kR.below hb2 kR.lt
        replace hbA := hbA.trans (hb2.mono hbA.size)
        clear hb2
        obtain ⟨⟨r0, r1⟩, f0, f1⟩ := kR.two
        go_wp2_with fail
        refine bodyPost_ret (v := .tuple #[.agg #[.int .i64 (Rt.ln (Yp.num 0 x y) (Yp.den 0)), .int .i64 (Rt.ld (Yp.num 0 x y) (Yp.den 0))], .bool true]) (by simp [results, Tryd.results23, go_sem, r0, r1]) rfl ⟨by rw [E.out], ?_⟩
        exact (hbA.setCell (by simp) _).setCell (by simp) _
      · have HN := Lib.hid (show Yp.num 1 x y = y - x by unfold Yp.num; simp)
        have HD := Lib.hid (show Yp.den 1 = 360 from rfl)
        have HT2 := Lib.hid ((HT.out.alloc (.cells #[.int .i64 0, .int .i64 0] 47)).alloc (.cells #[.func (.func 29) #[] #[], .func (.func 30) #[] #[], .func (.func 31) #[] #[], .func (.func 32) #[] #[]] 53))
        have kR := (Blk.new w #[.int .i64 0, .int .i64 0] 47).alloc (.cells #[.func (.func 29) #[] #[], .func (.func 30) #[] #[], .func (.func 31) #[] #[], .func (.func 32) #[] #[]] 53)
        have hbA := ((Below.refl w.heap.size w).alloc (Nat.le_refl _) (.cells #[.int .i64 0, .int .i64 0] 47)).alloc (by simp) (.cells #[.func (.func 29) #[] #[], .func (.func 30) #[] #[], .func (.func 31) #[] #[], .func (.func 32) #[] #[]] 53)
        go_enter Tryd.func23, Tryd.ntmps23
        go_wp2_with fail
        refine (C1.out _).mono ?_
        rintro e w1 ⟨rfl, rfl⟩
        go_wp2_with fail
        refine (C2.out _).mono ?_
        rintro e w1 ⟨rfl, rfl⟩
        go_wp2_with fail
        refine (cntMoney_any _ _ _ x0 xy y1).mono ?_
        rintro e w1 ⟨rfl, rfl⟩
        go_wp2_with fail
        refine (makeRatio_any _ _ _).mono ?_
        rw [← HN.out, ← HD.out, M.out]
        rintro e w2 ⟨rfl, hb2⟩
        replace kR := kR.below hb2 kR.lt
        replace hbA := hbA.trans (hb2.mono hbA.size)
        clear hb2
        obtain ⟨⟨r0, r1⟩, f0, f1⟩ := kR.two
        go_wp2_with fail
        refine bodyPost_ret (v := .tuple #[.agg #[.int .i64 (Rt.ln (Yp.num 1 x y) (Yp.den 1)), .int .i64 (Rt.ld (Yp.num 1 x y) (Yp.den 1))], .bool true]) (by simp [results, Tryd.results23, go_sem, r0, r1]) rfl ⟨by rw [E.out], ?_⟩
        exact (hbA.setCell (by simp) _).setCell (by simp) _
      · have HN := Lib.hid (show Yp.num 2 x y = Yp.thirty x y by unfold Yp.num; simp)
        have HD := Lib.hid (show Yp.den 2 = 360 from rfl)
        have HT2 := Lib.hid ((HT.out.alloc (.cells #[.int .i64 0, .int .i64 0] 47)).alloc (.cells #[.func (.func 29) #[] #[], .func (.func 30) #[] #[], .func (.func 31) #[] #[], .func (.func 32) #[] #[]] 53))
        have kR := (Blk.new w #[.int .i64 0, .int .i64 0] 47).alloc (.cells #[.func (.func 29) #[] #[], .func (.func 30) #[] #[], .func (.func 31) #[] #[], .func (.func 32) #[] #[]] 53)
        have hbA := ((Below.refl w.heap.size w).alloc (Nat.le_refl _) (.cells #[.int .i64 0, .int .i64 0] 47)).alloc (by simp) (.cells #[.func (.func 29) #[] #[], .func (.func 30) #[] #[], .func (.func 31) #[] #[], .func (.func 32) #[] #[]] 53)
        go_enter Tryd.func23, Tryd.ntmps23
        go_wp2_with fail
        refine (C1.out _).mono ?_
        rintro e w1 ⟨rfl, rfl⟩
        go_wp2_with fail
        refine (C2.out _).mono ?_
        rintro e w1 ⟨rfl, rfl⟩
        go_wp2_with fail
        refine (cntThirty_any _ _ _ HT2.out x0 xy y1).mono ?_
        rintro e w1 ⟨rfl, hb1⟩
        replace kR := kR.below hb1 kR.lt
        replace hbA := hbA.trans (hb1.mono hbA.size)
        clear hb1
        go_wp2_with fail
        refine (makeRatio_any _ _ _).mono ?_
        rw [← HN.out, ← HD.out, M.out]
        rintro e w2 ⟨rfl, hb2⟩
        replace kR := kR.below hb2 kR.lt
        replace hbA := hbA.trans (hb2.mono hbA.size)
        clear hb2
        obtain ⟨⟨r0, r1⟩, f0, f1⟩ := kR.two
        go_wp2_with fail
        refine bodyPost_ret (v := .tuple #[.agg #[.int .i64 (Rt.ln (Yp.num 2 x y) (Yp.den 2)), .int .i64 (Rt.ld (Yp.num 2 x y) (Yp.den 2))], .bool true]) (by simp [results, Tryd.results23, go_sem, r0, r1]) rfl ⟨by rw [E.out], ?_⟩
        exact (hbA.setCell (by simp) _).setCell (by simp) _
      · have HN := Lib.hid (show Yp.num 3 x y = 365 * (Yp.L y - Yp.L x) + 366 * (y - x - (Yp.L y - Yp.L x)) by unfold Yp.num; simp)
        have HD := Lib.hid (show Yp.den 3 = 133590 from rfl)
        have HT2 := Lib.hid ((HT.out.alloc (.cells #[.int .i64 0, .int .i64 0] 47)).alloc (.cells #[.func (.func 29) #[] #[], .func (.func 30) #[] #[], .func (.func 31) #[] #[], .func (.func 32) #[] #[]] 53))
        have kR := (Blk.new w #[.int .i64 0, .int .i64 0] 47).alloc (.cells #[.func (.func 29) #[] #[], .func (.func 30) #[] #[], .func (.func 31) #[] #[], .func (.func 32) #[] #[]] 53)
        have hbA := ((Below.refl w.heap.size w).alloc (Nat.le_refl _) (.cells #[.int .i64 0, .int .i64 0] 47)).alloc (by simp) (.cells #[.func (.func 29) #[] #[], .func (.func 30) #[] #[], .func (.func 31) #[] #[], .func (.func 32) #[] #[]] 53)
        go_enter Tryd.func23, Tryd.ntmps23
        go_wp2_with fail
        refine (C1.out _).mono ?_
        rintro e w1 ⟨rfl, rfl⟩
        go_wp2_with fail
        refine (C2.out _).mono ?_
        rintro e w1 ⟨rfl, rfl⟩
        go_wp2_with fail
        refine (cntYear_any _ _ _ HT2.out x0 xy y1).mono ?_
        rintro e w1 ⟨rfl, hb1⟩
        replace kR := kR.below hb1 kR.lt
        replace hbA := hbA.trans (hb1.mono hbA.size)
        clear hb1
        go_wp2_with fail
        refine (makeRatio_any _ _ _).mono ?_
        rw [← HN.out, ← HD.out, M.out]
        rintro e w2 ⟨rfl, hb2⟩
        replace kR := kR.below hb2 kR.lt
        replace hbA := hbA.trans (hb2.mono hbA.size)
        clear hb2
        obtain ⟨⟨r0, r1⟩, f0, f1⟩ := kR.two
        go_wp2_with fail
        refine bodyPost_ret (v := .tuple #[.agg #[.int .i64 (Rt.ln (Yp.num 3 x y) (Yp.den 3)), .int .i64 (Rt.ld (Yp.num 3 x y) (Yp.den 3))], .bool true]) (by simp [results, Tryd.results23, go_sem, r0, r1]) rfl ⟨by rw [E.out], ?_⟩
        exact (hbA.setCell (by simp) _).setCell (by simp) _
end Go.Proofs.YtgncgbaoijcinaaDoor
