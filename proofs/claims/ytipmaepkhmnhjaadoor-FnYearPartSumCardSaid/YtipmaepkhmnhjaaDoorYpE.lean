/- The laws of parts of years and of interest. -/
import Derived.Test.YtipmaepkhmnhjaaDoorYpD
import Derived.Outline
namespace Go.Proofs.YtipmaepkhmnhjaaDoor
open Go.RowKit
set_option maxHeartbeats 400000 in
theorem eqRatio_same (p q : Int) (w : World) :
    Calls Tryd.prog 21 #[.agg #[.int .i64 p, .int .i64 q], .agg #[.int .i64 p, .int .i64 q]] w fun e w' => e = .returned (.bool true) ∧ Below w.heap.size w w' := by
  have e1 : (p != p) = false := by simp
  have e2 : (q != q) = false := by simp
  go_enter Tryd.func21, Tryd.ntmps21
  go_wp2_with fail
  go_ret
  exact ⟨rfl, ((Below.refl _ _).alloc (Nat.le_refl _) _).alloc (by simp) _⟩
set_option maxHeartbeats 1000000 in
theorem exYearPart (k x y : Int) (w : World) (hT : Tab w) :
    Calls Tryd.prog 7 #[.int .i64 k, .int .i64 x, .int .i64 y] w fun e w' => e = .returned (.bool true) ∧ Below w.heap.size w w' := by
  have HT := Lib.hid hT; clear hT
  obtain ⟨p, q, b, hV⟩ := ypV_form k x y
  have HV := Lib.hid hV; clear hV
  have hbb : (b != b) = false := by simp
  go_enter Tryd.func7, Tryd.ntmps7
  go_wp2_with fail
  refine (sYearPart_any _ _ _ _).mono ?_
  rw [HV.out]
  rintro e w1 ⟨rfl, hb1⟩
  have kA := Blk.new w1 #[.int .i64 p, .int .i64 q] 26
  have hbA := hb1.alloc hb1.size (.cells #[.int .i64 p, .int .i64 q] 26)
  go_wp2_with fail
  refine (yearPart_any _ _ _ _ (HT.out.below hbA HT.out.pos)).mono ?_
  rw [HV.out]
  rintro e w2 ⟨rfl, hb2⟩
  replace kA := kA.below hb2 kA.lt
  replace hbA := hbA.trans (hb2.mono hbA.size)
  have hlt : w1.heap.size < w2.heap.size := kA.lt
  obtain ⟨⟨x0, x1⟩, _, _⟩ := kA.two
  replace hbA := hbA.alloc hbA.size (.cells #[.int .i64 p, .int .i64 q] 26)
  go_wp2_with fail
  refine (eqRatio_same _ _ _).mono ?_
  rintro e w3 ⟨rfl, hb3⟩
  go_wp2_with fail
  go_ret
  exact ⟨rfl, hbA.trans (hb3.mono hbA.size)⟩
set_option maxHeartbeats 4000000 in
theorem lawYearPart (a : Option Addr) (len cap : Nat) (zs : List Int) (w : World) (h : IsRow .u8 w a len cap zs) (hT : Tab w) :
    Calls Tryd.prog 3 #[.slice a len cap] w fun e w' => e = .returned (.bool true) ∧ Below w.heap.size w w' := by
  have H := Lib.hid h; clear h
  have HT := Lib.hid hT; clear hT
  by_cases hl : 1048576 < (len : Int)
  · go_enter Tryd.func3, Tryd.ntmps3
    go_wp2_with fail
    go_ret
    exact ⟨rfl, Below.refl _ _⟩
  · have hl' := decide_eq_false hl
    clear hl
    go_enter Tryd.func3, Tryd.ntmps3
    go_wp2_with fail
    refine (drawYp_any _ _ _ _ _ H.out).mono ?_
    rintro e w1 ⟨k, x, y, rfl, ⟨k0, k1⟩, ⟨x0, x1⟩, ⟨y0, y1⟩, hbA⟩
    rcases ypV_cases k x y with ⟨hk, hs, _⟩ | hV
    · obtain ⟨p, q, hV, hZ, ⟨p0, p1⟩, hM⟩ := yp_law1 hk hs
      have HV := Lib.hid hV; clear hV
      have HZ := Lib.hid hZ; clear hZ
      clear hk hs
      rcases hM with hM | ⟨p2, q2, hM, c0, c1⟩
      · have HM := Lib.hid hM; clear hM
        go_wp2_with fail
        refine (yearPart_any _ _ _ _ (HT.out.below hbA HT.out.pos)).mono ?_
        rw [HV.out]
        rintro e w2 ⟨rfl, hb2⟩
        replace hbA := hbA.trans (hb2.mono hbA.size)
        have hs_ := hbA.size
        go_wp2_with fail
        clear hs_
        have kR := Blk.new w2 #[.int .i64 p, .int .i64 q] 26
        replace hbA := hbA.alloc hbA.size (.cells #[.int .i64 p, .int .i64 q] 26)
        refine (sYearPart_any _ _ _ _).mono ?_
        rw [HV.out]
        rintro e w3 ⟨rfl, hb3⟩
        replace kR := kR.below hb3 kR.lt
        replace hbA := hbA.trans (hb3.mono hbA.size)
        obtain ⟨⟨x_kR, y_kR⟩, _, _⟩ := kR.two
        have lt_kR := kR.lt
        have hs_ := hbA.size
        go_wp2_with fail
        clear x_kR y_kR lt_kR hs_
        replace kR := kR.alloc (.cells #[.int .i64 p, .int .i64 q] 26)
        have kW := Blk.new w3 #[.int .i64 p, .int .i64 q] 26
        replace hbA := hbA.alloc hbA.size (.cells #[.int .i64 p, .int .i64 q] 26)
        refine (yearPart_any _ _ _ _ (HT.out.below hbA HT.out.pos)).mono ?_
        rw [HZ.out]
        rintro e w4 ⟨rfl, hb4⟩
        replace kR := kR.below hb4 kR.lt
        replace kW := kW.below hb4 kW.lt
        replace hbA := hbA.trans (hb4.mono hbA.size)
        obtain ⟨⟨x_kR, y_kR⟩, _, _⟩ := kR.two
        have lt_kR := kR.lt
        obtain ⟨⟨x_kW, y_kW⟩, _, _⟩ := kW.two
        have lt_kW := kW.lt
        have hs_ := hbA.size
        go_wp2_with fail
        clear x_kR y_kR lt_kR x_kW y_kW lt_kW hs_
        replace kR := kR.alloc (.cells #[.int .i64 0, .int .i64 1] 26)
        replace kW := kW.alloc (.cells #[.int .i64 0, .int .i64 1] 26)
        have kZ := Blk.new w4 #[.int .i64 0, .int .i64 1] 26
        replace hbA := hbA.alloc hbA.size (.cells #[.int .i64 0, .int .i64 1] 26)
        refine (yearPart_any _ _ _ _ (HT.out.below hbA HT.out.pos)).mono ?_
        rw [HM.out]
        rintro e w5 ⟨rfl, hb5⟩
        replace kR := kR.below hb5 kR.lt
        replace kW := kW.below hb5 kW.lt
        replace kZ := kZ.below hb5 kZ.lt
        replace hbA := hbA.trans (hb5.mono hbA.size)
        obtain ⟨⟨x_kR, y_kR⟩, _, _⟩ := kR.two
        have lt_kR := kR.lt
        obtain ⟨⟨x_kW, y_kW⟩, _, _⟩ := kW.two
        have lt_kW := kW.lt
        obtain ⟨⟨x_kZ, y_kZ⟩, _, _⟩ := kZ.two
        have lt_kZ := kZ.lt
        have hs_ := hbA.size
        go_wp2_with fail
        go_ret
        exact ⟨ret_bool (by simp), by first | exact hbA | exact hbA.alloc hs_ _⟩
      · have HM := Lib.hid hM; clear hM
        go_wp2_with fail
        refine (yearPart_any _ _ _ _ (HT.out.below hbA HT.out.pos)).mono ?_
        rw [HV.out]
        rintro e w2 ⟨rfl, hb2⟩
        replace hbA := hbA.trans (hb2.mono hbA.size)
        have hs_ := hbA.size
        go_wp2_with fail
        clear hs_
        have kR := Blk.new w2 #[.int .i64 p, .int .i64 q] 26
        replace hbA := hbA.alloc hbA.size (.cells #[.int .i64 p, .int .i64 q] 26)
        refine (sYearPart_any _ _ _ _).mono ?_
        rw [HV.out]
        rintro e w3 ⟨rfl, hb3⟩
        replace kR := kR.below hb3 kR.lt
        replace hbA := hbA.trans (hb3.mono hbA.size)
        obtain ⟨⟨x_kR, y_kR⟩, _, _⟩ := kR.two
        have lt_kR := kR.lt
        have hs_ := hbA.size
        go_wp2_with fail
        clear x_kR y_kR lt_kR hs_
        replace kR := kR.alloc (.cells #[.int .i64 p, .int .i64 q] 26)
        have kW := Blk.new w3 #[.int .i64 p, .int .i64 q] 26
        replace hbA := hbA.alloc hbA.size (.cells #[.int .i64 p, .int .i64 q] 26)
        refine (yearPart_any _ _ _ _ (HT.out.below hbA HT.out.pos)).mono ?_
        rw [HZ.out]
        rintro e w4 ⟨rfl, hb4⟩
        replace kR := kR.below hb4 kR.lt
        replace kW := kW.below hb4 kW.lt
        replace hbA := hbA.trans (hb4.mono hbA.size)
        obtain ⟨⟨x_kR, y_kR⟩, _, _⟩ := kR.two
        have lt_kR := kR.lt
        obtain ⟨⟨x_kW, y_kW⟩, _, _⟩ := kW.two
        have lt_kW := kW.lt
        have hs_ := hbA.size
        go_wp2_with fail
        clear x_kR y_kR lt_kR x_kW y_kW lt_kW hs_
        replace kR := kR.alloc (.cells #[.int .i64 0, .int .i64 1] 26)
        replace kW := kW.alloc (.cells #[.int .i64 0, .int .i64 1] 26)
        have kZ := Blk.new w4 #[.int .i64 0, .int .i64 1] 26
        replace hbA := hbA.alloc hbA.size (.cells #[.int .i64 0, .int .i64 1] 26)
        refine (yearPart_any _ _ _ _ (HT.out.below hbA HT.out.pos)).mono ?_
        rw [HM.out]
        rintro e w5 ⟨rfl, hb5⟩
        replace kR := kR.below hb5 kR.lt
        replace kW := kW.below hb5 kW.lt
        replace kZ := kZ.below hb5 kZ.lt
        replace hbA := hbA.trans (hb5.mono hbA.size)
        obtain ⟨⟨x_kR, y_kR⟩, _, _⟩ := kR.two
        have lt_kR := kR.lt
        obtain ⟨⟨x_kW, y_kW⟩, _, _⟩ := kW.two
        have lt_kW := kW.lt
        obtain ⟨⟨x_kZ, y_kZ⟩, _, _⟩ := kZ.two
        have lt_kZ := kZ.lt
        have hs_ := hbA.size
        go_wp2_with fail
        clear x_kR y_kR lt_kR x_kW y_kW lt_kW x_kZ y_kZ lt_kZ hs_
        replace kR := kR.alloc (.cells #[.int .i64 p2, .int .i64 q2] 26)
        replace kW := kW.alloc (.cells #[.int .i64 p2, .int .i64 q2] 26)
        replace kZ := kZ.alloc (.cells #[.int .i64 p2, .int .i64 q2] 26)
        have kM := Blk.new w5 #[.int .i64 p2, .int .i64 q2] 26
        replace hbA := hbA.alloc hbA.size (.cells #[.int .i64 p2, .int .i64 q2] 26)
        refine (compare_any _ _ _ _ _).mono ?_
        rintro e w6 ⟨rfl, hb6⟩
        replace kR := kR.below hb6 kR.lt
        replace kW := kW.below hb6 kW.lt
        replace kZ := kZ.below hb6 kZ.lt
        replace kM := kM.below hb6 kM.lt
        replace hbA := hbA.trans (hb6.mono hbA.size)
        obtain ⟨⟨x_kR, y_kR⟩, _, _⟩ := kR.two
        have lt_kR := kR.lt
        obtain ⟨⟨x_kW, y_kW⟩, _, _⟩ := kW.two
        have lt_kW := kW.lt
        obtain ⟨⟨x_kZ, y_kZ⟩, _, _⟩ := kZ.two
        have lt_kZ := kZ.lt
        obtain ⟨⟨x_kM, y_kM⟩, _, _⟩ := kM.two
        have lt_kM := kM.lt
        have hs_ := hbA.size
        go_wp2_with fail
        go_ret
        exact ⟨ret_bool (by simp), by first | exact hbA | exact hbA.alloc hs_ _⟩
    · have HV := Lib.hid hV; clear hV
      go_wp2_with fail
      refine (yearPart_any _ _ _ _ (HT.out.below hbA HT.out.pos)).mono ?_
      rw [HV.out]
      rintro e w2 ⟨rfl, hb2⟩
      replace hbA := hbA.trans (hb2.mono hbA.size)
      have hs_ := hbA.size
      go_wp2_with fail
      clear hs_
      have kR := Blk.new w2 #[.int .i64 0, .int .i64 0] 26
      replace hbA := hbA.alloc hbA.size (.cells #[.int .i64 0, .int .i64 0] 26)
      refine (sYearPart_any _ _ _ _).mono ?_
      rw [HV.out]
      rintro e w3 ⟨rfl, hb3⟩
      replace kR := kR.below hb3 kR.lt
      replace hbA := hbA.trans (hb3.mono hbA.size)
      obtain ⟨⟨x_kR, y_kR⟩, _, _⟩ := kR.two
      have lt_kR := kR.lt
      have hs_ := hbA.size
      go_wp2_with fail
      go_ret
      exact ⟨ret_bool (by simp), by first | exact hbA | exact hbA.alloc hs_ _⟩
set_option maxHeartbeats 4000000 in
theorem lawYearPartYear (a : Option Addr) (len cap : Nat) (zs : List Int) (w : World) (h : IsRow .u8 w a len cap zs) (hT : Tab w) :
    Calls Tryd.prog 4 #[.slice a len cap] w fun e w' => e = .returned (.bool true) ∧ Below w.heap.size w w' := by
  have H := Lib.hid h; clear h
  have HT := Lib.hid hT; clear hT
  by_cases hl : 1048576 < (len : Int)
  · go_enter Tryd.func4, Tryd.ntmps4
    go_wp2_with fail
    go_ret
    exact ⟨rfl, Below.refl _ _⟩
  · have hl' := decide_eq_false hl
    clear hl
    go_enter Tryd.func4, Tryd.ntmps4
    go_wp2_with fail
    refine (drawYp_any _ _ _ _ _ H.out).mono ?_
    rintro e w1 ⟨k, x, y, rfl, ⟨k0, k1⟩, ⟨x0, x1⟩, ⟨y0, y1⟩, hbA⟩
    rcases ypV_cases k x y with ⟨hk, hs, hV⟩ | hV
    · obtain ⟨x2, _, x3, _⟩ := spanB_iff.1 hs
      have HX := Lib.hid (show dayB x = true from btw_t x2 (by omega))
      have hY := Cal.Y_bd x2 (by omega)
      obtain ⟨hY0, hY1⟩ := hY
      have hL := yp_law2 x2 (show x ≤ 36524 by omega)
      have HV := Lib.hid hV; clear hV hk hs
      generalize Rt.ln (Yp.num k x y) (Yp.den k) = p at HV
      generalize Rt.ld (Yp.num k x y) (Yp.den k) = q at HV
      have hD := Cal.D_bd x2 (by omega)
      have hMM := Cal.M_bd x2 (by omega)
      clear hD hMM
      rcases hL with ⟨hb, p1, q1, b1, p2, q2, b2, h3, h2⟩ | ⟨hb, h3, h2⟩
      · have H3 := Lib.hid h3; have H2 := Lib.hid h2; have HB := Lib.hid hb; clear h3 h2 hb
        have HB' := Lib.hid (show dayV (Cal.Y x + 1) 1 1 = -1 from HB.out)
        go_wp2_with fail
        refine (yearPart_any _ _ _ _ (HT.out.below hbA HT.out.pos)).mono ?_
        rw [HV.out]
        rintro e w2 ⟨rfl, hb2⟩
        replace hbA := hbA.trans (hb2.mono hbA.size)
        have hs_ := hbA.size
        go_wp2_with fail
        clear hs_
        have kR := Blk.new w2 #[.int .i64 p, .int .i64 q] 26
        replace hbA := hbA.alloc hbA.size (.cells #[.int .i64 p, .int .i64 q] 26)
        refine (sYearPart_any _ _ _ _).mono ?_
        rw [HV.out]
        rintro e w3 ⟨rfl, hb3⟩
        replace kR := kR.below hb3 kR.lt
        replace hbA := hbA.trans (hb3.mono hbA.size)
        obtain ⟨⟨x_kR, y_kR⟩, _, _⟩ := kR.two
        have lt_kR := kR.lt
        have hs_ := hbA.size
        go_wp2_with fail
        clear x_kR y_kR lt_kR hs_
        replace kR := kR.alloc (.cells #[.int .i64 p, .int .i64 q] 26)
        have kW := Blk.new w3 #[.int .i64 p, .int .i64 q] 26
        replace hbA := hbA.alloc hbA.size (.cells #[.int .i64 p, .int .i64 q] 26)
        refine (dateOf_yes _ _ (HT.out.below hbA HT.out.pos) HX.out).mono ?_
        rintro e w4 ⟨rfl, hb4⟩
        replace kR := kR.below hb4 kR.lt
        replace kW := kW.below hb4 kW.lt
        replace hbA := hbA.trans (hb4.mono hbA.size)
        obtain ⟨⟨x_kR, y_kR⟩, _, _⟩ := kR.two
        have lt_kR := kR.lt
        obtain ⟨⟨x_kW, y_kW⟩, _, _⟩ := kW.two
        have lt_kW := kW.lt
        have hs_ := hbA.size
        go_wp2_with fail
        clear x_kR y_kR lt_kR x_kW y_kW lt_kW hs_
        replace kR := kR.alloc (.cells #[.int .i64 (Cal.Y x), .int .i64 (Cal.M x), .int .i64 (Cal.D x)] 32)
        replace kW := kW.alloc (.cells #[.int .i64 (Cal.Y x), .int .i64 (Cal.M x), .int .i64 (Cal.D x)] 32)
        have kD := Blk.new w4 #[.int .i64 (Cal.Y x), .int .i64 (Cal.M x), .int .i64 (Cal.D x)] 32
        replace hbA := hbA.alloc hbA.size (.cells #[.int .i64 (Cal.Y x), .int .i64 (Cal.M x), .int .i64 (Cal.D x)] 32)
        obtain ⟨⟨d0, d1, d2⟩, _⟩ := kD.three
        have lt_kD := kD.lt
        obtain ⟨⟨x_kR, y_kR⟩, _, _⟩ := kR.two
        have lt_kR := kR.lt
        obtain ⟨⟨x_kW, y_kW⟩, _, _⟩ := kW.two
        have lt_kW := kW.lt
        have hs_ := hbA.size
        go_wp2_with fail
        clear x_kR y_kR lt_kR x_kW y_kW lt_kW hs_
        clear d0 d1 d2 lt_kD
        refine (dayOf_any _ _ _ _ (HT.out.below hbA HT.out.pos)).mono ?_
        rintro e w5 ⟨rfl, hb5⟩
        replace kR := kR.below hb5 kR.lt
        replace kW := kW.below hb5 kW.lt
        replace kD := kD.below hb5 kD.lt
        replace hbA := hbA.trans (hb5.mono hbA.size)
        obtain ⟨⟨d0, d1, d2⟩, _⟩ := kD.three
        have lt_kD := kD.lt
        obtain ⟨⟨x_kR, y_kR⟩, _, _⟩ := kR.two
        have lt_kR := kR.lt
        obtain ⟨⟨x_kW, y_kW⟩, _, _⟩ := kW.two
        have lt_kW := kW.lt
        have hs_ := hbA.size
        go_wp2_with fail
        clear x_kR y_kR lt_kR x_kW y_kW lt_kW hs_
        clear d0 d1 d2 lt_kD
        refine (dayOf_any _ _ _ _ (HT.out.below hbA HT.out.pos)).mono ?_
        rw [HB.out]
        rintro e w6 ⟨rfl, hb6⟩
        replace kR := kR.below hb6 kR.lt
        replace kW := kW.below hb6 kW.lt
        replace kD := kD.below hb6 kD.lt
        replace hbA := hbA.trans (hb6.mono hbA.size)
        obtain ⟨⟨d0, d1, d2⟩, _⟩ := kD.three
        have lt_kD := kD.lt
        obtain ⟨⟨x_kR, y_kR⟩, _, _⟩ := kR.two
        have lt_kR := kR.lt
        obtain ⟨⟨x_kW, y_kW⟩, _, _⟩ := kW.two
        have lt_kW := kW.lt
        have hs_ := hbA.size
        go_wp2_with fail
        clear x_kR y_kR lt_kR x_kW y_kW lt_kW hs_
        clear d0 d1 d2 lt_kD
        refine (yearPart_any _ _ _ _ (HT.out.below hbA HT.out.pos)).mono ?_
        rw [H3.out]
        rintro e w7 ⟨rfl, hb7⟩
        replace kR := kR.below hb7 kR.lt
        replace kW := kW.below hb7 kW.lt
        replace hbA := hbA.trans (hb7.mono hbA.size)
        replace kD := kD.below hb7 kD.lt
        obtain ⟨⟨d0, d1, d2⟩, _⟩ := kD.three
        have lt_kD := kD.lt
        obtain ⟨⟨x_kR, y_kR⟩, _, _⟩ := kR.two
        have lt_kR := kR.lt
        obtain ⟨⟨x_kW, y_kW⟩, _, _⟩ := kW.two
        have lt_kW := kW.lt
        have hs_ := hbA.size
        go_wp2_with fail
        clear x_kR y_kR lt_kR x_kW y_kW lt_kW hs_
        clear d0 d1 d2 lt_kD
        replace kD := kD.alloc (.cells #[.int .i64 p1, .int .i64 q1] 26)
        replace kR := kR.alloc (.cells #[.int .i64 p1, .int .i64 q1] 26)
        replace kW := kW.alloc (.cells #[.int .i64 p1, .int .i64 q1] 26)
        have kX := Blk.new w7 #[.int .i64 p1, .int .i64 q1] 26
        replace hbA := hbA.alloc hbA.size (.cells #[.int .i64 p1, .int .i64 q1] 26)
        refine (yearPart_any _ _ _ _ (HT.out.below hbA HT.out.pos)).mono ?_
        rw [H2.out]
        rintro e w8 ⟨rfl, hb8⟩
        replace kR := kR.below hb8 kR.lt
        replace kW := kW.below hb8 kW.lt
        replace kX := kX.below hb8 kX.lt
        replace hbA := hbA.trans (hb8.mono hbA.size)
        replace kD := kD.below hb8 kD.lt
        obtain ⟨⟨d0, d1, d2⟩, _⟩ := kD.three
        have lt_kD := kD.lt
        obtain ⟨⟨x_kR, y_kR⟩, _, _⟩ := kR.two
        have lt_kR := kR.lt
        obtain ⟨⟨x_kW, y_kW⟩, _, _⟩ := kW.two
        have lt_kW := kW.lt
        obtain ⟨⟨x_kX, y_kX⟩, _, _⟩ := kX.two
        have lt_kX := kX.lt
        have hs_ := hbA.size
        go_wp2_with fail
        go_ret
        exact ⟨ret_bool (by simp), by first | exact hbA | exact hbA.alloc hs_ _⟩
      · have H3 := Lib.hid h3; have H2 := Lib.hid h2; clear h3 h2
        go_wp2_with fail
        refine (yearPart_any _ _ _ _ (HT.out.below hbA HT.out.pos)).mono ?_
        rw [HV.out]
        rintro e w2 ⟨rfl, hb2⟩
        replace hbA := hbA.trans (hb2.mono hbA.size)
        have hs_ := hbA.size
        go_wp2_with fail
        clear hs_
        have kR := Blk.new w2 #[.int .i64 p, .int .i64 q] 26
        replace hbA := hbA.alloc hbA.size (.cells #[.int .i64 p, .int .i64 q] 26)
        refine (sYearPart_any _ _ _ _).mono ?_
        rw [HV.out]
        rintro e w3 ⟨rfl, hb3⟩
        replace kR := kR.below hb3 kR.lt
        replace hbA := hbA.trans (hb3.mono hbA.size)
        obtain ⟨⟨x_kR, y_kR⟩, _, _⟩ := kR.two
        have lt_kR := kR.lt
        have hs_ := hbA.size
        go_wp2_with fail
        clear x_kR y_kR lt_kR hs_
        replace kR := kR.alloc (.cells #[.int .i64 p, .int .i64 q] 26)
        have kW := Blk.new w3 #[.int .i64 p, .int .i64 q] 26
        replace hbA := hbA.alloc hbA.size (.cells #[.int .i64 p, .int .i64 q] 26)
        refine (dateOf_yes _ _ (HT.out.below hbA HT.out.pos) HX.out).mono ?_
        rintro e w4 ⟨rfl, hb4⟩
        replace kR := kR.below hb4 kR.lt
        replace kW := kW.below hb4 kW.lt
        replace hbA := hbA.trans (hb4.mono hbA.size)
        obtain ⟨⟨x_kR, y_kR⟩, _, _⟩ := kR.two
        have lt_kR := kR.lt
        obtain ⟨⟨x_kW, y_kW⟩, _, _⟩ := kW.two
        have lt_kW := kW.lt
        have hs_ := hbA.size
        go_wp2_with fail
        clear x_kR y_kR lt_kR x_kW y_kW lt_kW hs_
        replace kR := kR.alloc (.cells #[.int .i64 (Cal.Y x), .int .i64 (Cal.M x), .int .i64 (Cal.D x)] 32)
        replace kW := kW.alloc (.cells #[.int .i64 (Cal.Y x), .int .i64 (Cal.M x), .int .i64 (Cal.D x)] 32)
        have kD := Blk.new w4 #[.int .i64 (Cal.Y x), .int .i64 (Cal.M x), .int .i64 (Cal.D x)] 32
        replace hbA := hbA.alloc hbA.size (.cells #[.int .i64 (Cal.Y x), .int .i64 (Cal.M x), .int .i64 (Cal.D x)] 32)
        obtain ⟨⟨d0, d1, d2⟩, _⟩ := kD.three
        have lt_kD := kD.lt
        obtain ⟨⟨x_kR, y_kR⟩, _, _⟩ := kR.two
        have lt_kR := kR.lt
        obtain ⟨⟨x_kW, y_kW⟩, _, _⟩ := kW.two
        have lt_kW := kW.lt
        have hs_ := hbA.size
        go_wp2_with fail
        clear x_kR y_kR lt_kR x_kW y_kW lt_kW hs_
        clear d0 d1 d2 lt_kD
        refine (dayOf_any _ _ _ _ (HT.out.below hbA HT.out.pos)).mono ?_
        rintro e w5 ⟨rfl, hb5⟩
        replace kR := kR.below hb5 kR.lt
        replace kW := kW.below hb5 kW.lt
        replace kD := kD.below hb5 kD.lt
        replace hbA := hbA.trans (hb5.mono hbA.size)
        obtain ⟨⟨d0, d1, d2⟩, _⟩ := kD.three
        have lt_kD := kD.lt
        obtain ⟨⟨x_kR, y_kR⟩, _, _⟩ := kR.two
        have lt_kR := kR.lt
        obtain ⟨⟨x_kW, y_kW⟩, _, _⟩ := kW.two
        have lt_kW := kW.lt
        have hs_ := hbA.size
        go_wp2_with fail
        clear x_kR y_kR lt_kR x_kW y_kW lt_kW hs_
        clear d0 d1 d2 lt_kD
        refine (dayOf_any _ _ _ _ (HT.out.below hbA HT.out.pos)).mono ?_
        rintro e w6 ⟨rfl, hb6⟩
        replace kR := kR.below hb6 kR.lt
        replace kW := kW.below hb6 kW.lt
        replace kD := kD.below hb6 kD.lt
        replace hbA := hbA.trans (hb6.mono hbA.size)
        obtain ⟨⟨d0, d1, d2⟩, _⟩ := kD.three
        have lt_kD := kD.lt
        obtain ⟨⟨x_kR, y_kR⟩, _, _⟩ := kR.two
        have lt_kR := kR.lt
        obtain ⟨⟨x_kW, y_kW⟩, _, _⟩ := kW.two
        have lt_kW := kW.lt
        have hs_ := hbA.size
        go_wp2_with fail
        clear x_kR y_kR lt_kR x_kW y_kW lt_kW hs_
        clear d0 d1 d2 lt_kD
        refine (yearPart_any _ _ _ _ (HT.out.below hbA HT.out.pos)).mono ?_
        rw [H3.out]
        rintro e w7 ⟨rfl, hb7⟩
        replace kR := kR.below hb7 kR.lt
        replace kW := kW.below hb7 kW.lt
        replace hbA := hbA.trans (hb7.mono hbA.size)
        replace kD := kD.below hb7 kD.lt
        obtain ⟨⟨d0, d1, d2⟩, _⟩ := kD.three
        have lt_kD := kD.lt
        obtain ⟨⟨x_kR, y_kR⟩, _, _⟩ := kR.two
        have lt_kR := kR.lt
        obtain ⟨⟨x_kW, y_kW⟩, _, _⟩ := kW.two
        have lt_kW := kW.lt
        have hs_ := hbA.size
        go_wp2_with fail
        clear x_kR y_kR lt_kR x_kW y_kW lt_kW hs_
        clear d0 d1 d2 lt_kD
        replace kD := kD.alloc (.cells #[.int .i64 1, .int .i64 1] 26)
        replace kR := kR.alloc (.cells #[.int .i64 1, .int .i64 1] 26)
        replace kW := kW.alloc (.cells #[.int .i64 1, .int .i64 1] 26)
        have kX := Blk.new w7 #[.int .i64 1, .int .i64 1] 26
        replace hbA := hbA.alloc hbA.size (.cells #[.int .i64 1, .int .i64 1] 26)
        refine (yearPart_any _ _ _ _ (HT.out.below hbA HT.out.pos)).mono ?_
        rw [H2.out]
        rintro e w8 ⟨rfl, hb8⟩
        replace kR := kR.below hb8 kR.lt
        replace kW := kW.below hb8 kW.lt
        replace kX := kX.below hb8 kX.lt
        replace hbA := hbA.trans (hb8.mono hbA.size)
        replace kD := kD.below hb8 kD.lt
        obtain ⟨⟨d0, d1, d2⟩, _⟩ := kD.three
        have lt_kD := kD.lt
        obtain ⟨⟨x_kR, y_kR⟩, _, _⟩ := kR.two
        have lt_kR := kR.lt
        obtain ⟨⟨x_kW, y_kW⟩, _, _⟩ := kW.two
        have lt_kW := kW.lt
        obtain ⟨⟨x_kX, y_kX⟩, _, _⟩ := kX.two
        have lt_kX := kX.lt
        have hs_ := hbA.size
        go_wp2_with fail
        go_ret
        exact ⟨ret_bool (by simp), by first | exact hbA | exact hbA.alloc hs_ _⟩
    · have HV := Lib.hid hV; clear hV
      go_wp2_with fail
      refine (yearPart_any _ _ _ _ (HT.out.below hbA HT.out.pos)).mono ?_
      rw [HV.out]
      rintro e w2 ⟨rfl, hb2⟩
      replace hbA := hbA.trans (hb2.mono hbA.size)
      have hs_ := hbA.size
      go_wp2_with fail
      clear hs_
      have kR := Blk.new w2 #[.int .i64 0, .int .i64 0] 26
      replace hbA := hbA.alloc hbA.size (.cells #[.int .i64 0, .int .i64 0] 26)
      refine (sYearPart_any _ _ _ _).mono ?_
      rw [HV.out]
      rintro e w3 ⟨rfl, hb3⟩
      replace kR := kR.below hb3 kR.lt
      replace hbA := hbA.trans (hb3.mono hbA.size)
      obtain ⟨⟨x_kR, y_kR⟩, _, _⟩ := kR.two
      have lt_kR := kR.lt
      have hs_ := hbA.size
      go_wp2_with fail
      go_ret
      exact ⟨ret_bool (by simp), by first | exact hbA | exact hbA.alloc hs_ _⟩
set_option maxHeartbeats 4000000 in
theorem lawYearPartSum (a : Option Addr) (len cap : Nat) (zs : List Int) (w : World) (h : IsRow .u8 w a len cap zs) (hT : Tab w) :
    Calls Tryd.prog 5 #[.slice a len cap] w fun e w' => e = .returned (.bool true) ∧ Below w.heap.size w w' := by
  have H := Lib.hid h; clear h
  have HT := Lib.hid hT; clear hT
  by_cases hl : 1048576 < (len : Int)
  · go_enter Tryd.func5, Tryd.ntmps5
    go_wp2_with fail
    go_ret
    exact ⟨rfl, Below.refl _ _⟩
  · have hl' := decide_eq_false hl
    clear hl
    go_enter Tryd.func5, Tryd.ntmps5
    go_wp2_with fail
    refine (drawYp_any _ _ _ _ _ H.out).mono ?_
    rintro e w1 ⟨k, x, y, rfl, ⟨k0, k1⟩, ⟨x0, x1⟩, ⟨y0, y1⟩, hbA⟩
    rcases ypV_cases k x y with ⟨hk, hs, hV0⟩ | hV
    · obtain ⟨x2, x4, x3, _⟩ := spanB_iff.1 hs
      by_cases h2 : k = 2
      · subst h2
        have HV := Lib.hid hV0
        clear hk hs hV0
        generalize Rt.ln (Yp.num 2 x y) (Yp.den 2) = p at HV
        generalize Rt.ld (Yp.num 2 x y) (Yp.den 2) = q at HV
        go_wp2_with fail
        refine (yearPart_any _ _ _ _ (HT.out.below hbA HT.out.pos)).mono ?_
        rw [HV.out]
        rintro e w2 ⟨rfl, hb2⟩
        replace hbA := hbA.trans (hb2.mono hbA.size)
        have hs_ := hbA.size
        go_wp2_with fail
        clear hs_
        have kR := Blk.new w2 #[.int .i64 p, .int .i64 q] 26
        replace hbA := hbA.alloc hbA.size (.cells #[.int .i64 p, .int .i64 q] 26)
        refine (sYearPart_any _ _ _ _).mono ?_
        rw [HV.out]
        rintro e w3 ⟨rfl, hb3⟩
        replace kR := kR.below hb3 kR.lt
        replace hbA := hbA.trans (hb3.mono hbA.size)
        obtain ⟨⟨x_kR, y_kR⟩, _, _⟩ := kR.two
        have lt_kR := kR.lt
        have hs_ := hbA.size
        go_wp2_with fail
        go_ret
        exact ⟨ret_bool (by simp), by first | exact hbA | exact hbA.alloc hs_ _⟩
      · obtain ⟨a1, b1, c1, d1, p, q, hV, h1, h3, h4⟩ := yp_law3 hk hs h2
        have e2 : (k == 2) = false := by simpa using h2
        have HV := Lib.hid hV
        have H1 := Lib.hid h1
        have H3 := Lib.hid h3
        have H4 := Lib.hid h4
        clear hV h1 h3 h4 hk hs hV0 h2
        go_wp2_with fail
        refine (yearPart_any _ _ _ _ (HT.out.below hbA HT.out.pos)).mono ?_
        rw [HV.out]
        rintro e w2 ⟨rfl, hb2⟩
        replace hbA := hbA.trans (hb2.mono hbA.size)
        have hs_ := hbA.size
        go_wp2_with fail
        clear hs_
        have kR := Blk.new w2 #[.int .i64 p, .int .i64 q] 26
        replace hbA := hbA.alloc hbA.size (.cells #[.int .i64 p, .int .i64 q] 26)
        refine (sYearPart_any _ _ _ _).mono ?_
        rw [HV.out]
        rintro e w3 ⟨rfl, hb3⟩
        replace kR := kR.below hb3 kR.lt
        replace hbA := hbA.trans (hb3.mono hbA.size)
        obtain ⟨⟨x_kR, y_kR⟩, _, _⟩ := kR.two
        have lt_kR := kR.lt
        have hs_ := hbA.size
        go_wp2_with fail
        clear x_kR y_kR lt_kR hs_
        replace kR := kR.alloc (.cells #[.int .i64 p, .int .i64 q] 26)
        have kW := Blk.new w3 #[.int .i64 p, .int .i64 q] 26
        replace hbA := hbA.alloc hbA.size (.cells #[.int .i64 p, .int .i64 q] 26)
        refine (yearPart_any _ _ _ _ (HT.out.below hbA HT.out.pos)).mono ?_
        rw [H1.out]
        rintro e w4 ⟨rfl, hb4⟩
        replace kR := kR.below hb4 kR.lt
        replace kW := kW.below hb4 kW.lt
        replace hbA := hbA.trans (hb4.mono hbA.size)
        obtain ⟨⟨x_kR, y_kR⟩, _, _⟩ := kR.two
        have lt_kR := kR.lt
        obtain ⟨⟨x_kW, y_kW⟩, _, _⟩ := kW.two
        have lt_kW := kW.lt
        have hs_ := hbA.size
        go_wp2_with fail
        clear x_kR y_kR lt_kR x_kW y_kW lt_kW hs_
        replace kR := kR.alloc (.cells #[.int .i64 a1, .int .i64 b1] 26)
        replace kW := kW.alloc (.cells #[.int .i64 a1, .int .i64 b1] 26)
        have kX := Blk.new w4 #[.int .i64 a1, .int .i64 b1] 26
        replace hbA := hbA.alloc hbA.size (.cells #[.int .i64 a1, .int .i64 b1] 26)
        refine (yearPart_any _ _ _ _ (HT.out.below hbA HT.out.pos)).mono ?_
        rw [H3.out]
        rintro e w5 ⟨rfl, hb5⟩
        replace kR := kR.below hb5 kR.lt
        replace kW := kW.below hb5 kW.lt
        replace kX := kX.below hb5 kX.lt
        replace hbA := hbA.trans (hb5.mono hbA.size)
        obtain ⟨⟨x_kR, y_kR⟩, _, _⟩ := kR.two
        have lt_kR := kR.lt
        obtain ⟨⟨x_kW, y_kW⟩, _, _⟩ := kW.two
        have lt_kW := kW.lt
        obtain ⟨⟨x_kX, y_kX⟩, _, _⟩ := kX.two
        have lt_kX := kX.lt
        have hs_ := hbA.size
        go_wp2_with fail
        clear x_kR y_kR lt_kR x_kW y_kW lt_kW x_kX y_kX lt_kX hs_
        replace kR := kR.alloc (.cells #[.int .i64 c1, .int .i64 d1] 26)
        replace kW := kW.alloc (.cells #[.int .i64 c1, .int .i64 d1] 26)
        replace kX := kX.alloc (.cells #[.int .i64 c1, .int .i64 d1] 26)
        have kY := Blk.new w5 #[.int .i64 c1, .int .i64 d1] 26
        replace hbA := hbA.alloc hbA.size (.cells #[.int .i64 c1, .int .i64 d1] 26)
        refine (addR_any _ _ _ _ _).mono ?_
        rw [H4.out]
        rintro e w6 ⟨rfl, hb6⟩
        replace kR := kR.below hb6 kR.lt
        replace kW := kW.below hb6 kW.lt
        replace kX := kX.below hb6 kX.lt
        replace kY := kY.below hb6 kY.lt
        replace hbA := hbA.trans (hb6.mono hbA.size)
        obtain ⟨⟨x_kR, y_kR⟩, _, _⟩ := kR.two
        have lt_kR := kR.lt
        obtain ⟨⟨x_kW, y_kW⟩, _, _⟩ := kW.two
        have lt_kW := kW.lt
        obtain ⟨⟨x_kX, y_kX⟩, _, _⟩ := kX.two
        have lt_kX := kX.lt
        obtain ⟨⟨x_kY, y_kY⟩, _, _⟩ := kY.two
        have lt_kY := kY.lt
        have hs_ := hbA.size
        go_wp2_with fail
        go_ret
        exact ⟨ret_bool (by simp), by first | exact hbA | exact hbA.alloc hs_ _⟩
    · have HV := Lib.hid hV; clear hV
      go_wp2_with fail
      refine (yearPart_any _ _ _ _ (HT.out.below hbA HT.out.pos)).mono ?_
      rw [HV.out]
      rintro e w2 ⟨rfl, hb2⟩
      replace hbA := hbA.trans (hb2.mono hbA.size)
      have hs_ := hbA.size
      go_wp2_with fail
      clear hs_
      have kR := Blk.new w2 #[.int .i64 0, .int .i64 0] 26
      replace hbA := hbA.alloc hbA.size (.cells #[.int .i64 0, .int .i64 0] 26)
      refine (sYearPart_any _ _ _ _).mono ?_
      rw [HV.out]
      rintro e w3 ⟨rfl, hb3⟩
      replace kR := kR.below hb3 kR.lt
      replace hbA := hbA.trans (hb3.mono hbA.size)
      obtain ⟨⟨x_kR, y_kR⟩, _, _⟩ := kR.two
      have lt_kR := kR.lt
      have hs_ := hbA.size
      go_wp2_with fail
      go_ret
      exact ⟨ret_bool (by simp), by first | exact hbA | exact hbA.alloc hs_ _⟩
set_option maxHeartbeats 4000000 in
theorem lawYearPartMoney (a : Option Addr) (len cap : Nat) (zs : List Int) (w : World) (h : IsRow .u8 w a len cap zs) (hT : Tab w) :
    Calls Tryd.prog 6 #[.slice a len cap] w fun e w' => e = .returned (.bool true) ∧ Below w.heap.size w w' := by
  have H := Lib.hid h; clear h
  have HT := Lib.hid hT; clear hT
  by_cases hl : 1048576 < (len : Int)
  · go_enter Tryd.func6, Tryd.ntmps6
    go_wp2_with fail
    go_ret
    exact ⟨rfl, Below.refl _ _⟩
  · have hl' := decide_eq_false hl
    clear hl
    go_enter Tryd.func6, Tryd.ntmps6
    go_wp2_with fail
    refine (drawYp_any _ _ _ _ _ H.out).mono ?_
    rintro e w1 ⟨k, x, y, rfl, ⟨k0, k1⟩, ⟨x0, x1⟩, ⟨y0, y1⟩, hbA⟩
    rcases ypV_cases k x y with ⟨hk, hs, hV⟩ | hV
    · obtain ⟨a1, b1, c1, d1, e1, f1, h1, h2, h3, ⟨m0, m1⟩, m2, m3⟩ := yp_law4 hs
      have HV := Lib.hid hV
      have H1 := Lib.hid h1
      have H2 := Lib.hid h2
      have H3 := Lib.hid h3
      clear hV h1 h2 h3 hk hs
      generalize Rt.ln (Yp.num k x y) (Yp.den k) = p at HV
      generalize Rt.ld (Yp.num k x y) (Yp.den k) = q at HV
      go_wp2_with fail
      refine (yearPart_any _ _ _ _ (HT.out.below hbA HT.out.pos)).mono ?_
      rw [HV.out]
      rintro e w2 ⟨rfl, hb2⟩
      replace hbA := hbA.trans (hb2.mono hbA.size)
      have hs_ := hbA.size
      go_wp2_with fail
      clear hs_
      have kR := Blk.new w2 #[.int .i64 p, .int .i64 q] 26
      replace hbA := hbA.alloc hbA.size (.cells #[.int .i64 p, .int .i64 q] 26)
      refine (sYearPart_any _ _ _ _).mono ?_
      rw [HV.out]
      rintro e w3 ⟨rfl, hb3⟩
      replace kR := kR.below hb3 kR.lt
      replace hbA := hbA.trans (hb3.mono hbA.size)
      obtain ⟨⟨x_kR, y_kR⟩, _, _⟩ := kR.two
      have lt_kR := kR.lt
      have hs_ := hbA.size
      go_wp2_with fail
      clear x_kR y_kR lt_kR hs_
      replace kR := kR.alloc (.cells #[.int .i64 p, .int .i64 q] 26)
      have kW := Blk.new w3 #[.int .i64 p, .int .i64 q] 26
      replace hbA := hbA.alloc hbA.size (.cells #[.int .i64 p, .int .i64 q] 26)
      refine (yearPart_any _ _ _ _ (HT.out.below hbA HT.out.pos)).mono ?_
      rw [H1.out]
      rintro e w4 ⟨rfl, hb4⟩
      replace kR := kR.below hb4 kR.lt
      replace kW := kW.below hb4 kW.lt
      replace hbA := hbA.trans (hb4.mono hbA.size)
      obtain ⟨⟨x_kR, y_kR⟩, _, _⟩ := kR.two
      have lt_kR := kR.lt
      obtain ⟨⟨x_kW, y_kW⟩, _, _⟩ := kW.two
      have lt_kW := kW.lt
      have hs_ := hbA.size
      go_wp2_with fail
      clear x_kR y_kR lt_kR x_kW y_kW lt_kW hs_
      replace kR := kR.alloc (.cells #[.int .i64 a1, .int .i64 b1] 26)
      replace kW := kW.alloc (.cells #[.int .i64 a1, .int .i64 b1] 26)
      have kX := Blk.new w4 #[.int .i64 a1, .int .i64 b1] 26
      replace hbA := hbA.alloc hbA.size (.cells #[.int .i64 a1, .int .i64 b1] 26)
      refine (yearPart_any _ _ _ _ (HT.out.below hbA HT.out.pos)).mono ?_
      rw [H2.out]
      rintro e w5 ⟨rfl, hb5⟩
      replace kR := kR.below hb5 kR.lt
      replace kW := kW.below hb5 kW.lt
      replace kX := kX.below hb5 kX.lt
      replace hbA := hbA.trans (hb5.mono hbA.size)
      obtain ⟨⟨x_kR, y_kR⟩, _, _⟩ := kR.two
      have lt_kR := kR.lt
      obtain ⟨⟨x_kW, y_kW⟩, _, _⟩ := kW.two
      have lt_kW := kW.lt
      obtain ⟨⟨x_kX, y_kX⟩, _, _⟩ := kX.two
      have lt_kX := kX.lt
      have hs_ := hbA.size
      go_wp2_with fail
      clear x_kR y_kR lt_kR x_kW y_kW lt_kW x_kX y_kX lt_kX hs_
      replace kR := kR.alloc (.cells #[.int .i64 c1, .int .i64 d1] 26)
      replace kW := kW.alloc (.cells #[.int .i64 c1, .int .i64 d1] 26)
      replace kX := kX.alloc (.cells #[.int .i64 c1, .int .i64 d1] 26)
      have kY := Blk.new w5 #[.int .i64 c1, .int .i64 d1] 26
      replace hbA := hbA.alloc hbA.size (.cells #[.int .i64 c1, .int .i64 d1] 26)
      refine (yearPart_any _ _ _ _ (HT.out.below hbA HT.out.pos)).mono ?_
      rw [H3.out]
      rintro e w6 ⟨rfl, hb6⟩
      replace kR := kR.below hb6 kR.lt
      replace kW := kW.below hb6 kW.lt
      replace kX := kX.below hb6 kX.lt
      replace kY := kY.below hb6 kY.lt
      replace hbA := hbA.trans (hb6.mono hbA.size)
      obtain ⟨⟨x_kR, y_kR⟩, _, _⟩ := kR.two
      have lt_kR := kR.lt
      obtain ⟨⟨x_kW, y_kW⟩, _, _⟩ := kW.two
      have lt_kW := kW.lt
      obtain ⟨⟨x_kX, y_kX⟩, _, _⟩ := kX.two
      have lt_kX := kX.lt
      obtain ⟨⟨x_kY, y_kY⟩, _, _⟩ := kY.two
      have lt_kY := kY.lt
      have hs_ := hbA.size
      go_wp2_with fail
      clear x_kR y_kR lt_kR x_kW y_kW lt_kW x_kX y_kX lt_kX x_kY y_kY lt_kY hs_
      replace kR := kR.alloc (.cells #[.int .i64 e1, .int .i64 f1] 26)
      replace kW := kW.alloc (.cells #[.int .i64 e1, .int .i64 f1] 26)
      replace kX := kX.alloc (.cells #[.int .i64 e1, .int .i64 f1] 26)
      replace kY := kY.alloc (.cells #[.int .i64 e1, .int .i64 f1] 26)
      have kZ := Blk.new w6 #[.int .i64 e1, .int .i64 f1] 26
      replace hbA := hbA.alloc hbA.size (.cells #[.int .i64 e1, .int .i64 f1] 26)
      refine (compare_any _ _ _ _ _).mono ?_
      rintro e w7 ⟨rfl, hb7⟩
      replace kR := kR.below hb7 kR.lt
      replace kW := kW.below hb7 kW.lt
      replace kX := kX.below hb7 kX.lt
      replace kY := kY.below hb7 kY.lt
      replace kZ := kZ.below hb7 kZ.lt
      replace hbA := hbA.trans (hb7.mono hbA.size)
      obtain ⟨⟨x_kR, y_kR⟩, _, _⟩ := kR.two
      have lt_kR := kR.lt
      obtain ⟨⟨x_kW, y_kW⟩, _, _⟩ := kW.two
      have lt_kW := kW.lt
      obtain ⟨⟨x_kX, y_kX⟩, _, _⟩ := kX.two
      have lt_kX := kX.lt
      obtain ⟨⟨x_kY, y_kY⟩, _, _⟩ := kY.two
      have lt_kY := kY.lt
      obtain ⟨⟨x_kZ, y_kZ⟩, _, _⟩ := kZ.two
      have lt_kZ := kZ.lt
      have hs_ := hbA.size
      go_wp2_with fail
      clear x_kR y_kR lt_kR x_kW y_kW lt_kW x_kX y_kX lt_kX x_kY y_kY lt_kY x_kZ y_kZ lt_kZ hs_
      refine (compare_any _ _ _ _ _).mono ?_
      rintro e w8 ⟨rfl, hb8⟩
      replace kR := kR.below hb8 kR.lt
      replace kW := kW.below hb8 kW.lt
      replace kX := kX.below hb8 kX.lt
      replace kY := kY.below hb8 kY.lt
      replace kZ := kZ.below hb8 kZ.lt
      replace hbA := hbA.trans (hb8.mono hbA.size)
      obtain ⟨⟨x_kR, y_kR⟩, _, _⟩ := kR.two
      have lt_kR := kR.lt
      obtain ⟨⟨x_kW, y_kW⟩, _, _⟩ := kW.two
      have lt_kW := kW.lt
      obtain ⟨⟨x_kX, y_kX⟩, _, _⟩ := kX.two
      have lt_kX := kX.lt
      obtain ⟨⟨x_kY, y_kY⟩, _, _⟩ := kY.two
      have lt_kY := kY.lt
      obtain ⟨⟨x_kZ, y_kZ⟩, _, _⟩ := kZ.two
      have lt_kZ := kZ.lt
      have hs_ := hbA.size
      go_wp2_with fail
      go_ret
      exact ⟨ret_bool (by simp), by first | exact hbA | exact hbA.alloc hs_ _⟩
    · have HV := Lib.hid hV; clear hV
      go_wp2_with fail
      refine (yearPart_any _ _ _ _ (HT.out.below hbA HT.out.pos)).mono ?_
      rw [HV.out]
      rintro e w2 ⟨rfl, hb2⟩
      replace hbA := hbA.trans (hb2.mono hbA.size)
      have hs_ := hbA.size
      go_wp2_with fail
      clear hs_
      have kR := Blk.new w2 #[.int .i64 0, .int .i64 0] 26
      replace hbA := hbA.alloc hbA.size (.cells #[.int .i64 0, .int .i64 0] 26)
      refine (sYearPart_any _ _ _ _).mono ?_
      rw [HV.out]
      rintro e w3 ⟨rfl, hb3⟩
      replace kR := kR.below hb3 kR.lt
      replace hbA := hbA.trans (hb3.mono hbA.size)
      obtain ⟨⟨x_kR, y_kR⟩, _, _⟩ := kR.two
      have lt_kR := kR.lt
      have hs_ := hbA.size
      go_wp2_with fail
      go_ret
      exact ⟨ret_bool (by simp), by first | exact hbA | exact hbA.alloc hs_ _⟩
end Go.Proofs.YtipmaepkhmnhjaaDoor
