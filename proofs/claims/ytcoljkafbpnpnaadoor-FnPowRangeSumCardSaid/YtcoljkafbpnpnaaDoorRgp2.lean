/- The walks of the laws of ranges, part 6. -/
import Derived.Test.YtcoljkafbpnpnaaDoorRgl
import Derived.Outline
namespace Go.Proofs.YtcoljkafbpnpnaaDoor
open Go.RowKit
set_option maxHeartbeats 4000000 in
theorem lawPowSum (a : Option Addr) (len cap : Nat) (zs : List Int) (w : World) (h : IsRow .u8 w a len cap zs) (ea : Addr) (hS : Sen ea w) :
    Calls Tryd.prog 10 #[.slice a len cap] w fun e w' => e = .returned (.bool true) ∧ Below w.heap.size w w' := by
  have H := Lib.hid h; clear h
  by_cases hl : 1048576 < (len : Int)
  · go_enter Tryd.func10, Tryd.ntmps10
    go_wp2_with fail
    go_ret
    exact ⟨rfl, Below.refl _ _⟩
  · have hl' := decide_eq_false hl
    clear hl
    go_enter Tryd.func10, Tryd.ntmps10
    go_wp2_with fail
    refine (drawPowR_any _ _ _ _ _ H.out).mono ?_
    rintro e w1 ⟨a, b, n, rfl, ⟨a0, a1, b0, b1⟩, ⟨n0, n1⟩, hbA⟩
    replace hS := hS.below hbA hS.pos
    rcases good_cases (Rg.good_pow a b n) with ⟨p, q, hV⟩ | hV
    · have HV := Lib.hid (tv_yes hV)
      by_cases h2 : n < 2
      · have d2 := decide_eq_true h2
        go_wp2_with fail
        have kA := Blk.new (w1) #[.int .i64 a, .int .i64 b] 24
        replace hbA := hbA.alloc hbA.size (.cells #[.int .i64 a, .int .i64 b] 24)
        replace hS := hS.alloc (.cells #[.int .i64 a, .int .i64 b] 24)
        refine (powRange_any ea _ _ _ _ hS).mono ?_
        rw [HV.out]
        rintro e w2 ⟨rfl, hb2⟩
        replace kA := kA.below hb2 kA.lt
        replace hS := hS.below hb2 hS.pos
        replace hbA := hbA.trans (hb2.mono hbA.size)
        obtain ⟨⟨x_kA, y_kA⟩, _, _⟩ := kA.two
        have lt_kA := kA.lt
        have hs_ := hbA.size
        go_wp2_with fail
        clear x_kA y_kA lt_kA hs_
        replace kA := kA.alloc (.cells #[.int .i64 p, .int .i64 q] 24)
        have kR := Blk.new (w2) #[.int .i64 p, .int .i64 q] 24
        replace hbA := hbA.alloc hbA.size (.cells #[.int .i64 p, .int .i64 q] 24)
        replace hS := hS.alloc (.cells #[.int .i64 p, .int .i64 q] 24)
        refine (sPowRange_any _ _ _ _).mono ?_
        rw [HV.out]
        rintro e w3 ⟨rfl, hb3⟩
        replace kA := kA.below hb3 kA.lt
        replace kR := kR.below hb3 kR.lt
        replace hS := hS.below hb3 hS.pos
        replace hbA := hbA.trans (hb3.mono hbA.size)
        obtain ⟨⟨x_kA, y_kA⟩, _, _⟩ := kA.two
        have lt_kA := kA.lt
        obtain ⟨⟨x_kR, y_kR⟩, _, _⟩ := kR.two
        have lt_kR := kR.lt
        have hs_ := hbA.size
        go_wp2_with fail
        go_ret
        exact ⟨ret_bool (by simp), by first | exact hbA | exact hbA.alloc hs_ _⟩
      · have d2 := decide_eq_false h2
        have hx := good_cases (Rg.good_pow a b (n - 2))
        have hy := good_cases (Rg.good_pow a b 2)
        rcases hx with ⟨x1, x2, hx⟩ | hx
        · have HX := Lib.hid (tv_yes hx)
          rcases hy with ⟨y1, y2, hy⟩ | hy
          · have HY := Lib.hid (tv_yes hy)
            rcases good_cases (Rg.good_mul x1 x2 y1 y2) with ⟨z1, z2, hz⟩ | hz
            · have HZ := Lib.hid (tv_yes hz)
              obtain ⟨le1, le2⟩ := Rg.pow_sum hV (by omega) hx hy hz
              clear hV hx hy hz
              go_wp2_with fail
              have kA := Blk.new (w1) #[.int .i64 a, .int .i64 b] 24
              replace hbA := hbA.alloc hbA.size (.cells #[.int .i64 a, .int .i64 b] 24)
              replace hS := hS.alloc (.cells #[.int .i64 a, .int .i64 b] 24)
              refine (powRange_any ea _ _ _ _ hS).mono ?_
              rw [HV.out]
              rintro e w2 ⟨rfl, hb2⟩
              replace kA := kA.below hb2 kA.lt
              replace hS := hS.below hb2 hS.pos
              replace hbA := hbA.trans (hb2.mono hbA.size)
              obtain ⟨⟨x_kA, y_kA⟩, _, _⟩ := kA.two
              have lt_kA := kA.lt
              have hs_ := hbA.size
              go_wp2_with fail
              clear x_kA y_kA lt_kA hs_
              replace kA := kA.alloc (.cells #[.int .i64 p, .int .i64 q] 24)
              have kR := Blk.new (w2) #[.int .i64 p, .int .i64 q] 24
              replace hbA := hbA.alloc hbA.size (.cells #[.int .i64 p, .int .i64 q] 24)
              replace hS := hS.alloc (.cells #[.int .i64 p, .int .i64 q] 24)
              refine (sPowRange_any _ _ _ _).mono ?_
              rw [HV.out]
              rintro e w3 ⟨rfl, hb3⟩
              replace kA := kA.below hb3 kA.lt
              replace kR := kR.below hb3 kR.lt
              replace hS := hS.below hb3 hS.pos
              replace hbA := hbA.trans (hb3.mono hbA.size)
              obtain ⟨⟨x_kA, y_kA⟩, _, _⟩ := kA.two
              have lt_kA := kA.lt
              obtain ⟨⟨x_kR, y_kR⟩, _, _⟩ := kR.two
              have lt_kR := kR.lt
              have hs_ := hbA.size
              go_wp2_with fail
              clear x_kA y_kA lt_kA x_kR y_kR lt_kR hs_
              replace kA := kA.alloc (.cells #[.int .i64 p, .int .i64 q] 24)
              replace kR := kR.alloc (.cells #[.int .i64 p, .int .i64 q] 24)
              have kW := Blk.new (w3) #[.int .i64 p, .int .i64 q] 24
              replace hbA := hbA.alloc hbA.size (.cells #[.int .i64 p, .int .i64 q] 24)
              replace hS := hS.alloc (.cells #[.int .i64 p, .int .i64 q] 24)
              refine (powRange_any ea a b (n - 2) _ hS).mono ?_
              rw [HX.out]
              rintro e w4 ⟨rfl, hb4⟩
              replace kA := kA.below hb4 kA.lt
              replace kR := kR.below hb4 kR.lt
              replace kW := kW.below hb4 kW.lt
              replace hS := hS.below hb4 hS.pos
              replace hbA := hbA.trans (hb4.mono hbA.size)
              obtain ⟨⟨x_kA, y_kA⟩, _, _⟩ := kA.two
              have lt_kA := kA.lt
              obtain ⟨⟨x_kR, y_kR⟩, _, _⟩ := kR.two
              have lt_kR := kR.lt
              obtain ⟨⟨x_kW, y_kW⟩, _, _⟩ := kW.two
              have lt_kW := kW.lt
              have hs_ := hbA.size
              go_wp2_with fail
              clear x_kA y_kA lt_kA x_kR y_kR lt_kR x_kW y_kW lt_kW hs_
              replace kA := kA.alloc (.cells #[.int .i64 x1, .int .i64 x2] 24)
              replace kR := kR.alloc (.cells #[.int .i64 x1, .int .i64 x2] 24)
              replace kW := kW.alloc (.cells #[.int .i64 x1, .int .i64 x2] 24)
              have kX := Blk.new (w4) #[.int .i64 x1, .int .i64 x2] 24
              replace hbA := hbA.alloc hbA.size (.cells #[.int .i64 x1, .int .i64 x2] 24)
              replace hS := hS.alloc (.cells #[.int .i64 x1, .int .i64 x2] 24)
              refine (powRange_any ea a b 2 _ hS).mono ?_
              rw [HY.out]
              rintro e w5 ⟨rfl, hb5⟩
              replace kA := kA.below hb5 kA.lt
              replace kR := kR.below hb5 kR.lt
              replace kW := kW.below hb5 kW.lt
              replace kX := kX.below hb5 kX.lt
              replace hS := hS.below hb5 hS.pos
              replace hbA := hbA.trans (hb5.mono hbA.size)
              obtain ⟨⟨x_kA, y_kA⟩, _, _⟩ := kA.two
              have lt_kA := kA.lt
              obtain ⟨⟨x_kR, y_kR⟩, _, _⟩ := kR.two
              have lt_kR := kR.lt
              obtain ⟨⟨x_kW, y_kW⟩, _, _⟩ := kW.two
              have lt_kW := kW.lt
              obtain ⟨⟨x_kX, y_kX⟩, _, _⟩ := kX.two
              have lt_kX := kX.lt
              have hs_ := hbA.size
              go_wp2_with fail
              clear x_kA y_kA lt_kA x_kR y_kR lt_kR x_kW y_kW lt_kW x_kX y_kX lt_kX hs_
              replace kA := kA.alloc (.cells #[.int .i64 y1, .int .i64 y2] 24)
              replace kR := kR.alloc (.cells #[.int .i64 y1, .int .i64 y2] 24)
              replace kW := kW.alloc (.cells #[.int .i64 y1, .int .i64 y2] 24)
              replace kX := kX.alloc (.cells #[.int .i64 y1, .int .i64 y2] 24)
              have kY := Blk.new (w5) #[.int .i64 y1, .int .i64 y2] 24
              replace hbA := hbA.alloc hbA.size (.cells #[.int .i64 y1, .int .i64 y2] 24)
              replace hS := hS.alloc (.cells #[.int .i64 y1, .int .i64 y2] 24)
              refine (mulRange_any ea x1 x2 y1 y2 _ hS).mono ?_
              rw [HZ.out]
              rintro e w6 ⟨rfl, hb6⟩
              replace kA := kA.below hb6 kA.lt
              replace kR := kR.below hb6 kR.lt
              replace kW := kW.below hb6 kW.lt
              replace kX := kX.below hb6 kX.lt
              replace kY := kY.below hb6 kY.lt
              replace hS := hS.below hb6 hS.pos
              replace hbA := hbA.trans (hb6.mono hbA.size)
              obtain ⟨⟨x_kA, y_kA⟩, _, _⟩ := kA.two
              have lt_kA := kA.lt
              obtain ⟨⟨x_kR, y_kR⟩, _, _⟩ := kR.two
              have lt_kR := kR.lt
              obtain ⟨⟨x_kW, y_kW⟩, _, _⟩ := kW.two
              have lt_kW := kW.lt
              obtain ⟨⟨x_kX, y_kX⟩, _, _⟩ := kX.two
              have lt_kX := kX.lt
              obtain ⟨⟨x_kY, y_kY⟩, _, _⟩ := kY.two
              have lt_kY := kY.lt
              have hs_ := hbA.size
              go_wp2_with fail
              go_ret
              exact ⟨ret_bool (by simp), by first | exact hbA | exact hbA.alloc hs_ _⟩
            · have HZ := Lib.hid (tv_no hz)
              clear hV hx hy hz
              go_wp2_with fail
              have kA := Blk.new (w1) #[.int .i64 a, .int .i64 b] 24
              replace hbA := hbA.alloc hbA.size (.cells #[.int .i64 a, .int .i64 b] 24)
              replace hS := hS.alloc (.cells #[.int .i64 a, .int .i64 b] 24)
              refine (powRange_any ea _ _ _ _ hS).mono ?_
              rw [HV.out]
              rintro e w2 ⟨rfl, hb2⟩
              replace kA := kA.below hb2 kA.lt
              replace hS := hS.below hb2 hS.pos
              replace hbA := hbA.trans (hb2.mono hbA.size)
              obtain ⟨⟨x_kA, y_kA⟩, _, _⟩ := kA.two
              have lt_kA := kA.lt
              have hs_ := hbA.size
              go_wp2_with fail
              clear x_kA y_kA lt_kA hs_
              replace kA := kA.alloc (.cells #[.int .i64 p, .int .i64 q] 24)
              have kR := Blk.new (w2) #[.int .i64 p, .int .i64 q] 24
              replace hbA := hbA.alloc hbA.size (.cells #[.int .i64 p, .int .i64 q] 24)
              replace hS := hS.alloc (.cells #[.int .i64 p, .int .i64 q] 24)
              refine (sPowRange_any _ _ _ _).mono ?_
              rw [HV.out]
              rintro e w3 ⟨rfl, hb3⟩
              replace kA := kA.below hb3 kA.lt
              replace kR := kR.below hb3 kR.lt
              replace hS := hS.below hb3 hS.pos
              replace hbA := hbA.trans (hb3.mono hbA.size)
              obtain ⟨⟨x_kA, y_kA⟩, _, _⟩ := kA.two
              have lt_kA := kA.lt
              obtain ⟨⟨x_kR, y_kR⟩, _, _⟩ := kR.two
              have lt_kR := kR.lt
              have hs_ := hbA.size
              go_wp2_with fail
              clear x_kA y_kA lt_kA x_kR y_kR lt_kR hs_
              replace kA := kA.alloc (.cells #[.int .i64 p, .int .i64 q] 24)
              replace kR := kR.alloc (.cells #[.int .i64 p, .int .i64 q] 24)
              have kW := Blk.new (w3) #[.int .i64 p, .int .i64 q] 24
              replace hbA := hbA.alloc hbA.size (.cells #[.int .i64 p, .int .i64 q] 24)
              replace hS := hS.alloc (.cells #[.int .i64 p, .int .i64 q] 24)
              refine (powRange_any ea a b (n - 2) _ hS).mono ?_
              rw [HX.out]
              rintro e w4 ⟨rfl, hb4⟩
              replace kA := kA.below hb4 kA.lt
              replace kR := kR.below hb4 kR.lt
              replace kW := kW.below hb4 kW.lt
              replace hS := hS.below hb4 hS.pos
              replace hbA := hbA.trans (hb4.mono hbA.size)
              obtain ⟨⟨x_kA, y_kA⟩, _, _⟩ := kA.two
              have lt_kA := kA.lt
              obtain ⟨⟨x_kR, y_kR⟩, _, _⟩ := kR.two
              have lt_kR := kR.lt
              obtain ⟨⟨x_kW, y_kW⟩, _, _⟩ := kW.two
              have lt_kW := kW.lt
              have hs_ := hbA.size
              go_wp2_with fail
              clear x_kA y_kA lt_kA x_kR y_kR lt_kR x_kW y_kW lt_kW hs_
              replace kA := kA.alloc (.cells #[.int .i64 x1, .int .i64 x2] 24)
              replace kR := kR.alloc (.cells #[.int .i64 x1, .int .i64 x2] 24)
              replace kW := kW.alloc (.cells #[.int .i64 x1, .int .i64 x2] 24)
              have kX := Blk.new (w4) #[.int .i64 x1, .int .i64 x2] 24
              replace hbA := hbA.alloc hbA.size (.cells #[.int .i64 x1, .int .i64 x2] 24)
              replace hS := hS.alloc (.cells #[.int .i64 x1, .int .i64 x2] 24)
              refine (powRange_any ea a b 2 _ hS).mono ?_
              rw [HY.out]
              rintro e w5 ⟨rfl, hb5⟩
              replace kA := kA.below hb5 kA.lt
              replace kR := kR.below hb5 kR.lt
              replace kW := kW.below hb5 kW.lt
              replace kX := kX.below hb5 kX.lt
              replace hS := hS.below hb5 hS.pos
              replace hbA := hbA.trans (hb5.mono hbA.size)
              obtain ⟨⟨x_kA, y_kA⟩, _, _⟩ := kA.two
              have lt_kA := kA.lt
              obtain ⟨⟨x_kR, y_kR⟩, _, _⟩ := kR.two
              have lt_kR := kR.lt
              obtain ⟨⟨x_kW, y_kW⟩, _, _⟩ := kW.two
              have lt_kW := kW.lt
              obtain ⟨⟨x_kX, y_kX⟩, _, _⟩ := kX.two
              have lt_kX := kX.lt
              have hs_ := hbA.size
              go_wp2_with fail
              clear x_kA y_kA lt_kA x_kR y_kR lt_kR x_kW y_kW lt_kW x_kX y_kX lt_kX hs_
              replace kA := kA.alloc (.cells #[.int .i64 y1, .int .i64 y2] 24)
              replace kR := kR.alloc (.cells #[.int .i64 y1, .int .i64 y2] 24)
              replace kW := kW.alloc (.cells #[.int .i64 y1, .int .i64 y2] 24)
              replace kX := kX.alloc (.cells #[.int .i64 y1, .int .i64 y2] 24)
              have kY := Blk.new (w5) #[.int .i64 y1, .int .i64 y2] 24
              replace hbA := hbA.alloc hbA.size (.cells #[.int .i64 y1, .int .i64 y2] 24)
              replace hS := hS.alloc (.cells #[.int .i64 y1, .int .i64 y2] 24)
              refine (mulRange_any ea x1 x2 y1 y2 _ hS).mono ?_
              rw [HZ.out]
              rintro e w6 ⟨rfl, hb6⟩
              replace kA := kA.below hb6 kA.lt
              replace kR := kR.below hb6 kR.lt
              replace kW := kW.below hb6 kW.lt
              replace kX := kX.below hb6 kX.lt
              replace kY := kY.below hb6 kY.lt
              replace hS := hS.below hb6 hS.pos
              replace hbA := hbA.trans (hb6.mono hbA.size)
              obtain ⟨⟨x_kA, y_kA⟩, _, _⟩ := kA.two
              have lt_kA := kA.lt
              obtain ⟨⟨x_kR, y_kR⟩, _, _⟩ := kR.two
              have lt_kR := kR.lt
              obtain ⟨⟨x_kW, y_kW⟩, _, _⟩ := kW.two
              have lt_kW := kW.lt
              obtain ⟨⟨x_kX, y_kX⟩, _, _⟩ := kX.two
              have lt_kX := kX.lt
              obtain ⟨⟨x_kY, y_kY⟩, _, _⟩ := kY.two
              have lt_kY := kY.lt
              have hs_ := hbA.size
              go_wp2_with fail
              go_ret
              exact ⟨ret_bool (by simp), by first | exact hbA | exact hbA.alloc hs_ _⟩
          · have HY := Lib.hid (tv_no hy)
            obtain ⟨z1, z2, tz, hz⟩ := tv_form (Rg.mul x1 x2 0 0)
            have HZ := Lib.hid hz
            clear hV hx hy hz
            go_wp2_with fail
            have kA := Blk.new (w1) #[.int .i64 a, .int .i64 b] 24
            replace hbA := hbA.alloc hbA.size (.cells #[.int .i64 a, .int .i64 b] 24)
            replace hS := hS.alloc (.cells #[.int .i64 a, .int .i64 b] 24)
            refine (powRange_any ea _ _ _ _ hS).mono ?_
            rw [HV.out]
            rintro e w2 ⟨rfl, hb2⟩
            replace kA := kA.below hb2 kA.lt
            replace hS := hS.below hb2 hS.pos
            replace hbA := hbA.trans (hb2.mono hbA.size)
            obtain ⟨⟨x_kA, y_kA⟩, _, _⟩ := kA.two
            have lt_kA := kA.lt
            have hs_ := hbA.size
            go_wp2_with fail
            clear x_kA y_kA lt_kA hs_
            replace kA := kA.alloc (.cells #[.int .i64 p, .int .i64 q] 24)
            have kR := Blk.new (w2) #[.int .i64 p, .int .i64 q] 24
            replace hbA := hbA.alloc hbA.size (.cells #[.int .i64 p, .int .i64 q] 24)
            replace hS := hS.alloc (.cells #[.int .i64 p, .int .i64 q] 24)
            refine (sPowRange_any _ _ _ _).mono ?_
            rw [HV.out]
            rintro e w3 ⟨rfl, hb3⟩
            replace kA := kA.below hb3 kA.lt
            replace kR := kR.below hb3 kR.lt
            replace hS := hS.below hb3 hS.pos
            replace hbA := hbA.trans (hb3.mono hbA.size)
            obtain ⟨⟨x_kA, y_kA⟩, _, _⟩ := kA.two
            have lt_kA := kA.lt
            obtain ⟨⟨x_kR, y_kR⟩, _, _⟩ := kR.two
            have lt_kR := kR.lt
            have hs_ := hbA.size
            go_wp2_with fail
            clear x_kA y_kA lt_kA x_kR y_kR lt_kR hs_
            replace kA := kA.alloc (.cells #[.int .i64 p, .int .i64 q] 24)
            replace kR := kR.alloc (.cells #[.int .i64 p, .int .i64 q] 24)
            have kW := Blk.new (w3) #[.int .i64 p, .int .i64 q] 24
            replace hbA := hbA.alloc hbA.size (.cells #[.int .i64 p, .int .i64 q] 24)
            replace hS := hS.alloc (.cells #[.int .i64 p, .int .i64 q] 24)
            refine (powRange_any ea a b (n - 2) _ hS).mono ?_
            rw [HX.out]
            rintro e w4 ⟨rfl, hb4⟩
            replace kA := kA.below hb4 kA.lt
            replace kR := kR.below hb4 kR.lt
            replace kW := kW.below hb4 kW.lt
            replace hS := hS.below hb4 hS.pos
            replace hbA := hbA.trans (hb4.mono hbA.size)
            obtain ⟨⟨x_kA, y_kA⟩, _, _⟩ := kA.two
            have lt_kA := kA.lt
            obtain ⟨⟨x_kR, y_kR⟩, _, _⟩ := kR.two
            have lt_kR := kR.lt
            obtain ⟨⟨x_kW, y_kW⟩, _, _⟩ := kW.two
            have lt_kW := kW.lt
            have hs_ := hbA.size
            go_wp2_with fail
            clear x_kA y_kA lt_kA x_kR y_kR lt_kR x_kW y_kW lt_kW hs_
            replace kA := kA.alloc (.cells #[.int .i64 x1, .int .i64 x2] 24)
            replace kR := kR.alloc (.cells #[.int .i64 x1, .int .i64 x2] 24)
            replace kW := kW.alloc (.cells #[.int .i64 x1, .int .i64 x2] 24)
            have kX := Blk.new (w4) #[.int .i64 x1, .int .i64 x2] 24
            replace hbA := hbA.alloc hbA.size (.cells #[.int .i64 x1, .int .i64 x2] 24)
            replace hS := hS.alloc (.cells #[.int .i64 x1, .int .i64 x2] 24)
            refine (powRange_any ea a b 2 _ hS).mono ?_
            rw [HY.out]
            rintro e w5 ⟨rfl, hb5⟩
            replace kA := kA.below hb5 kA.lt
            replace kR := kR.below hb5 kR.lt
            replace kW := kW.below hb5 kW.lt
            replace kX := kX.below hb5 kX.lt
            replace hS := hS.below hb5 hS.pos
            replace hbA := hbA.trans (hb5.mono hbA.size)
            obtain ⟨⟨x_kA, y_kA⟩, _, _⟩ := kA.two
            have lt_kA := kA.lt
            obtain ⟨⟨x_kR, y_kR⟩, _, _⟩ := kR.two
            have lt_kR := kR.lt
            obtain ⟨⟨x_kW, y_kW⟩, _, _⟩ := kW.two
            have lt_kW := kW.lt
            obtain ⟨⟨x_kX, y_kX⟩, _, _⟩ := kX.two
            have lt_kX := kX.lt
            have hs_ := hbA.size
            go_wp2_with fail
            clear x_kA y_kA lt_kA x_kR y_kR lt_kR x_kW y_kW lt_kW x_kX y_kX lt_kX hs_
            replace kA := kA.alloc (.cells #[.int .i64 0, .int .i64 0] 24)
            replace kR := kR.alloc (.cells #[.int .i64 0, .int .i64 0] 24)
            replace kW := kW.alloc (.cells #[.int .i64 0, .int .i64 0] 24)
            replace kX := kX.alloc (.cells #[.int .i64 0, .int .i64 0] 24)
            have kY := Blk.new (w5) #[.int .i64 0, .int .i64 0] 24
            replace hbA := hbA.alloc hbA.size (.cells #[.int .i64 0, .int .i64 0] 24)
            replace hS := hS.alloc (.cells #[.int .i64 0, .int .i64 0] 24)
            refine (mulRange_any ea x1 x2 0 0 _ hS).mono ?_
            rw [HZ.out]
            rintro e w6 ⟨rfl, hb6⟩
            replace kA := kA.below hb6 kA.lt
            replace kR := kR.below hb6 kR.lt
            replace kW := kW.below hb6 kW.lt
            replace kX := kX.below hb6 kX.lt
            replace kY := kY.below hb6 kY.lt
            replace hS := hS.below hb6 hS.pos
            replace hbA := hbA.trans (hb6.mono hbA.size)
            obtain ⟨⟨x_kA, y_kA⟩, _, _⟩ := kA.two
            have lt_kA := kA.lt
            obtain ⟨⟨x_kR, y_kR⟩, _, _⟩ := kR.two
            have lt_kR := kR.lt
            obtain ⟨⟨x_kW, y_kW⟩, _, _⟩ := kW.two
            have lt_kW := kW.lt
            obtain ⟨⟨x_kX, y_kX⟩, _, _⟩ := kX.two
            have lt_kX := kX.lt
            obtain ⟨⟨x_kY, y_kY⟩, _, _⟩ := kY.two
            have lt_kY := kY.lt
            have hs_ := hbA.size
            go_wp2_with fail
            go_ret
            exact ⟨ret_bool (by simp), by first | exact hbA | exact hbA.alloc hs_ _⟩
        · have HX := Lib.hid (tv_no hx)
          obtain ⟨y1, y2, ty, hy2⟩ := tv_form (Rg.pow a b 2)
          have HY := Lib.hid hy2
          obtain ⟨z1, z2, tz, hz⟩ := tv_form (Rg.mul 0 0 y1 y2)
          have HZ := Lib.hid hz
          clear hV hx hy hy2 hz
          go_wp2_with fail
          have kA := Blk.new (w1) #[.int .i64 a, .int .i64 b] 24
          replace hbA := hbA.alloc hbA.size (.cells #[.int .i64 a, .int .i64 b] 24)
          replace hS := hS.alloc (.cells #[.int .i64 a, .int .i64 b] 24)
          refine (powRange_any ea _ _ _ _ hS).mono ?_
          rw [HV.out]
          rintro e w2 ⟨rfl, hb2⟩
          replace kA := kA.below hb2 kA.lt
          replace hS := hS.below hb2 hS.pos
          replace hbA := hbA.trans (hb2.mono hbA.size)
          obtain ⟨⟨x_kA, y_kA⟩, _, _⟩ := kA.two
          have lt_kA := kA.lt
          have hs_ := hbA.size
          go_wp2_with fail
          clear x_kA y_kA lt_kA hs_
          replace kA := kA.alloc (.cells #[.int .i64 p, .int .i64 q] 24)
          have kR := Blk.new (w2) #[.int .i64 p, .int .i64 q] 24
          replace hbA := hbA.alloc hbA.size (.cells #[.int .i64 p, .int .i64 q] 24)
          replace hS := hS.alloc (.cells #[.int .i64 p, .int .i64 q] 24)
          refine (sPowRange_any _ _ _ _).mono ?_
          rw [HV.out]
          rintro e w3 ⟨rfl, hb3⟩
          replace kA := kA.below hb3 kA.lt
          replace kR := kR.below hb3 kR.lt
          replace hS := hS.below hb3 hS.pos
          replace hbA := hbA.trans (hb3.mono hbA.size)
          obtain ⟨⟨x_kA, y_kA⟩, _, _⟩ := kA.two
          have lt_kA := kA.lt
          obtain ⟨⟨x_kR, y_kR⟩, _, _⟩ := kR.two
          have lt_kR := kR.lt
          have hs_ := hbA.size
          go_wp2_with fail
          clear x_kA y_kA lt_kA x_kR y_kR lt_kR hs_
          replace kA := kA.alloc (.cells #[.int .i64 p, .int .i64 q] 24)
          replace kR := kR.alloc (.cells #[.int .i64 p, .int .i64 q] 24)
          have kW := Blk.new (w3) #[.int .i64 p, .int .i64 q] 24
          replace hbA := hbA.alloc hbA.size (.cells #[.int .i64 p, .int .i64 q] 24)
          replace hS := hS.alloc (.cells #[.int .i64 p, .int .i64 q] 24)
          refine (powRange_any ea a b (n - 2) _ hS).mono ?_
          rw [HX.out]
          rintro e w4 ⟨rfl, hb4⟩
          replace kA := kA.below hb4 kA.lt
          replace kR := kR.below hb4 kR.lt
          replace kW := kW.below hb4 kW.lt
          replace hS := hS.below hb4 hS.pos
          replace hbA := hbA.trans (hb4.mono hbA.size)
          obtain ⟨⟨x_kA, y_kA⟩, _, _⟩ := kA.two
          have lt_kA := kA.lt
          obtain ⟨⟨x_kR, y_kR⟩, _, _⟩ := kR.two
          have lt_kR := kR.lt
          obtain ⟨⟨x_kW, y_kW⟩, _, _⟩ := kW.two
          have lt_kW := kW.lt
          have hs_ := hbA.size
          go_wp2_with fail
          clear x_kA y_kA lt_kA x_kR y_kR lt_kR x_kW y_kW lt_kW hs_
          replace kA := kA.alloc (.cells #[.int .i64 0, .int .i64 0] 24)
          replace kR := kR.alloc (.cells #[.int .i64 0, .int .i64 0] 24)
          replace kW := kW.alloc (.cells #[.int .i64 0, .int .i64 0] 24)
          have kX := Blk.new (w4) #[.int .i64 0, .int .i64 0] 24
          replace hbA := hbA.alloc hbA.size (.cells #[.int .i64 0, .int .i64 0] 24)
          replace hS := hS.alloc (.cells #[.int .i64 0, .int .i64 0] 24)
          refine (powRange_any ea a b 2 _ hS).mono ?_
          rw [HY.out]
          rintro e w5 ⟨rfl, hb5⟩
          replace kA := kA.below hb5 kA.lt
          replace kR := kR.below hb5 kR.lt
          replace kW := kW.below hb5 kW.lt
          replace kX := kX.below hb5 kX.lt
          replace hS := hS.below hb5 hS.pos
          replace hbA := hbA.trans (hb5.mono hbA.size)
          obtain ⟨⟨x_kA, y_kA⟩, _, _⟩ := kA.two
          have lt_kA := kA.lt
          obtain ⟨⟨x_kR, y_kR⟩, _, _⟩ := kR.two
          have lt_kR := kR.lt
          obtain ⟨⟨x_kW, y_kW⟩, _, _⟩ := kW.two
          have lt_kW := kW.lt
          obtain ⟨⟨x_kX, y_kX⟩, _, _⟩ := kX.two
          have lt_kX := kX.lt
          have hs_ := hbA.size
          go_wp2_with fail
          clear x_kA y_kA lt_kA x_kR y_kR lt_kR x_kW y_kW lt_kW x_kX y_kX lt_kX hs_
          replace kA := kA.alloc (.cells #[.int .i64 y1, .int .i64 y2] 24)
          replace kR := kR.alloc (.cells #[.int .i64 y1, .int .i64 y2] 24)
          replace kW := kW.alloc (.cells #[.int .i64 y1, .int .i64 y2] 24)
          replace kX := kX.alloc (.cells #[.int .i64 y1, .int .i64 y2] 24)
          have kY := Blk.new (w5) #[.int .i64 y1, .int .i64 y2] 24
          replace hbA := hbA.alloc hbA.size (.cells #[.int .i64 y1, .int .i64 y2] 24)
          replace hS := hS.alloc (.cells #[.int .i64 y1, .int .i64 y2] 24)
          refine (mulRange_any ea 0 0 y1 y2 _ hS).mono ?_
          rw [HZ.out]
          rintro e w6 ⟨rfl, hb6⟩
          replace kA := kA.below hb6 kA.lt
          replace kR := kR.below hb6 kR.lt
          replace kW := kW.below hb6 kW.lt
          replace kX := kX.below hb6 kX.lt
          replace kY := kY.below hb6 kY.lt
          replace hS := hS.below hb6 hS.pos
          replace hbA := hbA.trans (hb6.mono hbA.size)
          obtain ⟨⟨x_kA, y_kA⟩, _, _⟩ := kA.two
          have lt_kA := kA.lt
          obtain ⟨⟨x_kR, y_kR⟩, _, _⟩ := kR.two
          have lt_kR := kR.lt
          obtain ⟨⟨x_kW, y_kW⟩, _, _⟩ := kW.two
          have lt_kW := kW.lt
          obtain ⟨⟨x_kX, y_kX⟩, _, _⟩ := kX.two
          have lt_kX := kX.lt
          obtain ⟨⟨x_kY, y_kY⟩, _, _⟩ := kY.two
          have lt_kY := kY.lt
          have hs_ := hbA.size
          go_wp2_with fail
          go_ret
          exact ⟨ret_bool (by simp), by first | exact hbA | exact hbA.alloc hs_ _⟩
    · have HV := Lib.hid (tv_no hV)
      go_wp2_with fail
      have kA := Blk.new (w1) #[.int .i64 a, .int .i64 b] 24
      replace hbA := hbA.alloc hbA.size (.cells #[.int .i64 a, .int .i64 b] 24)
      replace hS := hS.alloc (.cells #[.int .i64 a, .int .i64 b] 24)
      refine (powRange_any ea _ _ _ _ hS).mono ?_
      rw [HV.out]
      rintro e w2 ⟨rfl, hb2⟩
      replace kA := kA.below hb2 kA.lt
      replace hS := hS.below hb2 hS.pos
      replace hbA := hbA.trans (hb2.mono hbA.size)
      obtain ⟨⟨x_kA, y_kA⟩, _, _⟩ := kA.two
      have lt_kA := kA.lt
      have hs_ := hbA.size
      go_wp2_with fail
      clear x_kA y_kA lt_kA hs_
      replace kA := kA.alloc (.cells #[.int .i64 0, .int .i64 0] 24)
      have kR := Blk.new (w2) #[.int .i64 0, .int .i64 0] 24
      replace hbA := hbA.alloc hbA.size (.cells #[.int .i64 0, .int .i64 0] 24)
      replace hS := hS.alloc (.cells #[.int .i64 0, .int .i64 0] 24)
      refine (sPowRange_any _ _ _ _).mono ?_
      rw [HV.out]
      rintro e w3 ⟨rfl, hb3⟩
      replace kA := kA.below hb3 kA.lt
      replace kR := kR.below hb3 kR.lt
      replace hS := hS.below hb3 hS.pos
      replace hbA := hbA.trans (hb3.mono hbA.size)
      obtain ⟨⟨x_kA, y_kA⟩, _, _⟩ := kA.two
      have lt_kA := kA.lt
      obtain ⟨⟨x_kR, y_kR⟩, _, _⟩ := kR.two
      have lt_kR := kR.lt
      have hs_ := hbA.size
      go_wp2_with fail
      go_ret
      exact ⟨ret_bool (by simp), by first | exact hbA | exact hbA.alloc hs_ _⟩
end Go.Proofs.YtcoljkafbpnpnaaDoor
