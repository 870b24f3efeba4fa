/- The walks of the laws of ranges, part 2. -/
import Derived.Test.YtdmamojidefdaaaDoorRgl
import Derived.Outline
namespace Go.Proofs.YtdmamojidefdaaaDoor
open Go.RowKit
set_option maxHeartbeats 4000000 in
theorem lawDivRange (a : Option Addr) (len cap : Nat) (zs : List Int) (w : World) (h : IsRow .u8 w a len cap zs) (ea : Addr) (hS : Sen ea w) :
    Calls Tryd.prog 3 #[.slice a len cap] w fun e w' => e = .returned (.bool true) ∧ Below w.heap.size w w' := by
  have H := Lib.hid h; clear h
  by_cases hl : 1048576 < (len : Int)
  · go_enter Tryd.func3, Tryd.ntmps3
    go_wp2_with fail
    go_ret
    exact ⟨rfl, Below.refl _ _⟩
  · have hl' := decide_eq_false hl
    clear hl
    go_enter Tryd.func3, Tryd.ntmps3
    go_wp2_with fail
    refine (drawDivR_any _ _ _ _ _ H.out).mono ?_
    rintro e w1 ⟨a, b, c, d, rfl, ⟨a0, a1, b0, b1, c0, c1, d0, d1⟩, hbA⟩
    replace hS := hS.below hbA hS.pos
    rcases good_cases (Rg.good_div a b c d) with ⟨p, q, hV⟩ | hV
    · have HV := Lib.hid (tv_yes hV)
      have W := Rg.div_two hV
      obtain ⟨ok, -, -, -⟩ := W
      have nn := Rg.div_nn hV
      have hnn := decide_eq_true nn
      obtain ⟨v1, v2, n1, n2⟩ := Rg.dok_iff.1 ok
      have HO := Lib.hid (tv_yes (Rg.div_one v1 n1))
      have hm := good_cases (Rg.good_mul p q c d)
      have HW := Lib.hid (fun x y (hm : Rg.mul p q c d = (x, y, true)) => Rg.div_mul hV hm)
      clear v1 v2 ok
      clear hV
      go_wp2_with fail
      have kA := Blk.new (w1) #[.int .i64 a, .int .i64 b] 24
      replace hbA := hbA.alloc hbA.size (.cells #[.int .i64 a, .int .i64 b] 24)
      replace hS := hS.alloc (.cells #[.int .i64 a, .int .i64 b] 24)
      replace kA := kA.alloc (.cells #[.int .i64 c, .int .i64 d] 24)
      have kB := Blk.new ((w1).alloc (.cells #[.int .i64 a, .int .i64 b] 24)) #[.int .i64 c, .int .i64 d] 24
      replace hbA := hbA.alloc hbA.size (.cells #[.int .i64 c, .int .i64 d] 24)
      replace hS := hS.alloc (.cells #[.int .i64 c, .int .i64 d] 24)
      simp only [World.size_alloc] at kB
      refine (divRange_any ea _ _ _ _ _ hS).mono ?_
      rw [HV.out]
      rintro e w2 ⟨rfl, hb2⟩
      replace kA := kA.below hb2 kA.lt
      replace kB := kB.below hb2 kB.lt
      replace hS := hS.below hb2 hS.pos
      replace hbA := hbA.trans (hb2.mono hbA.size)
      obtain ⟨⟨x_kA, y_kA⟩, _, _⟩ := kA.two
      have lt_kA := kA.lt
      obtain ⟨⟨x_kB, y_kB⟩, _, _⟩ := kB.two
      have lt_kB := kB.lt
      have hs_ := hbA.size
      go_wp2_with fail
      clear x_kA y_kA lt_kA x_kB y_kB lt_kB hs_
      replace kA := kA.alloc (.cells #[.int .i64 p, .int .i64 q] 24)
      replace kB := kB.alloc (.cells #[.int .i64 p, .int .i64 q] 24)
      have kR := Blk.new (w2) #[.int .i64 p, .int .i64 q] 24
      replace hbA := hbA.alloc hbA.size (.cells #[.int .i64 p, .int .i64 q] 24)
      replace hS := hS.alloc (.cells #[.int .i64 p, .int .i64 q] 24)
      refine (sDivRange_any _ _ _ _ _).mono ?_
      rw [HV.out]
      rintro e w3 ⟨rfl, hb3⟩
      replace kA := kA.below hb3 kA.lt
      replace kB := kB.below hb3 kB.lt
      replace kR := kR.below hb3 kR.lt
      replace hS := hS.below hb3 hS.pos
      replace hbA := hbA.trans (hb3.mono hbA.size)
      obtain ⟨⟨x_kA, y_kA⟩, _, _⟩ := kA.two
      have lt_kA := kA.lt
      obtain ⟨⟨x_kB, y_kB⟩, _, _⟩ := kB.two
      have lt_kB := kB.lt
      obtain ⟨⟨x_kR, y_kR⟩, _, _⟩ := kR.two
      have lt_kR := kR.lt
      have hs_ := hbA.size
      go_wp2_with fail
      clear x_kA y_kA lt_kA x_kB y_kB lt_kB x_kR y_kR lt_kR hs_
      replace kA := kA.alloc (.cells #[.int .i64 p, .int .i64 q] 24)
      replace kB := kB.alloc (.cells #[.int .i64 p, .int .i64 q] 24)
      replace kR := kR.alloc (.cells #[.int .i64 p, .int .i64 q] 24)
      have kW := Blk.new (w3) #[.int .i64 p, .int .i64 q] 24
      replace hbA := hbA.alloc hbA.size (.cells #[.int .i64 p, .int .i64 q] 24)
      replace hS := hS.alloc (.cells #[.int .i64 p, .int .i64 q] 24)
      rcases hm with ⟨x, y, hm⟩ | hm
      · have ⟨le1, le2⟩ := HW.out x y hm
        have HM := Lib.hid (tv_yes hm)
        clear hm
        refine (mulRange_any ea p q c d _ hS).mono ?_
        rw [HM.out]
        rintro e w4 ⟨rfl, hb4⟩
        replace kA := kA.below hb4 kA.lt
        replace kB := kB.below hb4 kB.lt
        replace kR := kR.below hb4 kR.lt
        replace kW := kW.below hb4 kW.lt
        replace hS := hS.below hb4 hS.pos
        replace hbA := hbA.trans (hb4.mono hbA.size)
        obtain ⟨⟨x_kA, y_kA⟩, _, _⟩ := kA.two
        have lt_kA := kA.lt
        obtain ⟨⟨x_kB, y_kB⟩, _, _⟩ := kB.two
        have lt_kB := kB.lt
        obtain ⟨⟨x_kR, y_kR⟩, _, _⟩ := kR.two
        have lt_kR := kR.lt
        obtain ⟨⟨x_kW, y_kW⟩, _, _⟩ := kW.two
        have lt_kW := kW.lt
        have hs_ := hbA.size
        go_wp2_with fail
        clear x_kA y_kA lt_kA x_kB y_kB lt_kB x_kR y_kR lt_kR x_kW y_kW lt_kW hs_
        replace kA := kA.alloc (.cells #[.int .i64 x, .int .i64 y] 24)
        replace kB := kB.alloc (.cells #[.int .i64 x, .int .i64 y] 24)
        replace kR := kR.alloc (.cells #[.int .i64 x, .int .i64 y] 24)
        replace kW := kW.alloc (.cells #[.int .i64 x, .int .i64 y] 24)
        have kD := Blk.new (w4) #[.int .i64 x, .int .i64 y] 24
        replace hbA := hbA.alloc hbA.size (.cells #[.int .i64 x, .int .i64 y] 24)
        replace hS := hS.alloc (.cells #[.int .i64 x, .int .i64 y] 24)
        refine (divRange_any ea a b 1000000 1000000 _ hS).mono ?_
        rw [HO.out]
        rintro e w5 ⟨rfl, hb5⟩
        replace kA := kA.below hb5 kA.lt
        replace kB := kB.below hb5 kB.lt
        replace kR := kR.below hb5 kR.lt
        replace kW := kW.below hb5 kW.lt
        replace kD := kD.below hb5 kD.lt
        replace hS := hS.below hb5 hS.pos
        replace hbA := hbA.trans (hb5.mono hbA.size)
        obtain ⟨⟨x_kA, y_kA⟩, _, _⟩ := kA.two
        have lt_kA := kA.lt
        obtain ⟨⟨x_kB, y_kB⟩, _, _⟩ := kB.two
        have lt_kB := kB.lt
        obtain ⟨⟨x_kR, y_kR⟩, _, _⟩ := kR.two
        have lt_kR := kR.lt
        obtain ⟨⟨x_kW, y_kW⟩, _, _⟩ := kW.two
        have lt_kW := kW.lt
        obtain ⟨⟨x_kD, y_kD⟩, _, _⟩ := kD.two
        have lt_kD := kD.lt
        have hs_ := hbA.size
        go_wp2_with fail
        clear x_kA y_kA lt_kA x_kB y_kB lt_kB x_kR y_kR lt_kR x_kW y_kW lt_kW x_kD y_kD lt_kD hs_
        replace kA := kA.alloc (.cells #[.int .i64 a, .int .i64 b] 24)
        replace kB := kB.alloc (.cells #[.int .i64 a, .int .i64 b] 24)
        replace kR := kR.alloc (.cells #[.int .i64 a, .int .i64 b] 24)
        replace kW := kW.alloc (.cells #[.int .i64 a, .int .i64 b] 24)
        replace kD := kD.alloc (.cells #[.int .i64 a, .int .i64 b] 24)
        have kO := Blk.new (w5) #[.int .i64 a, .int .i64 b] 24
        replace hbA := hbA.alloc hbA.size (.cells #[.int .i64 a, .int .i64 b] 24)
        replace hS := hS.alloc (.cells #[.int .i64 a, .int .i64 b] 24)
        refine (within_t _ _ _ _ _ le1 le2).mono ?_
        rintro e w6 ⟨rfl, hb6⟩
        replace kA := kA.below hb6 kA.lt
        replace kB := kB.below hb6 kB.lt
        replace kR := kR.below hb6 kR.lt
        replace kW := kW.below hb6 kW.lt
        replace kD := kD.below hb6 kD.lt
        replace kO := kO.below hb6 kO.lt
        replace hS := hS.below hb6 hS.pos
        replace hbA := hbA.trans (hb6.mono hbA.size)
        obtain ⟨⟨x_kA, y_kA⟩, _, _⟩ := kA.two
        have lt_kA := kA.lt
        obtain ⟨⟨x_kB, y_kB⟩, _, _⟩ := kB.two
        have lt_kB := kB.lt
        obtain ⟨⟨x_kR, y_kR⟩, _, _⟩ := kR.two
        have lt_kR := kR.lt
        obtain ⟨⟨x_kW, y_kW⟩, _, _⟩ := kW.two
        have lt_kW := kW.lt
        obtain ⟨⟨x_kD, y_kD⟩, _, _⟩ := kD.two
        have lt_kD := kD.lt
        obtain ⟨⟨x_kO, y_kO⟩, _, _⟩ := kO.two
        have lt_kO := kO.lt
        have hs_ := hbA.size
        go_wp2_with fail
        go_ret
        exact ⟨ret_bool (by simp), by first | exact hbA | exact hbA.alloc hs_ _⟩
      · have HM := Lib.hid (tv_no hm)
        clear hm
        refine (mulRange_any ea p q c d _ hS).mono ?_
        rw [HM.out]
        rintro e w4 ⟨rfl, hb4⟩
        replace kA := kA.below hb4 kA.lt
        replace kB := kB.below hb4 kB.lt
        replace kR := kR.below hb4 kR.lt
        replace kW := kW.below hb4 kW.lt
        replace hS := hS.below hb4 hS.pos
        replace hbA := hbA.trans (hb4.mono hbA.size)
        obtain ⟨⟨x_kA, y_kA⟩, _, _⟩ := kA.two
        have lt_kA := kA.lt
        obtain ⟨⟨x_kB, y_kB⟩, _, _⟩ := kB.two
        have lt_kB := kB.lt
        obtain ⟨⟨x_kR, y_kR⟩, _, _⟩ := kR.two
        have lt_kR := kR.lt
        obtain ⟨⟨x_kW, y_kW⟩, _, _⟩ := kW.two
        have lt_kW := kW.lt
        have hs_ := hbA.size
        go_wp2_with fail
        clear x_kA y_kA lt_kA x_kB y_kB lt_kB x_kR y_kR lt_kR x_kW y_kW lt_kW hs_
        replace kA := kA.alloc (.cells #[.int .i64 0, .int .i64 0] 24)
        replace kB := kB.alloc (.cells #[.int .i64 0, .int .i64 0] 24)
        replace kR := kR.alloc (.cells #[.int .i64 0, .int .i64 0] 24)
        replace kW := kW.alloc (.cells #[.int .i64 0, .int .i64 0] 24)
        have kD := Blk.new (w4) #[.int .i64 0, .int .i64 0] 24
        replace hbA := hbA.alloc hbA.size (.cells #[.int .i64 0, .int .i64 0] 24)
        replace hS := hS.alloc (.cells #[.int .i64 0, .int .i64 0] 24)
        refine (divRange_any ea a b 1000000 1000000 _ hS).mono ?_
        rw [HO.out]
        rintro e w5 ⟨rfl, hb5⟩
        replace kA := kA.below hb5 kA.lt
        replace kB := kB.below hb5 kB.lt
        replace kR := kR.below hb5 kR.lt
        replace kW := kW.below hb5 kW.lt
        replace kD := kD.below hb5 kD.lt
        replace hS := hS.below hb5 hS.pos
        replace hbA := hbA.trans (hb5.mono hbA.size)
        obtain ⟨⟨x_kA, y_kA⟩, _, _⟩ := kA.two
        have lt_kA := kA.lt
        obtain ⟨⟨x_kB, y_kB⟩, _, _⟩ := kB.two
        have lt_kB := kB.lt
        obtain ⟨⟨x_kR, y_kR⟩, _, _⟩ := kR.two
        have lt_kR := kR.lt
        obtain ⟨⟨x_kW, y_kW⟩, _, _⟩ := kW.two
        have lt_kW := kW.lt
        obtain ⟨⟨x_kD, y_kD⟩, _, _⟩ := kD.two
        have lt_kD := kD.lt
        have hs_ := hbA.size
        go_wp2_with fail
        go_ret
        exact ⟨ret_bool (by simp), by first | exact hbA | exact hbA.alloc hs_ _⟩
    · have HV := Lib.hid hV
      go_wp2_with fail
      have kA := Blk.new (w1) #[.int .i64 a, .int .i64 b] 24
      replace hbA := hbA.alloc hbA.size (.cells #[.int .i64 a, .int .i64 b] 24)
      replace hS := hS.alloc (.cells #[.int .i64 a, .int .i64 b] 24)
      replace kA := kA.alloc (.cells #[.int .i64 c, .int .i64 d] 24)
      have kB := Blk.new ((w1).alloc (.cells #[.int .i64 a, .int .i64 b] 24)) #[.int .i64 c, .int .i64 d] 24
      replace hbA := hbA.alloc hbA.size (.cells #[.int .i64 c, .int .i64 d] 24)
      replace hS := hS.alloc (.cells #[.int .i64 c, .int .i64 d] 24)
      simp only [World.size_alloc] at kB
      refine (divRange_any ea _ _ _ _ _ hS).mono ?_
      rw [tv_no hV]
      rintro e w2 ⟨rfl, hb2⟩
      replace kA := kA.below hb2 kA.lt
      replace kB := kB.below hb2 kB.lt
      replace hS := hS.below hb2 hS.pos
      replace hbA := hbA.trans (hb2.mono hbA.size)
      obtain ⟨⟨x_kA, y_kA⟩, _, _⟩ := kA.two
      have lt_kA := kA.lt
      obtain ⟨⟨x_kB, y_kB⟩, _, _⟩ := kB.two
      have lt_kB := kB.lt
      have hs_ := hbA.size
      go_wp2_with fail
      clear x_kA y_kA lt_kA x_kB y_kB lt_kB hs_
      replace kA := kA.alloc (.cells #[.int .i64 0, .int .i64 0] 24)
      replace kB := kB.alloc (.cells #[.int .i64 0, .int .i64 0] 24)
      have kR := Blk.new (w2) #[.int .i64 0, .int .i64 0] 24
      replace hbA := hbA.alloc hbA.size (.cells #[.int .i64 0, .int .i64 0] 24)
      replace hS := hS.alloc (.cells #[.int .i64 0, .int .i64 0] 24)
      refine (sDivRange_any _ _ _ _ _).mono ?_
      rw [tv_no hV]
      rintro e w3 ⟨rfl, hb3⟩
      replace kA := kA.below hb3 kA.lt
      replace kB := kB.below hb3 kB.lt
      replace kR := kR.below hb3 kR.lt
      replace hS := hS.below hb3 hS.pos
      replace hbA := hbA.trans (hb3.mono hbA.size)
      obtain ⟨⟨x_kA, y_kA⟩, _, _⟩ := kA.two
      have lt_kA := kA.lt
      obtain ⟨⟨x_kB, y_kB⟩, _, _⟩ := kB.two
      have lt_kB := kB.lt
      obtain ⟨⟨x_kR, y_kR⟩, _, _⟩ := kR.two
      have lt_kR := kR.lt
      have hs_ := hbA.size
      go_wp2_with fail
      go_ret
      exact ⟨ret_bool (by simp), by first | exact hbA | exact hbA.alloc hs_ _⟩
end Go.Proofs.YtdmamojidefdaaaDoor
