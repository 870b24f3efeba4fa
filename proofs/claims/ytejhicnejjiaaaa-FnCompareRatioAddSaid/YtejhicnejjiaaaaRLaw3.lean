/- The walks of the laws of comparing and of sums of products. -/
import Derived.Test.YtejhicnejjiaaaaRLaw2
import Derived.Test.YtejhicnejjiaaaaRMath2
namespace Go.Proofs.Ytejhicnejjiaaaa
open Go.RowKit
set_option maxHeartbeats 4000000 in
theorem lawCompareRatio (a : Option Addr) (len cap : Nat) (zs : List Int) (w : World) (h : IsRow .u8 w a len cap zs) :
    Calls Try.prog 6 #[.slice a len cap] w fun e w' => e = .returned (.bool true) ∧ Below w.heap.size w w' := by
  have H := Lib.hid h; clear h
  by_cases hl : 1048576 < (len : Int)
  · go_enter Try.func6, Try.ntmps6
    go_wp2_with fail
    go_ret
    exact ⟨rfl, Below.refl _ _⟩
  · have hl' := decide_eq_false hl
    clear hl
    go_enter Try.func6, Try.ntmps6
    go_wp2_with fail
    refine (drawCompare_any _ _ _ _ _ H.out).mono ?_
    rintro e w1 ⟨a, b, c, d, rfl, ⟨a0, a1, b0, b1, c0, c1, d0, d1⟩, hbA⟩
    have hbd := cmp_bd a b c d
    obtain ⟨bd0, bd1⟩ := hbd
    have hne : (cmpV a b c d != cmpV a b c d) = false := by simp
    rcases cmp_cases a b c d with ⟨v1, v2, e1, e2⟩ | e1
    · have hz := cmp_zero v1 v2
      have h2 : (cmpV a b c d == 2) = false := by have := cmp_ne2 v1 v2; simpa using this
      have ho : cmpV c d a b = -cmpV a b c d := by rw [e2, e1]
      have HO := Lib.hid ho
      have HZ := Lib.hid hz
      clear e1 e2 v1 v2 ho hz
      go_wp2_with fail
      have kA := Blk.new w1 #[.int .i64 a, .int .i64 b] 26
      replace hbA := hbA.alloc hbA.size (.cells #[.int .i64 a, .int .i64 b] 26)
      replace kA := kA.alloc (.cells #[.int .i64 c, .int .i64 d] 26)
      have kB := Blk.new (w1.alloc (.cells #[.int .i64 a, .int .i64 b] 26)) #[.int .i64 c, .int .i64 d] 26
      replace hbA := hbA.alloc hbA.size (.cells #[.int .i64 c, .int .i64 d] 26)
      simp only [World.size_alloc] at kB
      refine (compare_any _ _ _ _ _).mono ?_
      rintro e w2 ⟨rfl, hb2⟩
      replace kA := kA.below hb2 kA.lt
      replace kB := kB.below hb2 kB.lt
      replace hbA := hbA.trans (hb2.mono hbA.size)
      obtain ⟨⟨x_kA, y_kA⟩, _, _⟩ := kA.two
      have lt_kA := kA.lt
      obtain ⟨⟨x_kB, y_kB⟩, _, _⟩ := kB.two
      have lt_kB := kB.lt
      have hs_ := hbA.size
      go_wp2_with fail
      clear x_kA y_kA lt_kA x_kB y_kB lt_kB hs_
      refine (sCompare_any _ _ _ _ _).mono ?_
      rintro e w3 ⟨rfl, hb3⟩
      replace kA := kA.below hb3 kA.lt
      replace kB := kB.below hb3 kB.lt
      replace hbA := hbA.trans (hb3.mono hbA.size)
      obtain ⟨⟨x_kA, y_kA⟩, _, _⟩ := kA.two
      have lt_kA := kA.lt
      obtain ⟨⟨x_kB, y_kB⟩, _, _⟩ := kB.two
      have lt_kB := kB.lt
      have hs_ := hbA.size
      go_wp2_with fail
      clear x_kA y_kA lt_kA x_kB y_kB lt_kB hs_
      refine (compare_any _ _ _ _ _).mono ?_
      rw [HO.out]
      rintro e w4 ⟨rfl, hb4⟩
      replace kA := kA.below hb4 kA.lt
      replace kB := kB.below hb4 kB.lt
      replace hbA := hbA.trans (hb4.mono hbA.size)
      obtain ⟨⟨x_kA, y_kA⟩, _, _⟩ := kA.two
      have lt_kA := kA.lt
      obtain ⟨⟨x_kB, y_kB⟩, _, _⟩ := kB.two
      have lt_kB := kB.lt
      have hs_ := hbA.size
      cases ha : (a == c) with
      | true =>
        cases hb : (b == d) with
        | true =>
          have hz : (cmpV a b c d == 0) = true := HZ.out.trans (by rw [ha, hb]; rfl)
          go_wp2_with fail
          go_ret
          exact ⟨ret_bool (by simp [*]), hbA⟩
        | false =>
          have hz : (cmpV a b c d == 0) = false := HZ.out.trans (by rw [ha, hb]; rfl)
          go_wp2_with fail
          go_ret
          exact ⟨ret_bool (by simp [*]), hbA⟩
      | false =>
        have hz : (cmpV a b c d == 0) = false := HZ.out.trans (by rw [ha]; rfl)
        go_wp2_with fail
        go_ret
        exact ⟨ret_bool (by simp [*]), hbA⟩
    · have h2 : (cmpV a b c d == 2) = true := by rw [e1]; rfl
      clear e1
      go_wp2_with fail
      have kA := Blk.new w1 #[.int .i64 a, .int .i64 b] 26
      replace hbA := hbA.alloc hbA.size (.cells #[.int .i64 a, .int .i64 b] 26)
      replace kA := kA.alloc (.cells #[.int .i64 c, .int .i64 d] 26)
      have kB := Blk.new (w1.alloc (.cells #[.int .i64 a, .int .i64 b] 26)) #[.int .i64 c, .int .i64 d] 26
      replace hbA := hbA.alloc hbA.size (.cells #[.int .i64 c, .int .i64 d] 26)
      simp only [World.size_alloc] at kB
      refine (compare_any _ _ _ _ _).mono ?_
      rintro e w2 ⟨rfl, hb2⟩
      replace kA := kA.below hb2 kA.lt
      replace kB := kB.below hb2 kB.lt
      replace hbA := hbA.trans (hb2.mono hbA.size)
      obtain ⟨⟨x_kA, y_kA⟩, _, _⟩ := kA.two
      have lt_kA := kA.lt
      obtain ⟨⟨x_kB, y_kB⟩, _, _⟩ := kB.two
      have lt_kB := kB.lt
      have hs_ := hbA.size
      go_wp2_with fail
      clear x_kA y_kA lt_kA x_kB y_kB lt_kB hs_
      refine (sCompare_any _ _ _ _ _).mono ?_
      rintro e w3 ⟨rfl, hb3⟩
      replace kA := kA.below hb3 kA.lt
      replace kB := kB.below hb3 kB.lt
      replace hbA := hbA.trans (hb3.mono hbA.size)
      obtain ⟨⟨x_kA, y_kA⟩, _, _⟩ := kA.two
      have lt_kA := kA.lt
      obtain ⟨⟨x_kB, y_kB⟩, _, _⟩ := kB.two
      have lt_kB := kB.lt
      have hs_ := hbA.size
      go_wp2_with fail
      clear x_kA y_kA lt_kA x_kB y_kB lt_kB hs_
      refine (sCompare_any _ _ _ _ _).mono ?_
      rintro e w4 ⟨rfl, hb4⟩
      replace kA := kA.below hb4 kA.lt
      replace kB := kB.below hb4 kB.lt
      replace hbA := hbA.trans (hb4.mono hbA.size)
      obtain ⟨⟨x_kA, y_kA⟩, _, _⟩ := kA.two
      have lt_kA := kA.lt
      obtain ⟨⟨x_kB, y_kB⟩, _, _⟩ := kB.two
      have lt_kB := kB.lt
      have hs_ := hbA.size
      go_wp2_with fail
      go_ret
      exact ⟨ret_bool (by simp), hbA⟩
set_option maxHeartbeats 4000000 in
theorem lawDistribute (a : Option Addr) (len cap : Nat) (zs : List Int) (w : World) (h : IsRow .u8 w a len cap zs) :
    Calls Try.prog 8 #[.slice a len cap] w fun e w' => e = .returned (.bool true) ∧ Below w.heap.size w w' := by
  have H := Lib.hid h; clear h
  by_cases hl : 1048576 < (len : Int)
  · go_enter Try.func8, Try.ntmps8
    go_wp2_with fail
    go_ret
    exact ⟨rfl, Below.refl _ _⟩
  · have hl' := decide_eq_false hl
    clear hl
    go_enter Try.func8, Try.ntmps8
    go_wp2_with fail
    refine (drawAdd_any _ _ _ _ _ H.out).mono ?_
    rintro e w1 ⟨a, b, c, d, rfl, ⟨a0, a1, b0, b1, c0, c1, d0, d1⟩, hbA⟩
    rcases addRV_cases a b c d with ⟨p, q, hV, _, _, _, _⟩ | hV
    · have HV := Lib.hid hV
      obtain ⟨x1, x2, r1, hX⟩ := mulRV_form p q 2 3
      obtain ⟨y1, y2, r2, hY⟩ := mulRV_form a b 2 3
      obtain ⟨z1, z2, r3, hZ⟩ := mulRV_form c d 2 3
      obtain ⟨s1, s2, r4, hS⟩ := addRV_form y1 y2 z1 z2
      have hend : r1 = true → r2 = true → r3 = true → r4 = true → s1 = x1 ∧ s2 = x2 := by
        rintro rfl rfl rfl rfl
        exact distr_end hV hX hY hZ hS
      have HE := Lib.hid hend
      have HX := Lib.hid hX
      have HY := Lib.hid hY
      have HZ := Lib.hid hZ
      have HS := Lib.hid hS
      clear hV hX hY hZ hS hend
      go_wp2_with fail
      have kA := Blk.new w1 #[.int .i64 a, .int .i64 b] 26
      replace hbA := hbA.alloc hbA.size (.cells #[.int .i64 a, .int .i64 b] 26)
      replace kA := kA.alloc (.cells #[.int .i64 c, .int .i64 d] 26)
      have kB := Blk.new (w1.alloc (.cells #[.int .i64 a, .int .i64 b] 26)) #[.int .i64 c, .int .i64 d] 26
      replace hbA := hbA.alloc hbA.size (.cells #[.int .i64 c, .int .i64 d] 26)
      simp only [World.size_alloc] at kB
      refine (addR_any _ _ _ _ _).mono ?_
      rw [HV.out]
      rintro e w2 ⟨rfl, hb2⟩
      replace kA := kA.below hb2 kA.lt
      replace kB := kB.below hb2 kB.lt
      replace hbA := hbA.trans (hb2.mono hbA.size)
      obtain ⟨⟨x_kA, y_kA⟩, _, _⟩ := kA.two
      have lt_kA := kA.lt
      obtain ⟨⟨x_kB, y_kB⟩, _, _⟩ := kB.two
      have lt_kB := kB.lt
      have hs_ := hbA.size
      go_wp2_with fail
      clear x_kA y_kA lt_kA x_kB y_kB lt_kB hs_
      replace kA := kA.alloc (.cells #[.int .i64 p, .int .i64 q] 26)
      replace kB := kB.alloc (.cells #[.int .i64 p, .int .i64 q] 26)
      have kR := Blk.new w2 #[.int .i64 p, .int .i64 q] 26
      replace hbA := hbA.alloc hbA.size (.cells #[.int .i64 p, .int .i64 q] 26)
      refine (sAddR_any _ _ _ _ _).mono ?_
      rw [HV.out]
      rintro e w3 ⟨rfl, hb3⟩
      replace kA := kA.below hb3 kA.lt
      replace kB := kB.below hb3 kB.lt
      replace kR := kR.below hb3 kR.lt
      replace hbA := hbA.trans (hb3.mono hbA.size)
      obtain ⟨⟨x_kA, y_kA⟩, _, _⟩ := kA.two
      have lt_kA := kA.lt
      obtain ⟨⟨x_kB, y_kB⟩, _, _⟩ := kB.two
      have lt_kB := kB.lt
      obtain ⟨⟨x_kR, y_kR⟩, _, _⟩ := kR.two
      have lt_kR := kR.lt
      have hs_ := hbA.size
      go_wp2_with fail
      clear x_kA y_kA lt_kA x_kB y_kB lt_kB x_kR y_kR lt_kR hs_
      replace kA := kA.alloc (.cells #[.int .i64 p, .int .i64 q] 26)
      replace kB := kB.alloc (.cells #[.int .i64 p, .int .i64 q] 26)
      replace kR := kR.alloc (.cells #[.int .i64 p, .int .i64 q] 26)
      have kW := Blk.new w3 #[.int .i64 p, .int .i64 q] 26
      replace hbA := hbA.alloc hbA.size (.cells #[.int .i64 p, .int .i64 q] 26)
      replace kA := kA.alloc (.cells #[.int .i64 2, .int .i64 3] 26)
      replace kB := kB.alloc (.cells #[.int .i64 2, .int .i64 3] 26)
      replace kR := kR.alloc (.cells #[.int .i64 2, .int .i64 3] 26)
      replace kW := kW.alloc (.cells #[.int .i64 2, .int .i64 3] 26)
      have kC := Blk.new (w3.alloc (.cells #[.int .i64 p, .int .i64 q] 26)) #[.int .i64 2, .int .i64 3] 26
      replace hbA := hbA.alloc hbA.size (.cells #[.int .i64 2, .int .i64 3] 26)
      simp only [World.size_alloc] at kC
      refine (mulR_any _ _ _ _ _).mono ?_
      rw [HX.out]
      rintro e w4 ⟨rfl, hb4⟩
      replace kA := kA.below hb4 kA.lt
      replace kB := kB.below hb4 kB.lt
      replace kR := kR.below hb4 kR.lt
      replace kW := kW.below hb4 kW.lt
      replace kC := kC.below hb4 kC.lt
      replace hbA := hbA.trans (hb4.mono hbA.size)
      obtain ⟨⟨x_kA, y_kA⟩, _, _⟩ := kA.two
      have lt_kA := kA.lt
      obtain ⟨⟨x_kB, y_kB⟩, _, _⟩ := kB.two
      have lt_kB := kB.lt
      obtain ⟨⟨x_kR, y_kR⟩, _, _⟩ := kR.two
      have lt_kR := kR.lt
      obtain ⟨⟨x_kW, y_kW⟩, _, _⟩ := kW.two
      have lt_kW := kW.lt
      obtain ⟨⟨x_kC, y_kC⟩, _, _⟩ := kC.two
      have lt_kC := kC.lt
      have hs_ := hbA.size
      go_wp2_with fail
      clear x_kA y_kA lt_kA x_kB y_kB lt_kB x_kR y_kR lt_kR x_kW y_kW lt_kW x_kC y_kC lt_kC hs_
      replace kA := kA.alloc (.cells #[.int .i64 x1, .int .i64 x2] 26)
      replace kB := kB.alloc (.cells #[.int .i64 x1, .int .i64 x2] 26)
      replace kR := kR.alloc (.cells #[.int .i64 x1, .int .i64 x2] 26)
      replace kW := kW.alloc (.cells #[.int .i64 x1, .int .i64 x2] 26)
      replace kC := kC.alloc (.cells #[.int .i64 x1, .int .i64 x2] 26)
      have kX := Blk.new w4 #[.int .i64 x1, .int .i64 x2] 26
      replace hbA := hbA.alloc hbA.size (.cells #[.int .i64 x1, .int .i64 x2] 26)
      refine (mulR_any _ _ _ _ _).mono ?_
      rw [HY.out]
      rintro e w5 ⟨rfl, hb5⟩
      replace kA := kA.below hb5 kA.lt
      replace kB := kB.below hb5 kB.lt
      replace kR := kR.below hb5 kR.lt
      replace kW := kW.below hb5 kW.lt
      replace kC := kC.below hb5 kC.lt
      replace kX := kX.below hb5 kX.lt
      replace hbA := hbA.trans (hb5.mono hbA.size)
      obtain ⟨⟨x_kA, y_kA⟩, _, _⟩ := kA.two
      have lt_kA := kA.lt
      obtain ⟨⟨x_kB, y_kB⟩, _, _⟩ := kB.two
      have lt_kB := kB.lt
      obtain ⟨⟨x_kR, y_kR⟩, _, _⟩ := kR.two
      have lt_kR := kR.lt
      obtain ⟨⟨x_kW, y_kW⟩, _, _⟩ := kW.two
      have lt_kW := kW.lt
      obtain ⟨⟨x_kC, y_kC⟩, _, _⟩ := kC.two
      have lt_kC := kC.lt
      obtain ⟨⟨x_kX, y_kX⟩, _, _⟩ := kX.two
      have lt_kX := kX.lt
      have hs_ := hbA.size
      go_wp2_with fail
      clear x_kA y_kA lt_kA x_kB y_kB lt_kB x_kR y_kR lt_kR x_kW y_kW lt_kW x_kC y_kC lt_kC x_kX y_kX lt_kX hs_
      replace kA := kA.alloc (.cells #[.int .i64 y1, .int .i64 y2] 26)
      replace kB := kB.alloc (.cells #[.int .i64 y1, .int .i64 y2] 26)
      replace kR := kR.alloc (.cells #[.int .i64 y1, .int .i64 y2] 26)
      replace kW := kW.alloc (.cells #[.int .i64 y1, .int .i64 y2] 26)
      replace kC := kC.alloc (.cells #[.int .i64 y1, .int .i64 y2] 26)
      replace kX := kX.alloc (.cells #[.int .i64 y1, .int .i64 y2] 26)
      have kY := Blk.new w5 #[.int .i64 y1, .int .i64 y2] 26
      replace hbA := hbA.alloc hbA.size (.cells #[.int .i64 y1, .int .i64 y2] 26)
      refine (mulR_any _ _ _ _ _).mono ?_
      rw [HZ.out]
      rintro e w6 ⟨rfl, hb6⟩
      replace kA := kA.below hb6 kA.lt
      replace kB := kB.below hb6 kB.lt
      replace kR := kR.below hb6 kR.lt
      replace kW := kW.below hb6 kW.lt
      replace kC := kC.below hb6 kC.lt
      replace kX := kX.below hb6 kX.lt
      replace kY := kY.below hb6 kY.lt
      replace hbA := hbA.trans (hb6.mono hbA.size)
      obtain ⟨⟨x_kA, y_kA⟩, _, _⟩ := kA.two
      have lt_kA := kA.lt
      obtain ⟨⟨x_kB, y_kB⟩, _, _⟩ := kB.two
      have lt_kB := kB.lt
      obtain ⟨⟨x_kR, y_kR⟩, _, _⟩ := kR.two
      have lt_kR := kR.lt
      obtain ⟨⟨x_kW, y_kW⟩, _, _⟩ := kW.two
      have lt_kW := kW.lt
      obtain ⟨⟨x_kC, y_kC⟩, _, _⟩ := kC.two
      have lt_kC := kC.lt
      obtain ⟨⟨x_kX, y_kX⟩, _, _⟩ := kX.two
      have lt_kX := kX.lt
      obtain ⟨⟨x_kY, y_kY⟩, _, _⟩ := kY.two
      have lt_kY := kY.lt
      have hs_ := hbA.size
      go_wp2_with fail
      clear x_kA y_kA lt_kA x_kB y_kB lt_kB x_kR y_kR lt_kR x_kW y_kW lt_kW x_kC y_kC lt_kC x_kX y_kX lt_kX x_kY y_kY lt_kY hs_
      replace kA := kA.alloc (.cells #[.int .i64 z1, .int .i64 z2] 26)
      replace kB := kB.alloc (.cells #[.int .i64 z1, .int .i64 z2] 26)
      replace kR := kR.alloc (.cells #[.int .i64 z1, .int .i64 z2] 26)
      replace kW := kW.alloc (.cells #[.int .i64 z1, .int .i64 z2] 26)
      replace kC := kC.alloc (.cells #[.int .i64 z1, .int .i64 z2] 26)
      replace kX := kX.alloc (.cells #[.int .i64 z1, .int .i64 z2] 26)
      replace kY := kY.alloc (.cells #[.int .i64 z1, .int .i64 z2] 26)
      have kZ := Blk.new w6 #[.int .i64 z1, .int .i64 z2] 26
      replace hbA := hbA.alloc hbA.size (.cells #[.int .i64 z1, .int .i64 z2] 26)
      refine (addR_any _ _ _ _ _).mono ?_
      rw [HS.out]
      rintro e w7 ⟨rfl, hb7⟩
      replace kA := kA.below hb7 kA.lt
      replace kB := kB.below hb7 kB.lt
      replace kR := kR.below hb7 kR.lt
      replace kW := kW.below hb7 kW.lt
      replace kC := kC.below hb7 kC.lt
      replace kX := kX.below hb7 kX.lt
      replace kY := kY.below hb7 kY.lt
      replace kZ := kZ.below hb7 kZ.lt
      replace hbA := hbA.trans (hb7.mono hbA.size)
      obtain ⟨⟨x_kA, y_kA⟩, _, _⟩ := kA.two
      have lt_kA := kA.lt
      obtain ⟨⟨x_kB, y_kB⟩, _, _⟩ := kB.two
      have lt_kB := kB.lt
      obtain ⟨⟨x_kR, y_kR⟩, _, _⟩ := kR.two
      have lt_kR := kR.lt
      obtain ⟨⟨x_kW, y_kW⟩, _, _⟩ := kW.two
      have lt_kW := kW.lt
      obtain ⟨⟨x_kC, y_kC⟩, _, _⟩ := kC.two
      have lt_kC := kC.lt
      obtain ⟨⟨x_kX, y_kX⟩, _, _⟩ := kX.two
      have lt_kX := kX.lt
      obtain ⟨⟨x_kY, y_kY⟩, _, _⟩ := kY.two
      have lt_kY := kY.lt
      obtain ⟨⟨x_kZ, y_kZ⟩, _, _⟩ := kZ.two
      have lt_kZ := kZ.lt
      have hs_ := hbA.size
      cases r1 with
      | false => (go_wp2_with fail; go_ret; exact ⟨ret_bool (by simp), by first | exact hbA | exact hbA.alloc hs_ _⟩)
      | true =>
        cases r2 with
        | false => (go_wp2_with fail; go_ret; exact ⟨ret_bool (by simp), by first | exact hbA | exact hbA.alloc hs_ _⟩)
        | true =>
          cases r3 with
          | false => (go_wp2_with fail; go_ret; exact ⟨ret_bool (by simp), by first | exact hbA | exact hbA.alloc hs_ _⟩)
          | true =>
            cases r4 with
            | false => (go_wp2_with fail; go_ret; exact ⟨ret_bool (by simp), by first | exact hbA | exact hbA.alloc hs_ _⟩)
            | true =>
              obtain ⟨rfl, rfl⟩ := HE.out rfl rfl rfl rfl
              go_wp2_with fail
              go_ret
              exact ⟨ret_bool (by simp), by first | exact hbA | exact hbA.alloc hs_ _⟩
    · have HV := Lib.hid hV; clear hV
      go_wp2_with fail
      have kA := Blk.new w1 #[.int .i64 a, .int .i64 b] 26
      replace hbA := hbA.alloc hbA.size (.cells #[.int .i64 a, .int .i64 b] 26)
      replace kA := kA.alloc (.cells #[.int .i64 c, .int .i64 d] 26)
      have kB := Blk.new (w1.alloc (.cells #[.int .i64 a, .int .i64 b] 26)) #[.int .i64 c, .int .i64 d] 26
      replace hbA := hbA.alloc hbA.size (.cells #[.int .i64 c, .int .i64 d] 26)
      simp only [World.size_alloc] at kB
      refine (addR_any _ _ _ _ _).mono ?_
      rw [HV.out]
      rintro e w2 ⟨rfl, hb2⟩
      replace kA := kA.below hb2 kA.lt
      replace kB := kB.below hb2 kB.lt
      replace hbA := hbA.trans (hb2.mono hbA.size)
      obtain ⟨⟨x_kA, y_kA⟩, _, _⟩ := kA.two
      have lt_kA := kA.lt
      obtain ⟨⟨x_kB, y_kB⟩, _, _⟩ := kB.two
      have lt_kB := kB.lt
      have hs_ := hbA.size
      go_wp2_with fail
      clear x_kA y_kA lt_kA x_kB y_kB lt_kB hs_
      replace kA := kA.alloc (.cells #[.int .i64 0, .int .i64 0] 26)
      replace kB := kB.alloc (.cells #[.int .i64 0, .int .i64 0] 26)
      have kR := Blk.new w2 #[.int .i64 0, .int .i64 0] 26
      replace hbA := hbA.alloc hbA.size (.cells #[.int .i64 0, .int .i64 0] 26)
      refine (sAddR_any _ _ _ _ _).mono ?_
      rw [HV.out]
      rintro e w3 ⟨rfl, hb3⟩
      replace kA := kA.below hb3 kA.lt
      replace kB := kB.below hb3 kB.lt
      replace kR := kR.below hb3 kR.lt
      replace hbA := hbA.trans (hb3.mono hbA.size)
      obtain ⟨⟨x_kA, y_kA⟩, _, _⟩ := kA.two
      have lt_kA := kA.lt
      obtain ⟨⟨x_kB, y_kB⟩, _, _⟩ := kB.two
      have lt_kB := kB.lt
      obtain ⟨⟨x_kR, y_kR⟩, _, _⟩ := kR.two
      have lt_kR := kR.lt
      have hs_ := hbA.size
      go_wp2_with fail
      go_ret
      exact ⟨ret_bool (by simp), by first | exact hbA | exact hbA.alloc hs_ _⟩
set_option maxHeartbeats 4000000 in
theorem lawCompareAdd (a : Option Addr) (len cap : Nat) (zs : List Int) (w : World) (h : IsRow .u8 w a len cap zs) :
    Calls Try.prog 9 #[.slice a len cap] w fun e w' => e = .returned (.bool true) ∧ Below w.heap.size w w' := by
  have H := Lib.hid h; clear h
  by_cases hl : 1048576 < (len : Int)
  · go_enter Try.func9, Try.ntmps9
    go_wp2_with fail
    go_ret
    exact ⟨rfl, Below.refl _ _⟩
  · have hl' := decide_eq_false hl
    clear hl
    go_enter Try.func9, Try.ntmps9
    go_wp2_with fail
    refine (drawCompare_any _ _ _ _ _ H.out).mono ?_
    rintro e w1 ⟨a, b, c, d, rfl, ⟨a0, a1, b0, b1, c0, c1, d0, d1⟩, hbA⟩
    have hbd := cmp_bd a b c d
    obtain ⟨bd0, bd1⟩ := hbd
    have hne : (cmpV a b c d != cmpV a b c d) = false := by simp
    cases h2 : (cmpV a b c d == 2) with
    | true =>
      go_wp2_with fail
      have kA := Blk.new w1 #[.int .i64 a, .int .i64 b] 26
      replace hbA := hbA.alloc hbA.size (.cells #[.int .i64 a, .int .i64 b] 26)
      replace kA := kA.alloc (.cells #[.int .i64 c, .int .i64 d] 26)
      have kB := Blk.new (w1.alloc (.cells #[.int .i64 a, .int .i64 b] 26)) #[.int .i64 c, .int .i64 d] 26
      replace hbA := hbA.alloc hbA.size (.cells #[.int .i64 c, .int .i64 d] 26)
      simp only [World.size_alloc] at kB
      refine (compare_any _ _ _ _ _).mono ?_
      rintro e w2 ⟨rfl, hb2⟩
      replace kA := kA.below hb2 kA.lt
      replace kB := kB.below hb2 kB.lt
      replace hbA := hbA.trans (hb2.mono hbA.size)
      obtain ⟨⟨x_kA, y_kA⟩, _, _⟩ := kA.two
      have lt_kA := kA.lt
      obtain ⟨⟨x_kB, y_kB⟩, _, _⟩ := kB.two
      have lt_kB := kB.lt
      have hs_ := hbA.size
      go_wp2_with fail
      clear x_kA y_kA lt_kA x_kB y_kB lt_kB hs_
      refine (sCompare_any _ _ _ _ _).mono ?_
      rintro e w3 ⟨rfl, hb3⟩
      replace kA := kA.below hb3 kA.lt
      replace kB := kB.below hb3 kB.lt
      replace hbA := hbA.trans (hb3.mono hbA.size)
      obtain ⟨⟨x_kA, y_kA⟩, _, _⟩ := kA.two
      have lt_kA := kA.lt
      obtain ⟨⟨x_kB, y_kB⟩, _, _⟩ := kB.two
      have lt_kB := kB.lt
      have hs_ := hbA.size
      go_wp2_with fail
      clear x_kA y_kA lt_kA x_kB y_kB lt_kB hs_
      refine (sCompare_any _ _ _ _ _).mono ?_
      rintro e w4 ⟨rfl, hb4⟩
      replace kA := kA.below hb4 kA.lt
      replace kB := kB.below hb4 kB.lt
      replace hbA := hbA.trans (hb4.mono hbA.size)
      obtain ⟨⟨x_kA, y_kA⟩, _, _⟩ := kA.two
      have lt_kA := kA.lt
      obtain ⟨⟨x_kB, y_kB⟩, _, _⟩ := kB.two
      have lt_kB := kB.lt
      have hs_ := hbA.size
      go_wp2_with fail
      go_ret
      exact ⟨ret_bool (by simp), hbA⟩
    | false =>
      obtain ⟨x1, x2, r1, hX⟩ := addRV_form a b 1 1
      obtain ⟨y1, y2, r2, hY⟩ := addRV_form c d 1 1
      have hend : r1 = true → r2 = true → cmpV x1 x2 y1 y2 = cmpV a b c d := by
        rintro rfl rfl
        exact cmp_add hX hY
      have HE := Lib.hid hend
      have HX := Lib.hid hX
      have HY := Lib.hid hY
      clear hX hY hend
      go_wp2_with fail
      have kA := Blk.new w1 #[.int .i64 a, .int .i64 b] 26
      replace hbA := hbA.alloc hbA.size (.cells #[.int .i64 a, .int .i64 b] 26)
      replace kA := kA.alloc (.cells #[.int .i64 c, .int .i64 d] 26)
      have kB := Blk.new (w1.alloc (.cells #[.int .i64 a, .int .i64 b] 26)) #[.int .i64 c, .int .i64 d] 26
      replace hbA := hbA.alloc hbA.size (.cells #[.int .i64 c, .int .i64 d] 26)
      simp only [World.size_alloc] at kB
      refine (compare_any _ _ _ _ _).mono ?_
      rintro e w2 ⟨rfl, hb2⟩
      replace kA := kA.below hb2 kA.lt
      replace kB := kB.below hb2 kB.lt
      replace hbA := hbA.trans (hb2.mono hbA.size)
      obtain ⟨⟨x_kA, y_kA⟩, _, _⟩ := kA.two
      have lt_kA := kA.lt
      obtain ⟨⟨x_kB, y_kB⟩, _, _⟩ := kB.two
      have lt_kB := kB.lt
      have hs_ := hbA.size
      go_wp2_with fail
      clear x_kA y_kA lt_kA x_kB y_kB lt_kB hs_
      refine (sCompare_any _ _ _ _ _).mono ?_
      rintro e w3 ⟨rfl, hb3⟩
      replace kA := kA.below hb3 kA.lt
      replace kB := kB.below hb3 kB.lt
      replace hbA := hbA.trans (hb3.mono hbA.size)
      obtain ⟨⟨x_kA, y_kA⟩, _, _⟩ := kA.two
      have lt_kA := kA.lt
      obtain ⟨⟨x_kB, y_kB⟩, _, _⟩ := kB.two
      have lt_kB := kB.lt
      have hs_ := hbA.size
      go_wp2_with fail
      clear x_kA y_kA lt_kA x_kB y_kB lt_kB hs_
      refine (addR_any _ _ _ _ _).mono ?_
      rw [HX.out]
      rintro e w4 ⟨rfl, hb4⟩
      replace kA := kA.below hb4 kA.lt
      replace kB := kB.below hb4 kB.lt
      replace hbA := hbA.trans (hb4.mono hbA.size)
      obtain ⟨⟨x_kA, y_kA⟩, _, _⟩ := kA.two
      have lt_kA := kA.lt
      obtain ⟨⟨x_kB, y_kB⟩, _, _⟩ := kB.two
      have lt_kB := kB.lt
      have hs_ := hbA.size
      go_wp2_with fail
      clear x_kA y_kA lt_kA x_kB y_kB lt_kB hs_
      replace kA := kA.alloc (.cells #[.int .i64 x1, .int .i64 x2] 26)
      replace kB := kB.alloc (.cells #[.int .i64 x1, .int .i64 x2] 26)
      have kX := Blk.new w4 #[.int .i64 x1, .int .i64 x2] 26
      replace hbA := hbA.alloc hbA.size (.cells #[.int .i64 x1, .int .i64 x2] 26)
      refine (addR_any _ _ _ _ _).mono ?_
      rw [HY.out]
      rintro e w5 ⟨rfl, hb5⟩
      replace kA := kA.below hb5 kA.lt
      replace kB := kB.below hb5 kB.lt
      replace kX := kX.below hb5 kX.lt
      replace hbA := hbA.trans (hb5.mono hbA.size)
      obtain ⟨⟨x_kA, y_kA⟩, _, _⟩ := kA.two
      have lt_kA := kA.lt
      obtain ⟨⟨x_kB, y_kB⟩, _, _⟩ := kB.two
      have lt_kB := kB.lt
      obtain ⟨⟨x_kX, y_kX⟩, _, _⟩ := kX.two
      have lt_kX := kX.lt
      have hs_ := hbA.size
      cases r1 with
      | false => (go_wp2_with fail; go_ret; exact ⟨ret_bool (by simp), hbA.alloc hs_ _⟩)
      | true =>
        cases r2 with
        | false => (go_wp2_with fail; go_ret; exact ⟨ret_bool (by simp), hbA.alloc hs_ _⟩)
        | true =>
          have HF := Lib.hid (HE.out rfl rfl)
          go_wp2_with fail
          replace hbA := hbA.alloc hbA.size (.cells #[.int .i64 y1, .int .i64 y2] 26)
          refine (compare_any _ _ _ _ _).mono ?_
          rw [HF.out]
          rintro e w9 ⟨rfl, hb9⟩
          replace hbA := hbA.trans (hb9.mono hbA.size)
          go_wp2_with fail
          go_ret
          exact ⟨ret_bool (by simp), hbA⟩
end Go.Proofs.Ytejhicnejjiaaaa
