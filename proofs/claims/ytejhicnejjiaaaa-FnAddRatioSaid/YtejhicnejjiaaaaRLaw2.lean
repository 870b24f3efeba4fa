/- The walks of the laws of sums and products. -/
import Derived.Test.YtejhicnejjiaaaaRLaw1
import Derived.Test.YtejhicnejjiaaaaRMath
namespace Go.Proofs.Ytejhicnejjiaaaa
open Go.RowKit
set_option maxHeartbeats 4000000 in
theorem lawAddRatio (a : Option Addr) (len cap : Nat) (zs : List Int) (w : World) (h : IsRow .u8 w a len cap zs) :
    Calls Try.prog 4 #[.slice a len cap] w fun e w' => e = .returned (.bool true) ∧ Below w.heap.size w w' := by
  have H := Lib.hid h; clear h
  by_cases hl : 1048576 < (len : Int)
  · go_enter Try.func4, Try.ntmps4
    go_wp2_with fail
    go_ret
    exact ⟨rfl, Below.refl _ _⟩
  · have hl' := decide_eq_false hl
    clear hl
    go_enter Try.func4, Try.ntmps4
    go_wp2_with fail
    refine (drawAdd_any _ _ _ _ _ H.out).mono ?_
    rintro e w1 ⟨a, b, c, d, rfl, ⟨a0, a1, b0, b1, c0, c1, d0, d1⟩, hbA⟩
    rcases addRV_cases a b c d with ⟨p, q, hV, v1, v2, v3, hx⟩ | hV
    · have HV := Lib.hid hV; clear hV
      have HX := Lib.hid hx; clear hx
      have W1 := vrB_iff.1 v1
      have W2 := vrB_iff.1 v2
      have W3 := vrB_iff.1 v3
      obtain ⟨n1, n2, n3, n4, _⟩ := W1
      obtain ⟨n5, n6, n7, n8, _⟩ := W2
      obtain ⟨n9, n10, n11, n12, _⟩ := W3
      have HB := Lib.hid (add_back v1 v2 v3 HX.out)
      have HC := Lib.hid ((addRV_comm a b c d).trans HV.out)
      clear v1 v2 v3
      go_wp2_with fail
      have kA := Blk.new w1 #[.int .i64 a, .int .i64 b] 26
      replace hbA := hbA.alloc hbA.size (.cells #[.int .i64 a, .int .i64 b] 26)
      replace kA := kA.alloc (.cells #[.int .i64 c, .int .i64 d] 26)
      have kB := Blk.new (w1.alloc (.cells #[.int .i64 a, .int .i64 b] 26)) #[.int .i64 c, .int .i64 d] 26
      replace hbA := hbA.alloc hbA.size (.cells #[.int .i64 c, .int .i64 d] 26)
      simp only [World.size_alloc] at kB
      refine (addR_any _ _ _ _ _).mono ?_
      rw [HV.out]
      rintro e w2 ⟨rfl, hb2⟩
      replace kA := kA.below hb2 kA.lt
      replace kB := kB.below hb2 kB.lt
      replace hbA := hbA.trans (hb2.mono hbA.size)
      obtain ⟨⟨x_kA, y_kA⟩, _, _⟩ := kA.two
      have lt_kA := kA.lt
      obtain ⟨⟨x_kB, y_kB⟩, _, _⟩ := kB.two
      have lt_kB := kB.lt
      have hs_ := hbA.size
      go_wp2_with fail
      clear x_kA y_kA lt_kA x_kB y_kB lt_kB hs_
      replace kA := kA.alloc (.cells #[.int .i64 p, .int .i64 q] 26)
      replace kB := kB.alloc (.cells #[.int .i64 p, .int .i64 q] 26)
      have kR := Blk.new w2 #[.int .i64 p, .int .i64 q] 26
      replace hbA := hbA.alloc hbA.size (.cells #[.int .i64 p, .int .i64 q] 26)
      refine (sAddR_any _ _ _ _ _).mono ?_
      rw [HV.out]
      rintro e w3 ⟨rfl, hb3⟩
      replace kA := kA.below hb3 kA.lt
      replace kB := kB.below hb3 kB.lt
      replace kR := kR.below hb3 kR.lt
      replace hbA := hbA.trans (hb3.mono hbA.size)
      obtain ⟨⟨x_kA, y_kA⟩, _, _⟩ := kA.two
      have lt_kA := kA.lt
      obtain ⟨⟨x_kB, y_kB⟩, _, _⟩ := kB.two
      have lt_kB := kB.lt
      obtain ⟨⟨x_kR, y_kR⟩, _, _⟩ := kR.two
      have lt_kR := kR.lt
      have hs_ := hbA.size
      go_wp2_with fail
      clear x_kA y_kA lt_kA x_kB y_kB lt_kB x_kR y_kR lt_kR hs_
      replace kA := kA.alloc (.cells #[.int .i64 p, .int .i64 q] 26)
      replace kB := kB.alloc (.cells #[.int .i64 p, .int .i64 q] 26)
      replace kR := kR.alloc (.cells #[.int .i64 p, .int .i64 q] 26)
      have kW := Blk.new w3 #[.int .i64 p, .int .i64 q] 26
      replace hbA := hbA.alloc hbA.size (.cells #[.int .i64 p, .int .i64 q] 26)
      refine (addR_any _ _ _ _ _).mono ?_
      rw [HC.out]
      rintro e w4 ⟨rfl, hb4⟩
      replace kA := kA.below hb4 kA.lt
      replace kB := kB.below hb4 kB.lt
      replace kR := kR.below hb4 kR.lt
      replace kW := kW.below hb4 kW.lt
      replace hbA := hbA.trans (hb4.mono hbA.size)
      obtain ⟨⟨x_kA, y_kA⟩, _, _⟩ := kA.two
      have lt_kA := kA.lt
      obtain ⟨⟨x_kB, y_kB⟩, _, _⟩ := kB.two
      have lt_kB := kB.lt
      obtain ⟨⟨x_kR, y_kR⟩, _, _⟩ := kR.two
      have lt_kR := kR.lt
      obtain ⟨⟨x_kW, y_kW⟩, _, _⟩ := kW.two
      have lt_kW := kW.lt
      have hs_ := hbA.size
      go_wp2_with fail
      clear x_kA y_kA lt_kA x_kB y_kB lt_kB x_kR y_kR lt_kR x_kW y_kW lt_kW hs_
      replace kA := kA.alloc (.cells #[.int .i64 p, .int .i64 q] 26)
      replace kB := kB.alloc (.cells #[.int .i64 p, .int .i64 q] 26)
      replace kR := kR.alloc (.cells #[.int .i64 p, .int .i64 q] 26)
      replace kW := kW.alloc (.cells #[.int .i64 p, .int .i64 q] 26)
      have kO := Blk.new w4 #[.int .i64 p, .int .i64 q] 26
      replace hbA := hbA.alloc hbA.size (.cells #[.int .i64 p, .int .i64 q] 26)
      refine (addR_any _ _ _ _ _).mono ?_
      rw [HB.out]
      rintro e w5 ⟨rfl, hb5⟩
      replace kA := kA.below hb5 kA.lt
      replace kB := kB.below hb5 kB.lt
      replace kR := kR.below hb5 kR.lt
      replace kW := kW.below hb5 kW.lt
      replace kO := kO.below hb5 kO.lt
      replace hbA := hbA.trans (hb5.mono hbA.size)
      obtain ⟨⟨x_kA, y_kA⟩, _, _⟩ := kA.two
      have lt_kA := kA.lt
      obtain ⟨⟨x_kB, y_kB⟩, _, _⟩ := kB.two
      have lt_kB := kB.lt
      obtain ⟨⟨x_kR, y_kR⟩, _, _⟩ := kR.two
      have lt_kR := kR.lt
      obtain ⟨⟨x_kW, y_kW⟩, _, _⟩ := kW.two
      have lt_kW := kW.lt
      obtain ⟨⟨x_kO, y_kO⟩, _, _⟩ := kO.two
      have lt_kO := kO.lt
      have hs_ := hbA.size
      go_wp2_with fail
      go_ret
      exact ⟨ret_bool (by simp), by first | exact hbA | exact hbA.alloc hs_ _⟩
    · have HV := Lib.hid hV; clear hV
      go_wp2_with fail
      have kA := Blk.new w1 #[.int .i64 a, .int .i64 b] 26
      replace hbA := hbA.alloc hbA.size (.cells #[.int .i64 a, .int .i64 b] 26)
      replace kA := kA.alloc (.cells #[.int .i64 c, .int .i64 d] 26)
      have kB := Blk.new (w1.alloc (.cells #[.int .i64 a, .int .i64 b] 26)) #[.int .i64 c, .int .i64 d] 26
      replace hbA := hbA.alloc hbA.size (.cells #[.int .i64 c, .int .i64 d] 26)
      simp only [World.size_alloc] at kB
      refine (addR_any _ _ _ _ _).mono ?_
      rw [HV.out]
      rintro e w2 ⟨rfl, hb2⟩
      replace kA := kA.below hb2 kA.lt
      replace kB := kB.below hb2 kB.lt
      replace hbA := hbA.trans (hb2.mono hbA.size)
      obtain ⟨⟨x_kA, y_kA⟩, _, _⟩ := kA.two
      have lt_kA := kA.lt
      obtain ⟨⟨x_kB, y_kB⟩, _, _⟩ := kB.two
      have lt_kB := kB.lt
      have hs_ := hbA.size
      go_wp2_with fail
      clear x_kA y_kA lt_kA x_kB y_kB lt_kB hs_
      replace kA := kA.alloc (.cells #[.int .i64 0, .int .i64 0] 26)
      replace kB := kB.alloc (.cells #[.int .i64 0, .int .i64 0] 26)
      have kR := Blk.new w2 #[.int .i64 0, .int .i64 0] 26
      replace hbA := hbA.alloc hbA.size (.cells #[.int .i64 0, .int .i64 0] 26)
      refine (sAddR_any _ _ _ _ _).mono ?_
      rw [HV.out]
      rintro e w3 ⟨rfl, hb3⟩
      replace kA := kA.below hb3 kA.lt
      replace kB := kB.below hb3 kB.lt
      replace kR := kR.below hb3 kR.lt
      replace hbA := hbA.trans (hb3.mono hbA.size)
      obtain ⟨⟨x_kA, y_kA⟩, _, _⟩ := kA.two
      have lt_kA := kA.lt
      obtain ⟨⟨x_kB, y_kB⟩, _, _⟩ := kB.two
      have lt_kB := kB.lt
      obtain ⟨⟨x_kR, y_kR⟩, _, _⟩ := kR.two
      have lt_kR := kR.lt
      have hs_ := hbA.size
      go_wp2_with fail
      go_ret
      exact ⟨ret_bool (by simp), by first | exact hbA | exact hbA.alloc hs_ _⟩
set_option maxHeartbeats 4000000 in
theorem lawMulRatio (a : Option Addr) (len cap : Nat) (zs : List Int) (w : World) (h : IsRow .u8 w a len cap zs) :
    Calls Try.prog 5 #[.slice a len cap] w fun e w' => e = .returned (.bool true) ∧ Below w.heap.size w w' := by
  have H := Lib.hid h; clear h
  by_cases hl : 1048576 < (len : Int)
  · go_enter Try.func5, Try.ntmps5
    go_wp2_with fail
    go_ret
    exact ⟨rfl, Below.refl _ _⟩
  · have hl' := decide_eq_false hl
    clear hl
    go_enter Try.func5, Try.ntmps5
    go_wp2_with fail
    refine (drawMul_any _ _ _ _ _ H.out).mono ?_
    rintro e w1 ⟨a, b, c, d, rfl, ⟨a0, a1, b0, b1, c0, c1, d0, d1⟩, hbA⟩
    rcases mulRV_cases a b c d with ⟨p, q, hV, v1, v2, v3, hx⟩ | hV
    · have HV := Lib.hid hV; clear hV
      have HX := Lib.hid hx; clear hx
      have W1 := vrB_iff.1 v1
      have W2 := vrB_iff.1 v2
      have W3 := vrB_iff.1 v3
      obtain ⟨n1, n2, n3, n4, _⟩ := W1
      obtain ⟨n5, n6, n7, n8, _⟩ := W2
      obtain ⟨n9, n10, n11, n12, _⟩ := W3
      have HB := Lib.hid (mul_one' v1)
      have HC := Lib.hid ((mulRV_comm a b c d).trans HV.out)
      have hcr := mul_cross HX.out
      have m1 := mul_bd (a := p) (b := b) (A := 2000000) (B := 2000000) (by omega) (by omega) (by omega) (by omega)
      have m2 := mul_bd (a := p * b) (b := d) (A := 4000000000000) (B := 2000000) (by omega) (by omega) (by omega) (by omega)
      have m3 := mul_bd (a := a) (b := c) (A := 2000000) (B := 2000000) (by omega) (by omega) (by omega) (by omega)
      have m4 := mul_bd (a := a * c) (b := q) (A := 4000000000000) (B := 2000000) (by omega) (by omega) (by omega) (by omega)
      obtain ⟨m1a, m1b⟩ := m1
      obtain ⟨m2a, m2b⟩ := m2
      obtain ⟨m3a, m3b⟩ := m3
      obtain ⟨m4a, m4b⟩ := m4
      have hxx : (p * b * d == a * c * q) = true := by rw [hcr]; simp
      clear v1 v2 v3 hcr
      go_wp2_with fail
      have kA := Blk.new w1 #[.int .i64 a, .int .i64 b] 26
      replace hbA := hbA.alloc hbA.size (.cells #[.int .i64 a, .int .i64 b] 26)
      replace kA := kA.alloc (.cells #[.int .i64 c, .int .i64 d] 26)
      have kB := Blk.new (w1.alloc (.cells #[.int .i64 a, .int .i64 b] 26)) #[.int .i64 c, .int .i64 d] 26
      replace hbA := hbA.alloc hbA.size (.cells #[.int .i64 c, .int .i64 d] 26)
      simp only [World.size_alloc] at kB
      refine (mulR_any _ _ _ _ _).mono ?_
      rw [HV.out]
      rintro e w2 ⟨rfl, hb2⟩
      replace kA := kA.below hb2 kA.lt
      replace kB := kB.below hb2 kB.lt
      replace hbA := hbA.trans (hb2.mono hbA.size)
      obtain ⟨⟨x_kA, y_kA⟩, _, _⟩ := kA.two
      have lt_kA := kA.lt
      obtain ⟨⟨x_kB, y_kB⟩, _, _⟩ := kB.two
      have lt_kB := kB.lt
      have hs_ := hbA.size
      go_wp2_with fail
      clear x_kA y_kA lt_kA x_kB y_kB lt_kB hs_
      replace kA := kA.alloc (.cells #[.int .i64 p, .int .i64 q] 26)
      replace kB := kB.alloc (.cells #[.int .i64 p, .int .i64 q] 26)
      have kR := Blk.new w2 #[.int .i64 p, .int .i64 q] 26
      replace hbA := hbA.alloc hbA.size (.cells #[.int .i64 p, .int .i64 q] 26)
      refine (sMulR_any _ _ _ _ _).mono ?_
      rw [HV.out]
      rintro e w3 ⟨rfl, hb3⟩
      replace kA := kA.below hb3 kA.lt
      replace kB := kB.below hb3 kB.lt
      replace kR := kR.below hb3 kR.lt
      replace hbA := hbA.trans (hb3.mono hbA.size)
      obtain ⟨⟨x_kA, y_kA⟩, _, _⟩ := kA.two
      have lt_kA := kA.lt
      obtain ⟨⟨x_kB, y_kB⟩, _, _⟩ := kB.two
      have lt_kB := kB.lt
      obtain ⟨⟨x_kR, y_kR⟩, _, _⟩ := kR.two
      have lt_kR := kR.lt
      have hs_ := hbA.size
      go_wp2_with fail
      clear x_kA y_kA lt_kA x_kB y_kB lt_kB x_kR y_kR lt_kR hs_
      replace kA := kA.alloc (.cells #[.int .i64 p, .int .i64 q] 26)
      replace kB := kB.alloc (.cells #[.int .i64 p, .int .i64 q] 26)
      replace kR := kR.alloc (.cells #[.int .i64 p, .int .i64 q] 26)
      have kW := Blk.new w3 #[.int .i64 p, .int .i64 q] 26
      replace hbA := hbA.alloc hbA.size (.cells #[.int .i64 p, .int .i64 q] 26)
      refine (mulR_any _ _ _ _ _).mono ?_
      rw [HC.out]
      rintro e w4 ⟨rfl, hb4⟩
      replace kA := kA.below hb4 kA.lt
      replace kB := kB.below hb4 kB.lt
      replace kR := kR.below hb4 kR.lt
      replace kW := kW.below hb4 kW.lt
      replace hbA := hbA.trans (hb4.mono hbA.size)
      obtain ⟨⟨x_kA, y_kA⟩, _, _⟩ := kA.two
      have lt_kA := kA.lt
      obtain ⟨⟨x_kB, y_kB⟩, _, _⟩ := kB.two
      have lt_kB := kB.lt
      obtain ⟨⟨x_kR, y_kR⟩, _, _⟩ := kR.two
      have lt_kR := kR.lt
      obtain ⟨⟨x_kW, y_kW⟩, _, _⟩ := kW.two
      have lt_kW := kW.lt
      have hs_ := hbA.size
      go_wp2_with fail
      clear x_kA y_kA lt_kA x_kB y_kB lt_kB x_kR y_kR lt_kR x_kW y_kW lt_kW hs_
      replace kA := kA.alloc (.cells #[.int .i64 p, .int .i64 q] 26)
      replace kB := kB.alloc (.cells #[.int .i64 p, .int .i64 q] 26)
      replace kR := kR.alloc (.cells #[.int .i64 p, .int .i64 q] 26)
      replace kW := kW.alloc (.cells #[.int .i64 p, .int .i64 q] 26)
      have kO := Blk.new w4 #[.int .i64 p, .int .i64 q] 26
      replace hbA := hbA.alloc hbA.size (.cells #[.int .i64 p, .int .i64 q] 26)
      refine (mulR_any _ _ _ _ _).mono ?_
      rw [HB.out]
      rintro e w5 ⟨rfl, hb5⟩
      replace kA := kA.below hb5 kA.lt
      replace kB := kB.below hb5 kB.lt
      replace kR := kR.below hb5 kR.lt
      replace kW := kW.below hb5 kW.lt
      replace kO := kO.below hb5 kO.lt
      replace hbA := hbA.trans (hb5.mono hbA.size)
      obtain ⟨⟨x_kA, y_kA⟩, _, _⟩ := kA.two
      have lt_kA := kA.lt
      obtain ⟨⟨x_kB, y_kB⟩, _, _⟩ := kB.two
      have lt_kB := kB.lt
      obtain ⟨⟨x_kR, y_kR⟩, _, _⟩ := kR.two
      have lt_kR := kR.lt
      obtain ⟨⟨x_kW, y_kW⟩, _, _⟩ := kW.two
      have lt_kW := kW.lt
      obtain ⟨⟨x_kO, y_kO⟩, _, _⟩ := kO.two
      have lt_kO := kO.lt
      have hs_ := hbA.size
      go_wp2_with fail
      go_ret
      exact ⟨ret_bool (by simp), by first | exact hbA | exact hbA.alloc hs_ _⟩
    · have HV := Lib.hid hV; clear hV
      go_wp2_with fail
      have kA := Blk.new w1 #[.int .i64 a, .int .i64 b] 26
      replace hbA := hbA.alloc hbA.size (.cells #[.int .i64 a, .int .i64 b] 26)
      replace kA := kA.alloc (.cells #[.int .i64 c, .int .i64 d] 26)
      have kB := Blk.new (w1.alloc (.cells #[.int .i64 a, .int .i64 b] 26)) #[.int .i64 c, .int .i64 d] 26
      replace hbA := hbA.alloc hbA.size (.cells #[.int .i64 c, .int .i64 d] 26)
      simp only [World.size_alloc] at kB
      refine (mulR_any _ _ _ _ _).mono ?_
      rw [HV.out]
      rintro e w2 ⟨rfl, hb2⟩
      replace kA := kA.below hb2 kA.lt
      replace kB := kB.below hb2 kB.lt
      replace hbA := hbA.trans (hb2.mono hbA.size)
      obtain ⟨⟨x_kA, y_kA⟩, _, _⟩ := kA.two
      have lt_kA := kA.lt
      obtain ⟨⟨x_kB, y_kB⟩, _, _⟩ := kB.two
      have lt_kB := kB.lt
      have hs_ := hbA.size
      go_wp2_with fail
      clear x_kA y_kA lt_kA x_kB y_kB lt_kB hs_
      replace kA := kA.alloc (.cells #[.int .i64 0, .int .i64 0] 26)
      replace kB := kB.alloc (.cells #[.int .i64 0, .int .i64 0] 26)
      have kR := Blk.new w2 #[.int .i64 0, .int .i64 0] 26
      replace hbA := hbA.alloc hbA.size (.cells #[.int .i64 0, .int .i64 0] 26)
      refine (sMulR_any _ _ _ _ _).mono ?_
      rw [HV.out]
      rintro e w3 ⟨rfl, hb3⟩
      replace kA := kA.below hb3 kA.lt
      replace kB := kB.below hb3 kB.lt
      replace kR := kR.below hb3 kR.lt
      replace hbA := hbA.trans (hb3.mono hbA.size)
      obtain ⟨⟨x_kA, y_kA⟩, _, _⟩ := kA.two
      have lt_kA := kA.lt
      obtain ⟨⟨x_kB, y_kB⟩, _, _⟩ := kB.two
      have lt_kB := kB.lt
      obtain ⟨⟨x_kR, y_kR⟩, _, _⟩ := kR.two
      have lt_kR := kR.lt
      have hs_ := hbA.size
      go_wp2_with fail
      go_ret
      exact ⟨ret_bool (by simp), by first | exact hbA | exact hbA.alloc hs_ _⟩
end Go.Proofs.Ytejhicnejjiaaaa
