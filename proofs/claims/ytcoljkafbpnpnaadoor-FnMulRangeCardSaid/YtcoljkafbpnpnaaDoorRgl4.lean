/- The walks of the laws of ranges, part 4. -/
import Derived.Test.YtcoljkafbpnpnaaDoorRgl
import Derived.Outline
namespace Go.Proofs.YtcoljkafbpnpnaaDoor
open Go.RowKit
set_option maxHeartbeats 4000000 in
theorem lawMulRange (a : Option Addr) (len cap : Nat) (zs : List Int) (w : World) (h : IsRow .u8 w a len cap zs) (ea : Addr) (hS : Sen ea w) :
    Calls Tryd.prog 4 #[.slice a len cap] w fun e w' => e = .returned (.bool true) ∧ Below w.heap.size w w' := by
  have H := Lib.hid h; clear h
  by_cases hl : 1048576 < (len : Int)
  · go_enter Tryd.func4, Tryd.ntmps4
    go_wp2_with fail
    go_ret
    exact ⟨rfl, Below.refl _ _⟩
  · have hl' := decide_eq_false hl
    clear hl
    go_enter Tryd.func4, Tryd.ntmps4
    go_wp2_with fail
    refine (drawMulR_any _ _ _ _ _ H.out).mono ?_
    rintro e w1 ⟨a, b, c, d, rfl, ⟨a0, a1, b0, b1, c0, c1, d0, d1⟩, hbA⟩
    replace hS := hS.below hbA hS.pos
    rcases good_cases (Rg.good_mul a b c d) with ⟨p, q, hV⟩ | hV
    · have HV := Lib.hid (tv_yes hV)
      have W := Rg.mul_two hV
      obtain ⟨v1, v2, -, -, v3⟩ := W
      obtain ⟨⟨m1, m2, m3, m4⟩, m5, m6, m7, m8⟩ := Rg.mul_has hV
      obtain ⟨n1, n2, n3⟩ := Rg.vr_iff.1 v1
      obtain ⟨n4, n5, n6⟩ := Rg.vr_iff.1 v2
      obtain ⟨n7, n8, n9⟩ := Rg.vr_iff.1 v3
      have HC := Lib.hid (tv_yes ((Rg.mul_comm a b c d).trans hV))
      have HO := Lib.hid (tv_yes (Rg.mul_one v1))
      obtain ⟨q1a, q1b⟩ := Rg.prod_bd (a := a) (b := c) (by omega) (by omega) (by omega) (by omega)
      obtain ⟨q2a, q2b⟩ := Rg.prod_bd (a := a) (b := d) (by omega) (by omega) (by omega) (by omega)
      obtain ⟨q3a, q3b⟩ := Rg.prod_bd (a := b) (b := c) (by omega) (by omega) (by omega) (by omega)
      obtain ⟨q4a, q4b⟩ := Rg.prod_bd (a := b) (b := d) (by omega) (by omega) (by omega) (by omega)
      have l1 : decide (a * c < p * 1000000) = false := decide_eq_false (by omega)
      have l2 : decide (a * d < p * 1000000) = false := decide_eq_false (by omega)
      have l3 : decide (b * c < p * 1000000) = false := decide_eq_false (by omega)
      have l4 : decide (b * d < p * 1000000) = false := decide_eq_false (by omega)
      have l5 : decide (q * 1000000 < a * c) = false := decide_eq_false (by omega)
      have l6 : decide (q * 1000000 < a * d) = false := decide_eq_false (by omega)
      have l7 : decide (q * 1000000 < b * c) = false := decide_eq_false (by omega)
      have l8 : decide (q * 1000000 < b * d) = false := decide_eq_false (by omega)
      clear v1 v2 v3
      clear hV
      go_wp2_with fail
      have kA := Blk.new (w1) #[.int .i64 a, .int .i64 b] 24
      replace hbA := hbA.alloc hbA.size (.cells #[.int .i64 a, .int .i64 b] 24)
      replace hS := hS.alloc (.cells #[.int .i64 a, .int .i64 b] 24)
      replace kA := kA.alloc (.cells #[.int .i64 c, .int .i64 d] 24)
      have kB := Blk.new ((w1).alloc (.cells #[.int .i64 a, .int .i64 b] 24)) #[.int .i64 c, .int .i64 d] 24
      replace hbA := hbA.alloc hbA.size (.cells #[.int .i64 c, .int .i64 d] 24)
      replace hS := hS.alloc (.cells #[.int .i64 c, .int .i64 d] 24)
      simp only [World.size_alloc] at kB
      refine (mulRange_any ea _ _ _ _ _ hS).mono ?_
      rw [HV.out]
      rintro e w2 ⟨rfl, hb2⟩
      replace kA := kA.below hb2 kA.lt
      replace kB := kB.below hb2 kB.lt
      replace hS := hS.below hb2 hS.pos
      replace hbA := hbA.trans (hb2.mono hbA.size)
      obtain ⟨⟨x_kA, y_kA⟩, _, _⟩ := kA.two
      have lt_kA := kA.lt
      obtain ⟨⟨x_kB, y_kB⟩, _, _⟩ := kB.two
      have lt_kB := kB.lt
      have hs_ := hbA.size
      go_wp2_with fail
      clear x_kA y_kA lt_kA x_kB y_kB lt_kB hs_
      replace kA := kA.alloc (.cells #[.int .i64 p, .int .i64 q] 24)
      replace kB := kB.alloc (.cells #[.int .i64 p, .int .i64 q] 24)
      have kR := Blk.new (w2) #[.int .i64 p, .int .i64 q] 24
      replace hbA := hbA.alloc hbA.size (.cells #[.int .i64 p, .int .i64 q] 24)
      replace hS := hS.alloc (.cells #[.int .i64 p, .int .i64 q] 24)
      refine (sMulRange_any _ _ _ _ _).mono ?_
      rw [HV.out]
      rintro e w3 ⟨rfl, hb3⟩
      replace kA := kA.below hb3 kA.lt
      replace kB := kB.below hb3 kB.lt
      replace kR := kR.below hb3 kR.lt
      replace hS := hS.below hb3 hS.pos
      replace hbA := hbA.trans (hb3.mono hbA.size)
      obtain ⟨⟨x_kA, y_kA⟩, _, _⟩ := kA.two
      have lt_kA := kA.lt
      obtain ⟨⟨x_kB, y_kB⟩, _, _⟩ := kB.two
      have lt_kB := kB.lt
      obtain ⟨⟨x_kR, y_kR⟩, _, _⟩ := kR.two
      have lt_kR := kR.lt
      have hs_ := hbA.size
      go_wp2_with fail
      clear x_kA y_kA lt_kA x_kB y_kB lt_kB x_kR y_kR lt_kR hs_
      replace kA := kA.alloc (.cells #[.int .i64 p, .int .i64 q] 24)
      replace kB := kB.alloc (.cells #[.int .i64 p, .int .i64 q] 24)
      replace kR := kR.alloc (.cells #[.int .i64 p, .int .i64 q] 24)
      have kW := Blk.new (w3) #[.int .i64 p, .int .i64 q] 24
      replace hbA := hbA.alloc hbA.size (.cells #[.int .i64 p, .int .i64 q] 24)
      replace hS := hS.alloc (.cells #[.int .i64 p, .int .i64 q] 24)
      refine (mulRange_any ea _ _ _ _ _ hS).mono ?_
      rw [HC.out]
      rintro e w4 ⟨rfl, hb4⟩
      replace kA := kA.below hb4 kA.lt
      replace kB := kB.below hb4 kB.lt
      replace kR := kR.below hb4 kR.lt
      replace kW := kW.below hb4 kW.lt
      replace hS := hS.below hb4 hS.pos
      replace hbA := hbA.trans (hb4.mono hbA.size)
      obtain ⟨⟨x_kA, y_kA⟩, _, _⟩ := kA.two
      have lt_kA := kA.lt
      obtain ⟨⟨x_kB, y_kB⟩, _, _⟩ := kB.two
      have lt_kB := kB.lt
      obtain ⟨⟨x_kR, y_kR⟩, _, _⟩ := kR.two
      have lt_kR := kR.lt
      obtain ⟨⟨x_kW, y_kW⟩, _, _⟩ := kW.two
      have lt_kW := kW.lt
      have hs_ := hbA.size
      go_wp2_with fail
      refine wp_loop_rounds 5 ?_
      rw [rounds_succ]
      go_wp2_with fail
      go_quiet (fail)
      go_wp2_with fail
      rw [rounds_succ]
      go_wp2_with fail
      go_quiet (fail)
      go_wp2_with fail
      rw [rounds_succ]
      go_wp2_with fail
      go_quiet (fail)
      go_wp2_with fail
      rw [rounds_succ]
      go_wp2_with fail
      go_quiet (fail)
      go_wp2_with fail
      rw [rounds_succ]
      go_wp2_with fail
      clear x_kA y_kA lt_kA x_kB y_kB lt_kB x_kR y_kR lt_kR x_kW y_kW lt_kW hs_
      replace kA := kA.alloc (.cells #[.int .i64 p, .int .i64 q] 24)
      replace kB := kB.alloc (.cells #[.int .i64 p, .int .i64 q] 24)
      replace kR := kR.alloc (.cells #[.int .i64 p, .int .i64 q] 24)
      replace kW := kW.alloc (.cells #[.int .i64 p, .int .i64 q] 24)
      have kO := Blk.new (w4) #[.int .i64 p, .int .i64 q] 24
      replace hbA := hbA.alloc hbA.size (.cells #[.int .i64 p, .int .i64 q] 24)
      replace hS := hS.alloc (.cells #[.int .i64 p, .int .i64 q] 24)
      replace kA := kA.alloc (.cells #[.int .i64 (a * c), .int .i64 (a * d), .int .i64 (b * c), .int .i64 (b * d)] 3)
      replace kB := kB.alloc (.cells #[.int .i64 (a * c), .int .i64 (a * d), .int .i64 (b * c), .int .i64 (b * d)] 3)
      replace kR := kR.alloc (.cells #[.int .i64 (a * c), .int .i64 (a * d), .int .i64 (b * c), .int .i64 (b * d)] 3)
      replace kW := kW.alloc (.cells #[.int .i64 (a * c), .int .i64 (a * d), .int .i64 (b * c), .int .i64 (b * d)] 3)
      replace kO := kO.alloc (.cells #[.int .i64 (a * c), .int .i64 (a * d), .int .i64 (b * c), .int .i64 (b * d)] 3)
      replace hbA := hbA.alloc hbA.size (.cells #[.int .i64 (a * c), .int .i64 (a * d), .int .i64 (b * c), .int .i64 (b * d)] 3)
      replace hS := hS.alloc (.cells #[.int .i64 (a * c), .int .i64 (a * d), .int .i64 (b * c), .int .i64 (b * d)] 3)
      refine (mulRange_any ea a b 1000000 1000000 _ (by exact hS)).mono ?_
      rw [HO.out]
      rintro e w5 ⟨rfl, hb5⟩
      replace kA := kA.after hb5 rfl kA.lt
      replace kB := kB.after hb5 rfl kB.lt
      replace kR := kR.after hb5 rfl kR.lt
      replace kW := kW.after hb5 rfl kW.lt
      replace kO := kO.after hb5 rfl kO.lt
      have hbN : Below w.heap.size w w5 := by
        refine Below.trans ?_ (hb5.mono hbA.size)
        exact ⟨hbA.os, hbA.tape, hbA.output, hbA.size, hbA.block⟩
      replace hbA := hbN
      obtain ⟨⟨x_kA, y_kA⟩, _, _⟩ := kA.two
      have lt_kA := kA.lt
      obtain ⟨⟨x_kB, y_kB⟩, _, _⟩ := kB.two
      have lt_kB := kB.lt
      obtain ⟨⟨x_kR, y_kR⟩, _, _⟩ := kR.two
      have lt_kR := kR.lt
      obtain ⟨⟨x_kW, y_kW⟩, _, _⟩ := kW.two
      have lt_kW := kW.lt
      obtain ⟨⟨x_kO, y_kO⟩, _, _⟩ := kO.two
      have lt_kO := kO.lt
      have hs_ := hbA.size
      go_wp2_with fail
      go_ret
      exact ⟨ret_bool (by simp), by first | exact hbA | exact hbA.alloc hs_ _⟩
    · have HV := Lib.hid hV
      go_wp2_with fail
      have kA := Blk.new (w1) #[.int .i64 a, .int .i64 b] 24
      replace hbA := hbA.alloc hbA.size (.cells #[.int .i64 a, .int .i64 b] 24)
      replace hS := hS.alloc (.cells #[.int .i64 a, .int .i64 b] 24)
      replace kA := kA.alloc (.cells #[.int .i64 c, .int .i64 d] 24)
      have kB := Blk.new ((w1).alloc (.cells #[.int .i64 a, .int .i64 b] 24)) #[.int .i64 c, .int .i64 d] 24
      replace hbA := hbA.alloc hbA.size (.cells #[.int .i64 c, .int .i64 d] 24)
      replace hS := hS.alloc (.cells #[.int .i64 c, .int .i64 d] 24)
      simp only [World.size_alloc] at kB
      refine (mulRange_any ea _ _ _ _ _ hS).mono ?_
      rw [tv_no hV]
      rintro e w2 ⟨rfl, hb2⟩
      replace kA := kA.below hb2 kA.lt
      replace kB := kB.below hb2 kB.lt
      replace hS := hS.below hb2 hS.pos
      replace hbA := hbA.trans (hb2.mono hbA.size)
      obtain ⟨⟨x_kA, y_kA⟩, _, _⟩ := kA.two
      have lt_kA := kA.lt
      obtain ⟨⟨x_kB, y_kB⟩, _, _⟩ := kB.two
      have lt_kB := kB.lt
      have hs_ := hbA.size
      go_wp2_with fail
      clear x_kA y_kA lt_kA x_kB y_kB lt_kB hs_
      replace kA := kA.alloc (.cells #[.int .i64 0, .int .i64 0] 24)
      replace kB := kB.alloc (.cells #[.int .i64 0, .int .i64 0] 24)
      have kR := Blk.new (w2) #[.int .i64 0, .int .i64 0] 24
      replace hbA := hbA.alloc hbA.size (.cells #[.int .i64 0, .int .i64 0] 24)
      replace hS := hS.alloc (.cells #[.int .i64 0, .int .i64 0] 24)
      refine (sMulRange_any _ _ _ _ _).mono ?_
      rw [tv_no hV]
      rintro e w3 ⟨rfl, hb3⟩
      replace kA := kA.below hb3 kA.lt
      replace kB := kB.below hb3 kB.lt
      replace kR := kR.below hb3 kR.lt
      replace hS := hS.below hb3 hS.pos
      replace hbA := hbA.trans (hb3.mono hbA.size)
      obtain ⟨⟨x_kA, y_kA⟩, _, _⟩ := kA.two
      have lt_kA := kA.lt
      obtain ⟨⟨x_kB, y_kB⟩, _, _⟩ := kB.two
      have lt_kB := kB.lt
      obtain ⟨⟨x_kR, y_kR⟩, _, _⟩ := kR.two
      have lt_kR := kR.lt
      have hs_ := hbA.size
      go_wp2_with fail
      go_ret
      exact ⟨ret_bool (by simp), by first | exact hbA | exact hbA.alloc hs_ _⟩
end Go.Proofs.YtcoljkafbpnpnaaDoor
