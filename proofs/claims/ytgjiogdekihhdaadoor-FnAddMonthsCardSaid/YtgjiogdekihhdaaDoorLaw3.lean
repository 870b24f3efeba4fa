/- The walks of the laws of adding months. -/
import Derived.Test.YtgjiogdekihhdaaDoorDraw3
import Derived.Test.YtgjiogdekihhdaaDoorMath1
import Derived.Deep.RegionHeld3
namespace Go.Proofs.YtgjiogdekihhdaaDoor
open Go.RowKit
set_option maxHeartbeats 400000 in
theorem lawAddMonthsOrder (a : Option Addr) (len cap : Nat) (zs : List Int) (w : World) (h : IsRow .u8 w a len cap zs) (hT : Tab w) :
    Calls Tryd.prog 8 #[.slice a len cap] w fun e w' => e = .returned (.bool true) ∧ Below w.heap.size w w' := by
  have H := Lib.hid h; clear h
  have HT := Lib.hid hT; clear hT
  by_cases hl : 1048576 < (len : Int)
  · go_enter Tryd.func8, Tryd.ntmps8
    go_wp2_with fail
    go_ret
    exact ⟨rfl, Below.refl _ _⟩
  · have hl' := decide_eq_false hl
    clear hl
    go_enter Tryd.func8, Tryd.ntmps8
    go_wp2_with fail
    refine (drawAddMonths_any _ _ _ _ _ H.out).mono ?_
    rintro e w1 ⟨n, k, rfl, ⟨n0, n1, k0, k1⟩, hb1⟩
    have HT1 := Lib.hid (HT.out.below hb1 HT.out.pos)
    have hbd := addV_bd n k
    obtain ⟨bd0, bd1⟩ := hbd
    have hne : (addV n k != addV n k) = false := by simp
    go_wp2_with fail
    refine (addMonths_any _ _ _ HT1.out).mono ?_
    rintro e w2 ⟨rfl, hb2⟩
    have HT2 := Lib.hid (HT1.out.below hb2 HT1.out.pos)
    have hbA := hb1.trans (hb2.mono hb1.size)
    go_wp2_with fail
    refine (sAddMonths_top _ _ _).mono ?_
    rintro e w3 ⟨rfl, hb3⟩
    have HT3 := Lib.hid (HT2.out.below hb3 HT2.out.pos)
    replace hbA := hbA.trans (hb3.mono hbA.size)
    by_cases c1 : addV n k < 0
    · go_wp2_with fail
      refine (sAddMonths_top _ _ _).mono ?_
      rintro e w4 ⟨rfl, hb4⟩
      replace hbA := hbA.trans (hb4.mono hbA.size)
      go_wp2_with fail
      go_ret
      exact ⟨ret_bool (by simp), hbA⟩
    · have c1' := decide_eq_false c1
      by_cases c2 : (n == 36524) = true
      · go_wp2_with fail
        refine (sAddMonths_top _ _ _).mono ?_
        rintro e w4 ⟨rfl, hb4⟩
        replace hbA := hbA.trans (hb4.mono hbA.size)
        go_wp2_with fail
        go_ret
        exact ⟨ret_bool (by simp), hbA⟩
      · have c2' : (n == 36524) = false := by simpa using c2
        have hbd2 := addV_bd (n + 1) k
        obtain ⟨bd2, bd3⟩ := hbd2
        have hO : 0 ≤ addV (n + 1) k → addV n k ≤ addV (n + 1) k ∧ addV (n + 1) k ≤ addV n k + 4 := fun h => add_order (by omega) h
        have HO := Lib.hid hO; clear hO
        go_wp2_with fail
        refine (addMonths_any _ _ _ HT3.out).mono ?_
        rintro e w4 ⟨rfl, hb4⟩
        replace hbA := hbA.trans (hb4.mono hbA.size)
        by_cases c3 : addV (n + 1) k < 0
        · go_wp2_with fail
          go_ret
          exact ⟨rfl, hbA⟩
        · obtain ⟨o1, o2⟩ := HO.out (by omega)
          have c3' := decide_eq_false c3
          go_wp2_with fail
          go_ret
          exact ⟨rfl, hbA⟩
set_option maxHeartbeats 400000 in
theorem lawAddMonthsBack (a : Option Addr) (len cap : Nat) (zs : List Int) (w : World) (h : IsRow .u8 w a len cap zs) (hT : Tab w) :
    Calls Tryd.prog 10 #[.slice a len cap] w fun e w' => e = .returned (.bool true) ∧ Below w.heap.size w w' := by
  have H := Lib.hid h; clear h
  have HT := Lib.hid hT; clear hT
  by_cases hl : 1048576 < (len : Int)
  · go_enter Tryd.func10, Tryd.ntmps10
    go_wp2_with fail
    go_ret
    exact ⟨rfl, Below.refl _ _⟩
  · have hl' := decide_eq_false hl
    clear hl
    go_enter Tryd.func10, Tryd.ntmps10
    go_wp2_with fail
    refine (drawAddMonths_any _ _ _ _ _ H.out).mono ?_
    rintro e w1 ⟨n, k, rfl, ⟨n0, n1, k0, k1⟩, hb1⟩
    have HT1 := Lib.hid (HT.out.below hb1 HT.out.pos)
    have hbd := addV_bd n k
    obtain ⟨bd0, bd1⟩ := hbd
    have hne : (addV n k != addV n k) = false := by simp
    go_wp2_with fail
    refine (addMonths_any _ _ _ HT1.out).mono ?_
    rintro e w2 ⟨rfl, hb2⟩
    have HT2 := Lib.hid (HT1.out.below hb2 HT1.out.pos)
    have hbA := hb1.trans (hb2.mono hb1.size)
    go_wp2_with fail
    refine (sAddMonths_top _ _ _).mono ?_
    rintro e w3 ⟨rfl, hb3⟩
    have HT3 := Lib.hid (HT2.out.below hb3 HT2.out.pos)
    replace hbA := hbA.trans (hb3.mono hbA.size)
    by_cases c1 : addV n k < 0
    · go_wp2_with fail
      refine (sAddMonths_top _ _ _).mono ?_
      rintro e w4 ⟨rfl, hb4⟩
      replace hbA := hbA.trans (hb4.mono hbA.size)
      go_wp2_with fail
      go_ret
      exact ⟨ret_bool (by simp), hbA⟩
    · have c1' := decide_eq_false c1
      have hO := add_back (n := n) (k := k) (by omega)
      obtain ⟨o1, o2⟩ := hO
      go_wp2_with fail
      refine (addMonths_any _ _ _ HT3.out).mono ?_
      rintro e w4 ⟨rfl, hb4⟩
      replace hbA := hbA.trans (hb4.mono hbA.size)
      go_wp2_with fail
      go_ret
      exact ⟨rfl, hbA⟩
set_option maxHeartbeats 400000 in
theorem lawAddMonthsYear (a : Option Addr) (len cap : Nat) (zs : List Int) (w : World) (h : IsRow .u8 w a len cap zs) (hT : Tab w) :
    Calls Tryd.prog 11 #[.slice a len cap] w fun e w' => e = .returned (.bool true) ∧ Below w.heap.size w w' := by
  have H := Lib.hid h; clear h
  have HT := Lib.hid hT; clear hT
  by_cases hl : 1048576 < (len : Int)
  · go_enter Tryd.func11, Tryd.ntmps11
    go_wp2_with fail
    go_ret
    exact ⟨rfl, Below.refl _ _⟩
  · have hl' := decide_eq_false hl
    clear hl
    go_enter Tryd.func11, Tryd.ntmps11
    go_wp2_with fail
    refine (drawAddMonths_any _ _ _ _ _ H.out).mono ?_
    rintro e w1 ⟨n, k, rfl, ⟨n0, n1, k0, k1⟩, hb1⟩
    have HT1 := Lib.hid (HT.out.below hb1 HT.out.pos)
    have hbd := addV_bd n k
    obtain ⟨bd0, bd1⟩ := hbd
    have hne : (addV n k != addV n k) = false := by simp
    go_wp2_with fail
    refine (addMonths_any _ _ _ HT1.out).mono ?_
    rintro e w2 ⟨rfl, hb2⟩
    have HT2 := Lib.hid (HT1.out.below hb2 HT1.out.pos)
    have hbA := hb1.trans (hb2.mono hb1.size)
    go_wp2_with fail
    refine (sAddMonths_top _ _ _).mono ?_
    rintro e w3 ⟨rfl, hb3⟩
    have HT3 := Lib.hid (HT2.out.below hb3 HT2.out.pos)
    replace hbA := hbA.trans (hb3.mono hbA.size)
    by_cases c1 : addV n k < 0
    · go_wp2_with fail
      refine (sAddMonths_top _ _ _).mono ?_
      rintro e w4 ⟨rfl, hb4⟩
      replace hbA := hbA.trans (hb4.mono hbA.size)
      go_wp2_with fail
      go_ret
      exact ⟨ret_bool (by simp), hbA⟩
    · have c1' := decide_eq_false c1
      obtain ⟨_, _, _, hA, _⟩ := addV_nonneg (n := n) (k := k) (by omega)
      have q0 := hA.hn0
      have q1 := hA.hn1
      have HD := Lib.hid (show dayB n = true from btw_t q0 q1)
      have HY := Lib.hid (add_year q0 q1)
      have yb := Cal.Y_bd q0 q1
      have mb := Cal.M_bd q0 q1
      have db := Cal.D_bd q0 q1
      clear hA
      go_wp2_with fail
      refine (dateOf_yes _ _ HT3.out HD.out).mono ?_
      rintro e w4 ⟨rfl, hb4⟩
      have HT4 := Lib.hid ((HT3.out.below hb4 HT3.out.pos).alloc (.cells #[.int .i64 (Cal.Y n), .int .i64 (Cal.M n), .int .i64 (Cal.D n)] 28))
      replace hbA := hbA.trans (hb4.mono hbA.size)
      have kB := Blk.new w4 #[.int .i64 (Cal.Y n), .int .i64 (Cal.M n), .int .i64 (Cal.D n)] 28
      replace hbA := hbA.alloc hbA.size (.cells #[.int .i64 (Cal.Y n), .int .i64 (Cal.M n), .int .i64 (Cal.D n)] 28)
      go_wp2_with fail
      refine (dayOf_any _ _ _ _ HT4.out).mono ?_
      rintro e w5 ⟨rfl, hb5⟩
      replace kB := kB.below hb5 kB.lt
      obtain ⟨⟨x0, x1, x2⟩, _, _⟩ := kB.three
      have HT5 := Lib.hid (HT4.out.below hb5 HT4.out.pos)
      replace hbA := hbA.trans (hb5.mono hbA.size)
      by_cases c2 : dayV (Cal.Y n + 1) (Cal.M n) (Cal.D n) < 0
      · have HE := Lib.hid (show addV n 12 = dayV (Cal.Y n + 1) (Cal.M n) 28 by rw [HY.out, if_pos c2])
        clear HY
        go_wp2_with fail
        refine (dayOf_any _ _ _ _ HT5.out).mono ?_
        rintro e w6 ⟨rfl, hb6⟩
        have HT6 := Lib.hid (HT5.out.below hb6 HT5.out.pos)
        replace hbA := hbA.trans (hb6.mono hbA.size)
        go_wp2_with fail
        refine (addMonths_any _ _ _ HT6.out).mono ?_
        rintro e w7 ⟨rfl, hb7⟩
        replace hbA := hbA.trans (hb7.mono hbA.size)
        go_wp2_with fail
        go_ret
        exact ⟨ret_bool (by rw [HE.out]; simp), hbA⟩
      · have HE := Lib.hid (show addV n 12 = dayV (Cal.Y n + 1) (Cal.M n) (Cal.D n) by rw [HY.out, if_neg c2])
        have c2' := decide_eq_false c2
        clear HY
        go_wp2_with fail
        refine (addMonths_any _ _ _ HT5.out).mono ?_
        rintro e w7 ⟨rfl, hb7⟩
        replace hbA := hbA.trans (hb7.mono hbA.size)
        go_wp2_with fail
        go_ret
        exact ⟨ret_bool (by rw [HE.out]; simp), hbA⟩
end Go.Proofs.YtgjiogdekihhdaaDoor
