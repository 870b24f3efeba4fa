/- The walks of the calendar's laws, second part. -/
import Derived.Test.YtgjiogdekihhdaaDoorLaw1
namespace Go.Proofs.YtgjiogdekihhdaaDoor
open Go.RowKit
theorem vld_dayV {y m d : Int} : (decide (0 ≤ dayV y m d)) = vldB y m d := by
  unfold dayV
  cases hv : vldB y m d with
  | true => rw [if_pos rfl]; have := (Cal.num_bd (vldB_iff.1 hv)).1; simp [this]
  | false => rw [if_neg (by simp)]; decide
set_option maxHeartbeats 400000 in
theorem lawValidDate (a : Option Addr) (len cap : Nat) (zs : List Int) (w : World) (h : IsRow .u8 w a len cap zs) (hT : Tab w) :
    Calls Tryd.prog 4 #[.slice a len cap] w fun e w' => e = .returned (.bool true) ∧ Below w.heap.size w w' := by
  have H := Lib.hid h; clear h
  have HT := Lib.hid hT; clear hT
  by_cases hl : 1048576 < (len : Int)
  · go_enter Tryd.func4, Tryd.ntmps4
    go_wp2_with fail
    go_ret
    exact ⟨rfl, Below.refl _ _⟩
  · have hl' := decide_eq_false hl
    clear hl
    go_enter Tryd.func4, Tryd.ntmps4
    go_wp2_with fail
    refine (drawValidDate_any _ _ _ _ _ H.out).mono ?_
    rintro e w1 ⟨y, m, d, rfl, hbd, hb1⟩
    have hT1 := (HT.out.below hb1 HT.out.pos).alloc (.cells #[.int .i64 y, .int .i64 m, .int .i64 d] 28)
    have HT1 := Lib.hid hT1; clear hT1
    have hs1 := hb1.size
    have hbA := hb1.alloc hs1 (.cells #[.int .i64 y, .int .i64 m, .int .i64 d] 28)
    have kB := Blk.new w1 #[.int .i64 y, .int .i64 m, .int .i64 d] 28
    have HV := Lib.hid (vld_dayV (y := y) (m := m) (d := d))
    clear hbd
    go_wp2_with fail
    refine (validDate_any _ _ _ _ HT1.out).mono ?_
    rintro e w2 ⟨rfl, hb2⟩
    replace kB := kB.below hb2 (by simp)
    obtain ⟨⟨x0, x1, x2⟩, _, _⟩ := kB.three
    replace hbA := hbA.trans (hb2.mono (by simp; omega))
    have HT2 := Lib.hid (HT1.out.below hb2 (by simp))
    go_wp2_with fail
    refine (sValidDate_top _ _ _ _).mono ?_
    rintro e w3 ⟨rfl, hb3⟩
    replace kB := kB.below hb3 kB.lt
    clear x0 x1 x2
    obtain ⟨⟨x0, x1, x2⟩, _, _⟩ := kB.three
    have hs2 := hbA.size
    replace hbA := hbA.trans (hb3.mono hs2)
    have HT3 := Lib.hid (HT2.out.below hb3 HT2.out.pos)
    have hself : (vldB y m d == vldB y m d) = true := by simp
    go_wp2_with fail
    refine (dayOf_any _ _ _ _ HT3.out).mono ?_
    rintro e w4 ⟨rfl, hb4⟩
    have hs3 := hbA.size
    replace hbA := hbA.trans (hb4.mono hs3)
    go_wp2_with fail
    go_ret
    exact ⟨ret_bool (by rw [HV.out]; simp), hbA⟩
set_option maxHeartbeats 400000 in
theorem lawDayOf (a : Option Addr) (len cap : Nat) (zs : List Int) (w : World) (h : IsRow .u8 w a len cap zs) (hT : Tab w) :
    Calls Tryd.prog 5 #[.slice a len cap] w fun e w' => e = .returned (.bool true) ∧ Below w.heap.size w w' := by
  have H := Lib.hid h; clear h
  have HT := Lib.hid hT; clear hT
  by_cases hl : 1048576 < (len : Int)
  · go_enter Tryd.func5, Tryd.ntmps5
    go_wp2_with fail
    go_ret
    exact ⟨rfl, Below.refl _ _⟩
  · have hl' := decide_eq_false hl
    clear hl
    go_enter Tryd.func5, Tryd.ntmps5
    go_wp2_with fail
    refine (drawDayOf_any _ _ _ _ _ H.out).mono ?_
    rintro e w1 ⟨y, m, d, rfl, hbd, hb1⟩
    have hT1 := (HT.out.below hb1 HT.out.pos).alloc (.cells #[.int .i64 y, .int .i64 m, .int .i64 d] 28)
    have HT1 := Lib.hid hT1; clear hT1
    have hs1 := hb1.size
    have hbA := hb1.alloc hs1 (.cells #[.int .i64 y, .int .i64 m, .int .i64 d] 28)
    have kB := Blk.new w1 #[.int .i64 y, .int .i64 m, .int .i64 d] 28
    clear hbd
    go_wp2_with fail
    refine (dayOf_any _ _ _ _ HT1.out).mono ?_
    rintro e w2 ⟨rfl, hb2⟩
    replace kB := kB.below hb2 (by simp)
    obtain ⟨⟨x0, x1, x2⟩, _, _⟩ := kB.three
    replace hbA := hbA.trans (hb2.mono (by simp; omega))
    have HT2 := Lib.hid (HT1.out.below hb2 (by simp))
    have hself : (dayV y m d != dayV y m d) = false := by simp
    go_wp2_with fail
    refine (sDayOf_top _ _ _ _).mono ?_
    rintro e w3 ⟨rfl, hb3⟩
    replace kB := kB.below hb3 kB.lt
    clear x0 x1 x2
    obtain ⟨⟨x0, x1, x2⟩, _, _⟩ := kB.three
    have hs2 := hbA.size
    replace hbA := hbA.trans (hb3.mono hs2)
    have HT3 := Lib.hid (HT2.out.below hb3 HT2.out.pos)
    cases hv : vldB y m d with
    | false =>
      have e1 : dayV y m d = -1 := by unfold dayV; rw [if_neg (by rw [hv]; decide)]
      have E1 := Lib.hid e1
      have hlt : dayV y m d < 0 := by omega
      clear e1
      go_wp2_with fail
      refine (sDayOf_top _ _ _ _).mono ?_
      rintro e w4 ⟨rfl, hb4⟩
      have hs3 := hbA.size
      replace hbA := hbA.trans (hb4.mono hs3)
      go_wp2_with fail
      go_ret
      exact ⟨ret_bool (by simp), hbA⟩
    | true =>
      have hvv := vldB_iff.1 hv
      have hb := Cal.num_bd hvv
      have e1 : dayV y m d = Cal.num y m d := by unfold dayV; rw [if_pos hv]
      obtain ⟨e2, e3, e4⟩ := Cal.dt_num hvv
      have hnum : 0 ≤ dayV y m d ∧ dayV y m d ≤ 36524 := by rw [e1]; exact hb
      have eY : Cal.Y (dayV y m d) = y := by rw [e1]; exact e2
      have eM : Cal.M (dayV y m d) = m := by rw [e1]; exact e3
      have eD : Cal.D (dayV y m d) = d := by rw [e1]; exact e4
      have EE := Lib.hid (And.intro eY (And.intro eM eD))
      obtain ⟨n0, n1⟩ := hnum
      have HD := Lib.hid (show dayB (dayV y m d) = true from btw_t n0 n1)
      clear e1 e2 e3 e4 eY eM eD hb hvv hv
      go_wp2_with fail
      refine (dateOf_yes _ _ HT3.out HD.out).mono ?_
      rw [EE.out.1, EE.out.2.1, EE.out.2.2]
      rintro e w4 ⟨rfl, hb4⟩
      replace kB := kB.below hb4 kB.lt
      obtain ⟨⟨z0, z1, z2⟩, _, _⟩ := (kB.alloc (.cells #[.int .i64 y, .int .i64 m, .int .i64 d] 28)).three
      clear x0 x1 x2
      have hs3 := hbA.size
      replace hbA := hbA.trans (hb4.mono hs3)
      have hs4 := hbA.size
      go_wp2_with fail
      go_ret
      exact ⟨ret_bool (by simp), hbA.alloc hs4 _⟩
end Go.Proofs.YtgjiogdekihhdaaDoor
