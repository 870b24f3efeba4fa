/- The walks of the calendar's laws. -/
import Derived.Test.YtgjiogdekihhdaaDoorDraw3
namespace Go.Proofs.YtgjiogdekihhdaaDoor
open Go.RowKit
theorem dinV_neg {y m : Int} (h : ¬ dinV y m < 0) : 1990 ≤ y ∧ y ≤ 2089 ∧ 1 ≤ m ∧ m ≤ 12 ∧ dinV y m = Cal.dm y m := by
  unfold dinV at h ⊢
  by_cases c : btw y 1990 2089 = true ∧ btw m 1 12 = true
  · obtain ⟨a, b⟩ := c
    rw [if_pos ⟨a, b⟩]
    rw [btw_iff] at a b
    exact ⟨a.1, a.2, b.1, b.2, rfl⟩
  · rw [if_neg c] at h; omega
theorem dinV_bd (y m : Int) : -1 ≤ dinV y m ∧ dinV y m ≤ 31 := by
  unfold dinV; have := Cal.dm_bd y m; split <;> omega
set_option maxHeartbeats 400000 in
theorem lawDaysIn (a : Option Addr) (len cap : Nat) (zs : List Int) (w : World) (h : IsRow .u8 w a len cap zs) (hT : Tab w) :
    Calls Tryd.prog 3 #[.slice a len cap] w fun e w' => e = .returned (.bool true) ∧ Below w.heap.size w w' := by
  have H := Lib.hid h; clear h
  have HT := Lib.hid hT; clear hT
  by_cases hl : 1048576 < (len : Int)
  · go_enter Tryd.func3, Tryd.ntmps3
    go_wp2_with fail
    go_ret
    exact ⟨rfl, Below.refl _ _⟩
  · have hl' := decide_eq_false hl
    clear hl
    go_enter Tryd.func3, Tryd.ntmps3
    go_wp2_with fail
    refine (drawDaysIn_any _ _ _ _ _ H.out).mono ?_
    rintro e w1 ⟨y, m, rfl, ⟨y0, y1, m0, m1⟩, hb1⟩
    have hbd := dinV_bd y m
    obtain ⟨bd0, bd1⟩ := hbd
    have hT1 := HT.out.below hb1 HT.out.pos
    have HT1 := Lib.hid hT1; clear hT1
    have hne : (dinV y m != dinV y m) = false := by simp
    go_wp2_with fail
    refine (implDaysIn_any _ _ _ HT1.out).mono ?_
    rintro e w2 ⟨rfl, rfl⟩
    by_cases hn : dinV y m < 0
    · go_wp2_with fail
      refine (sDaysIn_top _ _ _).mono ?_
      rintro e w3 ⟨rfl, hb3⟩
      go_wp2_with fail
      refine (sDaysIn_top _ _ _).mono ?_
      rintro e w4 ⟨rfl, hb4⟩
      go_wp2_with fail
      go_ret
      exact ⟨rfl, (hb1.trans (hb3.mono hb1.size)).trans (hb4.mono (Nat.le_trans hb1.size hb3.size))⟩
    · obtain ⟨a1, a2, a3, a4, hd⟩ := dinV_neg hn
      have HD := Lib.hid hd; clear hd
      have hn' := decide_eq_false hn
      have hbb := Cal.dm_bd y m
      rw [← HD.out] at hbb
      obtain ⟨q0, q1⟩ := hbb
      go_wp2_with fail
      refine (sDaysIn_top _ _ _).mono ?_
      rintro e w3 ⟨rfl, hb3⟩
      have HT3 := Lib.hid (HT1.out.below hb3 HT1.out.pos)
      go_wp2_with fail
      go_loop [6, 7] (fun t k => ∃ i : Int, 1 ≤ i ∧ i ≤ 13 ∧ t = .int .i64 (Cal.ms y i) ∧ k = .int .i64 i) (fun _ k => (13 - intOf k).toNat)
      case atStart => exact ⟨1, by omega, by omega, by rw [Cal.ms_1], rfl⟩
      case round =>
        obtain ⟨i, i0, i1, rfl, rfl⟩ := hrel
        have hm := Cal.ms_bd y i0 i1
        obtain ⟨p0, p1⟩ := hm
        by_cases hc : i ≤ 12
        · have HS := Lib.hid (Cal.ms_succ y i0 hc)
          have db := Cal.dm_bd y i
          obtain ⟨r0, r1⟩ := db
          go_wp2_with (go_at_call 18; refine (implDaysIn_yes _ _ _ HT3.out (by omega) (by omega) (by omega) (by omega)).mono ?_; rintro e w4 ⟨rfl, rfl⟩)
          go_round
          case rel => exact ⟨i + 1, by omega, by omega, by rw [HS.out], rfl⟩
          case measure => simp [intOf]; omega
        · obtain rfl : i = 13 := by omega
          have h2 := Cal.dm_bd y 2
          obtain ⟨r0, r1⟩ := h2
          have he : Cal.ms y 13 = 337 + Cal.dm y 2 := by rw [Cal.ms_13]; simp [Cal.dm]; omega
          have hx : (Cal.ms y 13 == 337 + Cal.dm y 2) = true := by rw [he]; simp
          clear he
          go_wp2_with (go_at_call 18; refine (implDaysIn_yes _ _ _ HT3.out (by omega) (by omega) (by omega) (by omega)).mono ?_; rintro e w4 ⟨rfl, rfl⟩)
          go_ret
          exact ⟨rfl, hb1.trans (hb3.mono hb1.size)⟩
set_option maxHeartbeats 400000 in
theorem lawDaysInLeap (a : Option Addr) (len cap : Nat) (zs : List Int) (w : World) (h : IsRow .u8 w a len cap zs) (hT : Tab w) :
    Calls Tryd.prog 9 #[.slice a len cap] w fun e w' => e = .returned (.bool true) ∧ Below w.heap.size w w' := by
  have H := Lib.hid h; clear h
  have HT := Lib.hid hT; clear hT
  by_cases hl : 1048576 < (len : Int)
  · go_enter Tryd.func9, Tryd.ntmps9
    go_wp2_with fail
    go_ret
    exact ⟨rfl, Below.refl _ _⟩
  · have hl' := decide_eq_false hl
    clear hl
    go_enter Tryd.func9, Tryd.ntmps9
    go_wp2_with fail
    refine (drawDaysIn_any _ _ _ _ _ H.out).mono ?_
    rintro e w1 ⟨y, m, rfl, ⟨y0, y1, m0, m1⟩, hb1⟩
    have hbd := dinV_bd y m
    obtain ⟨bd0, bd1⟩ := hbd
    have hT1 := HT.out.below hb1 HT.out.pos
    have HT1 := Lib.hid hT1; clear hT1
    have hne : (dinV y m != dinV y m) = false := by simp
    go_wp2_with fail
    refine (implDaysIn_any _ _ _ HT1.out).mono ?_
    rintro e w2 ⟨rfl, rfl⟩
    by_cases c1 : dinV y m < 0
    · go_wp2_with fail
      refine (sDaysIn_top _ _ _).mono ?_
      rintro e w3 ⟨rfl, hb3⟩
      go_wp2_with fail
      refine (sDaysIn_top _ _ _).mono ?_
      rintro e w4 ⟨rfl, hb4⟩
      go_wp2_with fail
      go_ret
      exact ⟨rfl, (hb1.trans (hb3.mono hb1.size)).trans (hb4.mono (Nat.le_trans hb1.size hb3.size))⟩
    · have c1' := decide_eq_false c1
      by_cases c2 : 2089 < y + 4
      · go_wp2_with fail
        refine (sDaysIn_top _ _ _).mono ?_
        rintro e w3 ⟨rfl, hb3⟩
        go_wp2_with fail
        refine (sDaysIn_top _ _ _).mono ?_
        rintro e w4 ⟨rfl, hb4⟩
        go_wp2_with fail
        go_ret
        exact ⟨rfl, (hb1.trans (hb3.mono hb1.size)).trans (hb4.mono (Nat.le_trans hb1.size hb3.size))⟩
      · have c2' := decide_eq_false c2
        by_cases c3 : (y % 100 == 0) = true
        · go_wp2_with fail
          refine (sDaysIn_top _ _ _).mono ?_
          rintro e w3 ⟨rfl, hb3⟩
          go_wp2_with fail
          refine (sDaysIn_top _ _ _).mono ?_
          rintro e w4 ⟨rfl, hb4⟩
          go_wp2_with fail
          go_ret
          exact ⟨rfl, (hb1.trans (hb3.mono hb1.size)).trans (hb4.mono (Nat.le_trans hb1.size hb3.size))⟩
        · have c3' : (y % 100 == 0) = false := by simpa using c3
          by_cases c4 : ((y + 4) % 100 == 0) = true
          · go_wp2_with fail
            refine (sDaysIn_top _ _ _).mono ?_
            rintro e w3 ⟨rfl, hb3⟩
            go_wp2_with fail
            refine (sDaysIn_top _ _ _).mono ?_
            rintro e w4 ⟨rfl, hb4⟩
            go_wp2_with fail
            go_ret
            exact ⟨rfl, (hb1.trans (hb3.mono hb1.size)).trans (hb4.mono (Nat.le_trans hb1.size hb3.size))⟩
          · have c4' : ((y + 4) % 100 == 0) = false := by simpa using c4
            obtain ⟨a1, a2, a3, a4, hd⟩ := dinV_neg c1
            have hsame : Cal.dm (y + 4) m = dinV y m := by
              rw [hd]
              have e1 : ¬ y % 100 = 0 := by simpa using c3
              have e2 : ¬ (y + 4) % 100 = 0 := by simpa using c4
              have : Cal.lp (y + 4) = Cal.lp y := by unfold Cal.lp; split <;> split <;> omega
              unfold Cal.dm; rw [this]
            have HS := Lib.hid hsame
            have HD := Lib.hid hd
            clear hsame hd c1 c3 c4
            go_wp2_with fail
            refine (sDaysIn_top _ _ _).mono ?_
            rintro e w3 ⟨rfl, hb3⟩
            have HT3 := Lib.hid (HT1.out.below hb3 HT1.out.pos)
            go_wp2_with fail
            refine (implDaysIn_yes _ _ _ HT3.out (by omega) (by omega) (by omega) (by omega)).mono ?_
            rw [HS.out]
            rintro e w4 ⟨rfl, rfl⟩
            go_wp2_with fail
            go_ret
            exact ⟨ret_bool (by simp), hb1.trans (hb3.mono hb1.size)⟩
end Go.Proofs.YtgjiogdekihhdaaDoor
