/- The walks of the model's parts of years. -/
import Derived.Test.YtgncgbaoijcinaaDoorYp
import Derived.Test.YtgncgbaoijcinaaDoorSpan
import Derived.Test.YtgncgbaoijcinaaDoorRs3
namespace Go.Proofs.YtgncgbaoijcinaaDoor
open Go.RowKit
theorem field_year (x y z : Int) (w : World) : (Instr.field 59 (.agg #[.int .i64 x, .int .i64 y, .int .i64 z]) 0).run Tryd.prog w = .ok (.int .i64 x) w := by kernel_rfl
set_option maxHeartbeats 400000 in
theorem sActual_any (x y : Int) (w : World) (h0 : 0 ≤ x) (h : x ≤ y) (h1 : y ≤ 36524) :
    Calls Tryd.prog 38 #[.int .i64 x, .int .i64 y] w fun e w' => e = .returned (.tuple #[.int .i64 (Yp.L y - Yp.L x), .int .i64 (y - x - (Yp.L y - Yp.L x))]) ∧ Below w.heap.size w w' := by
  go_enter Tryd.func38, Tryd.ntmps38
  go_wp2_with fail
  go_loopw [6, 7, 8] (fun a b n wr => ∃ k : Int, x ≤ k ∧ k ≤ y ∧ a = .int .i64 (Yp.L k - Yp.L x) ∧ b = .int .i64 (k - x - (Yp.L k - Yp.L x)) ∧ n = .int .i64 k ∧ Below w.heap.size w wr) (fun _ _ n _ => 40000 - (intOf n).toNat)
  case atStart => exact ⟨x, by omega, h, by simp, by simp, rfl, Below.refl _ _⟩
  case round =>
    obtain ⟨k, k0, k1, rfl, rfl, rfl, hb⟩ := hrel
    have hL := Yp.L_bd h0 k0
    obtain ⟨l0, l1⟩ := hL
    by_cases hlt : k < y
    · have yb := Cal.Y_bd (n := k) (by omega) (by omega)
      obtain ⟨y0, y1⟩ := yb
      have hs := hb.size
      cases hl : leapB (Cal.Y k) with
      | true =>
        have E := Lib.hid (show Yp.L (k + 1) = Yp.L k + 1 by rw [Yp.L_succ (by omega), lp_of_true hl])
        have HL := Lib.hid hl; clear hl
        go_wp2_with fail
        refine (sDateOf_any _ _ (by omega) (by omega)).mono ?_
        rintro e w1 ⟨rfl, hb1⟩
        have hf := field_year
        have hl := HL.out
        go_wp2_with (go_at_call 48; refine (leap_any _ _ (by omega) (by omega)).mono ?_; rintro e w' ⟨rfl, rfl⟩)
        go_roundw
        case rel => exact ⟨k + 1, by omega, by omega, by rw [E.out]; congr 1; omega, by rw [E.out]; congr 1; omega, rfl, hb.trans (hb1.mono hs)⟩
        case measure => simp [intOf]; omega
      | false =>
        have E := Lib.hid (show Yp.L (k + 1) = Yp.L k by rw [Yp.L_succ (by omega), lp_of_false hl]; omega)
        have HL := Lib.hid hl; clear hl
        go_wp2_with fail
        refine (sDateOf_any _ _ (by omega) (by omega)).mono ?_
        rintro e w1 ⟨rfl, hb1⟩
        have hf := field_year
        have hl := HL.out
        go_wp2_with (go_at_call 48; refine (leap_any _ _ (by omega) (by omega)).mono ?_; rintro e w' ⟨rfl, rfl⟩)
        go_roundw
        case rel => exact ⟨k + 1, by omega, by omega, by rw [E.out], by rw [E.out]; congr 1; omega, rfl, hb.trans (hb1.mono hs)⟩
        case measure => simp [intOf]; omega
    · obtain rfl : y = k := by omega
      go_wp2_with fail
      go_ret2
      exact ⟨rfl, hb⟩
theorem thirty_eq (x y : Int) : Yp.thirty x y = 360 * (Cal.Y y - Cal.Y x) + 30 * (Cal.M y - Cal.M x) + (if min (Cal.D x) 30 = 30 then min (Cal.D y) 30 else Cal.D y) - min (Cal.D x) 30 := rfl
set_option maxHeartbeats 800000 in
theorem sThirty_any (x y : Int) (w : World) (h0 : 0 ≤ x) (h : x ≤ y) (h1 : y ≤ 36524) :
    Calls Tryd.prog 36 #[.agg #[.int .i64 (Cal.Y x), .int .i64 (Cal.M x), .int .i64 (Cal.D x)], .agg #[.int .i64 (Cal.Y y), .int .i64 (Cal.M y), .int .i64 (Cal.D y)]] w fun e w' => e = .returned (.int .i64 (Yp.thirty x y)) ∧ Below w.heap.size w w' := by
  obtain ⟨yx0, yx1⟩ := Cal.Y_bd h0 (by omega)
  obtain ⟨yy0, yy1⟩ := Cal.Y_bd (n := y) (by omega) h1
  obtain ⟨mx0, mx1⟩ := Cal.M_bd h0 (by omega)
  obtain ⟨my0, my1⟩ := Cal.M_bd (n := y) (by omega) h1
  obtain ⟨dx0, _, dx1⟩ := Cal.D_bd h0 (by omega)
  obtain ⟨dy0, _, dy1⟩ := Cal.D_bd (n := y) (by omega) h1
  rcases Int.lt_trichotomy (Cal.D x) 30 with c1 | c1 | c1
  · have q : (Cal.D x == 30) = false := by simp; omega
    have HF := Lib.hid (show Yp.thirty x y = 360 * (Cal.Y y - Cal.Y x) + 30 * (Cal.M y - Cal.M x) + Cal.D y - Cal.D x by rw [thirty_eq]; rw [if_neg (by omega)]; omega)
    go_enter Tryd.func36, Tryd.ntmps36
    go_wp2_with fail
    go_ret
    exact ⟨ret_int (by rw [HF.out]), ((Below.refl _ _).alloc (Nat.le_refl _) _).alloc (by simp) _⟩
  · have q : (Cal.D x == 30) = true := by simp [c1]
    have c2 : Cal.D x ≤ 30 := by omega
    have C1 := Lib.hid c1; clear c1
    by_cases d1 : 30 < Cal.D y
    · have HF := Lib.hid (show Yp.thirty x y = 360 * (Cal.Y y - Cal.Y x) + 30 * (Cal.M y - Cal.M x) + 30 - Cal.D x by rw [thirty_eq]; have := C1.out; rw [if_pos (by omega)]; omega)
      go_enter Tryd.func36, Tryd.ntmps36
      go_wp2_with fail
      go_ret
      exact ⟨ret_int (by rw [HF.out]), ((Below.refl _ _).alloc (Nat.le_refl _) _).alloc (by simp) _⟩
    · have HF := Lib.hid (show Yp.thirty x y = 360 * (Cal.Y y - Cal.Y x) + 30 * (Cal.M y - Cal.M x) + Cal.D y - Cal.D x by rw [thirty_eq]; have := C1.out; rw [if_pos (by omega)]; omega)
      go_enter Tryd.func36, Tryd.ntmps36
      go_wp2_with fail
      go_ret
      exact ⟨ret_int (by rw [HF.out]), ((Below.refl _ _).alloc (Nat.le_refl _) _).alloc (by simp) _⟩
  · by_cases d1 : 30 < Cal.D y
    · have HF := Lib.hid (show Yp.thirty x y = 360 * (Cal.Y y - Cal.Y x) + 30 * (Cal.M y - Cal.M x) + 30 - 30 by rw [thirty_eq]; rw [if_pos (by omega)]; omega)
      go_enter Tryd.func36, Tryd.ntmps36
      go_wp2_with fail
      go_ret
      exact ⟨ret_int (by rw [HF.out]; omega), ((Below.refl _ _).alloc (Nat.le_refl _) _).alloc (by simp) _⟩
    · have HF := Lib.hid (show Yp.thirty x y = 360 * (Cal.Y y - Cal.Y x) + 30 * (Cal.M y - Cal.M x) + Cal.D y - 30 by rw [thirty_eq]; rw [if_pos (by omega)]; omega)
      go_enter Tryd.func36, Tryd.ntmps36
      go_wp2_with fail
      go_ret
      exact ⟨ret_int (by rw [HF.out]), ((Below.refl _ _).alloc (Nat.le_refl _) _).alloc (by simp) _⟩
end Go.Proofs.YtgncgbaoijcinaaDoor
