/- The walks of the program's functions of ratios. -/
import Derived.Test.YtgncgbaoijcinaaDoorRat
import Derived.Test.YtgncgbaoijcinaaDoorProg
import Derived.Test.YtgncgbaoijcinaaDoorMinMax
import Derived.WalkKit
import Derived.WalkSpells
import Derived.WalkLawsBesides
import Derived.Lib.Hide
import Derived.Below
import Derived.Deep.QuietTactic
import Derived.BigQuiet
import Derived.IntWalk
import Derived.Test.YtgncgbaoijcinaaDoorDrawB
import Derived.Test.YtgncgbaoijcinaaDoorSpec
namespace Go.Proofs.YtgncgbaoijcinaaDoor
open Go.RowKit
theorem Blk.drewN {w : World} {b : Nat} {t : TypeId} {cs : Array Value} (h : Blk w b t cs) (n : Nat) : Blk (w.drewN n) b t cs := h
theorem Blk.two {w : World} {b : Nat} {t : TypeId} {x y : Value} (h : Blk w b t #[x, y]) :
    (w.cell? ⟨b, 0, none⟩ = some x ∧ w.cell? ⟨b, 1, none⟩ = some y) ∧ (w.frozen? ⟨b, 0, none⟩ = false ∧ w.frozen? ⟨b, 1, none⟩ = false) := by
  unfold Blk at h
  simp [World.cell?, World.frozen?, h]
set_option maxHeartbeats 400000 in
theorem absR_any (n : Int) (w : World) (h0 : -1000000000000000000 ≤ n) (h1 : n ≤ 1000000000000000000) : Calls Tryd.prog 55 #[.int .i64 n] w fun e w' => e = .returned (.int .i64 (max n (-n))) ∧ w = w' := by
  obtain ⟨t, ht⟩ : ∃ t, t = max n (-n) := ⟨_, rfl⟩
  have fmax : ∀ W : World, (Builtin.max_ #[3, 3] 3 #[.int .i64 n, .int .i64 (-n)]).run Tryd.prog W = .ok (.int .i64 t) W := fun W => by rw [ht]; exact run_max2' _ _ _ _ W
  rw [← ht]
  clear ht
  go_enter Tryd.func55, Tryd.ntmps55
  go_wp2_with fail
  go_ret
  exact ⟨rfl, rfl⟩
theorem Rt.g_abs (a b : Int) : Rt.g (max a (-a)) b = Rt.g a b := by
  by_cases h : a < 0
  · rw [show max a (-a) = -a by omega]; exact Rt.g_neg a b
  · rw [show max a (-a) = a by omega]
set_option maxHeartbeats 400000 in
theorem commonDivisor_any (a b : Int) (w : World) (ha : -100000000000000 ≤ a) (ha2 : a ≤ 100000000000000) (hb : 1 ≤ b) (hb2 : b ≤ 100000000000000) :
    Calls Tryd.prog 52 #[.int .i64 a, .int .i64 b] w fun e w' => e = .returned (.int .i64 (Rt.g a b)) ∧ w = w' := by
  have HA := Lib.hid (absR_any a w (by omega) (by omega))
  have HG0 := Lib.hid (Rt.g_abs a b)
  have hm : 0 ≤ max a (-a) ∧ max a (-a) ≤ 100000000000000 := by omega
  generalize max a (-a) = t at HA HG0 hm
  obtain ⟨t0, t1⟩ := hm
  go_enter Tryd.func52, Tryd.ntmps52
  go_wp2_with fail
  refine HA.out.mono ?_
  rintro e w1 ⟨rfl, rfl⟩
  go_wp2_with fail
  go_loop [0, 1] (fun s t => ∃ x y : Int, 0 ≤ x ∧ x ≤ 100000000000000 ∧ 0 ≤ y ∧ y ≤ 100000000000000 ∧ Hid (Rt.g x y = Rt.g a b) ∧ s = .int .i64 x ∧ t = .int .i64 y) (fun s _ => (intOf s).toNat)
  case atStart => exact ⟨t, b, by omega, by omega, by omega, by omega, HG0, rfl, rfl⟩
  case round =>
    obtain ⟨x, y, x0, x1, y0, y1, HG, rfl, rfl⟩ := hrel
    by_cases hx : 0 < x
    · have HS := Lib.hid (Rt.g_step hx y0)
      have m0 : 0 ≤ y % x := Int.emod_nonneg _ (by omega)
      have m1 : y % x < x := Int.emod_lt_of_pos _ hx
      go_wp2_with fail
      go_round
      case rel => exact ⟨y % x, x, m0, by omega, by omega, by omega, Lib.hid (HS.out.trans HG.out), rfl, rfl⟩
      case measure => simp [intOf]; omega
    · have hx' := decide_eq_false hx
      obtain rfl : x = 0 := by omega
      have HE := Lib.hid ((Rt.g_zero y0).symm.trans HG.out)
      go_wp2_with fail
      go_ret
      exact ⟨ret_int HE.out, rfl⟩
set_option maxHeartbeats 400000 in
theorem divisor_any (a b : Int) (w : World) (ha : 0 ≤ a) (ha2 : a ≤ 100000000000000) (hb : 0 ≤ b) (hb2 : b ≤ 100000000000000) :
    Calls Tryd.prog 44 #[.int .i64 a, .int .i64 b] w fun e w' => e = .returned (.int .i64 (Rt.g a b)) ∧ w = w' := by
  go_enter Tryd.func44, Tryd.ntmps44
  go_wp2_with fail
  go_loop [0, 1] (fun s t => ∃ x y : Int, 0 ≤ x ∧ x ≤ 100000000000000 ∧ 0 ≤ y ∧ y ≤ 100000000000000 ∧ Hid (Rt.g x y = Rt.g a b) ∧ s = .int .i64 x ∧ t = .int .i64 y) (fun _ t => (intOf t).toNat)
  case atStart => exact ⟨a, b, by omega, by omega, by omega, by omega, Lib.hid rfl, rfl, rfl⟩
  case round =>
    obtain ⟨x, y, x0, x1, y0, y1, HG, rfl, rfl⟩ := hrel
    by_cases hy : 0 < y
    · have HS := Lib.hid (Rt.g_step' x0 hy)
      have m0 : 0 ≤ x % y := Int.emod_nonneg _ (by omega)
      have m1 : x % y < y := Int.emod_lt_of_pos _ hy
      go_wp2_with fail
      go_round
      case rel => exact ⟨y, x % y, by omega, by omega, m0, by omega, Lib.hid (HS.out.trans HG.out), rfl, rfl⟩
      case measure => simp [intOf]; omega
    · have hy' := decide_eq_false hy
      obtain rfl : y = 0 := by omega
      have HE := Lib.hid ((Rt.g_zero' x0).symm.trans HG.out)
      go_wp2_with fail
      go_ret
      exact ⟨ret_int HE.out, rfl⟩
end Go.Proofs.YtgncgbaoijcinaaDoor
