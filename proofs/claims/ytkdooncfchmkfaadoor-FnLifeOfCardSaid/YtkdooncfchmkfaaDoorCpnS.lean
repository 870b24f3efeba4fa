/- Coupons, the model's side. -/
import Derived.Test.YtkdooncfchmkfaaDoorCpn
namespace Go.Proofs.YtkdooncfchmkfaaDoor
open Go.RowKit
set_option maxRecDepth 8000 in
set_option maxHeartbeats 2000000 in
theorem sCoupon_any (s e m r f t : Int) (z : Bool) (w : World) (m0 : 1 ≤ m) (m1 : m ≤ 12) (r0 : 0 ≤ r) (r1 : r ≤ 3000) (f0 : 0 ≤ f) (f1 : f < t) (t1 : t ≤ 36524) (hA : addV t (-m) < t) :
    Calls Tryd.prog 63 #[.agg #[.int .i64 s, .int .i64 e, .int .i64 m, .int .i64 r], .agg #[.int .i64 f, .int .i64 t, .bool z]] w fun x w' => x = .returned (.int .i64 (cpnV m r f t z)) ∧ Below w.heap.size w w' := by
  obtain ⟨rm0, rm1⟩ := rm_bd m0 m1 r0 r1
  cases z with
  | true =>
    go_enter Tryd.func63, Tryd.ntmps63
    go_wp2_with fail
    refine (sNearest_any _ _ _ (by omega) (by omega) (by omega) (by omega)).mono ?_
    rintro x w1 ⟨rfl, rfl⟩
    go_wp2_with fail
    go_ret
    exact ⟨rfl, ((Below.refl _ _).alloc (Nat.le_refl _) _).alloc (by simp) _⟩
  | false =>
    have hF : fullF m f t = if addV t (-m) < 0 then f else addV t (-m) := rfl
    have hB := Lib.hid (addV_bd t (-m))
    obtain ⟨W0, hW0⟩ : ∃ W0, W0 = Rt.near (10000 * r * m) 120000 := ⟨_, rfl⟩
    have hwb := whole_bd m0 m1 r0 r1
    unfold wholeV at hwb
    rw [← hW0] at hwb
    have hpb := mul_bd (a := W0) (b := t - f) (A := 3000) (B := 40000) (by omega) (by omega) (by omega) (by omega)
    have hwr : IntKind.i64.wrap (W0 * (t - f)) = W0 * (t - f) := IntWalk.i64_in _ (by omega)
    have E := Lib.hid (show cpnV m r f t false = Rt.near (W0 * (t - f)) (t - fullF m f t) by unfold cpnV wholeV; rw [hW0]; rfl)
    have HA := Lib.hid (fun W => sAddMonths_yes t (-m) W (by omega) (by omega) (by omega) (by omega))
    obtain ⟨q, hq⟩ : ∃ q, q = addV t (-m) := ⟨_, rfl⟩
    rw [← hq] at hF HA hA hB
    have HFF := Lib.hid hF
    clear hF hq
    have B0 := Lib.hid (((Below.refl w.heap.size w).alloc (Nat.le_refl _) (.cells #[.int .i64 s, .int .i64 e, .int .i64 m, .int .i64 r] 27)).alloc (by simp) (.cells #[.int .i64 f, .int .i64 t, .bool false] 58))
    have K0 := Lib.hid (seven_new w s e m r f t)
    have Z0 : Hid (w.heap.size + 2 ≤ ((w.alloc (.cells #[.int .i64 s, .int .i64 e, .int .i64 m, .int .i64 r] 27)).alloc (.cells #[.int .i64 f, .int .i64 t, .bool false] 58)).heap.size) := Lib.hid (by simp)
    have HW0 := Lib.hid hW0
    clear hW0
    go_enter Tryd.func63, Tryd.ntmps63
    go_wp2_with fail
    refine (sNearest_any _ _ _ (by omega) (by omega) (by omega) (by omega)).mono ?_
    rintro x w1 ⟨rfl, rfl⟩
    rw [← HW0.out]
    go_wp2_with fail
    refine (HA.out _).mono ?_
    rintro x w1 ⟨rfl, hb1⟩
    obtain ⟨a0, a1, a2, a3, a4, a5, a6⟩ := keep7 K0.out hb1 Z0.out
    have C1 := Lib.hid (B0.out.trans (hb1.mono B0.out.size))
    by_cases hq : q < 0
    · have E2 := Lib.hid (show fullF m f t = f by rw [HFF.out, if_pos hq])
      have hq' := decide_eq_true hq
      clear hq
      go_wp2_with fail
      refine (sNearest_any _ _ _ (by omega) (by omega) (by omega) (by omega)).mono ?_
      rintro x w1 ⟨rfl, rfl⟩
      go_wp2_with fail
      go_ret
      exact ⟨ret_int (by rw [E.out, E2.out]), C1.out⟩
    · have E2 := Lib.hid (show fullF m f t = q by rw [HFF.out, if_neg hq])
      have hq' := decide_eq_false hq
      have q0 : 0 ≤ q := by omega
      clear hq
      go_wp2_with fail
      refine (sNearest_any _ _ _ (by omega) (by omega) (by omega) (by omega)).mono ?_
      rintro x w1 ⟨rfl, rfl⟩
      go_wp2_with fail
      go_ret
      exact ⟨ret_int (by rw [E.out, E2.out]), C1.out⟩
end Go.Proofs.YtkdooncfchmkfaaDoor
