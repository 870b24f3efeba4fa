/- Dirty and clean prices. -/
import Derived.Test.YtgaeclfjmhpocaaDoorAcc5
import Derived.Test.YtgaeclfjmhpocaaDoorLEqM
namespace Go.Proofs.YtgaeclfjmhpocaaDoor
open Go.RowKit
theorem acc_no {s e m r d : Int} (h : runB s e m r d = false) : accV s e m r d = -1 := by unfold accV; rw [if_neg (by rw [h]; decide)]
theorem acc_bd {s e m r d : Int} (h : runB s e m r d = true) : 0 ≤ accV s e m r d ∧ accV s e m r d ≤ 120000000 := by
  obtain ⟨-, -, f, t, z, hg, a0, a1, a2, hA, hf, ht, hc0, hc1⟩ := run_per h
  have E : accV s e m r d = Rt.near (cpnV m r f t z * (d - f)) (t - f) := by unfold accV accP; rw [if_pos h, hg]
  rw [E]
  have h1 := near_part (w := cpnV m r f t z) (a := d - f) (b := t - f) hc0 (by omega) (by omega)
  have h2 : 0 ≤ cpnV m r f t z * (d - f) := Int.mul_nonneg hc0 (by omega)
  refine ⟨?_, by omega⟩
  unfold Rt.near
  exact Int.ediv_nonneg (by omega) (by omega)
noncomputable def dirV (s e m r d c : Int) : Int := if runB s e m r d = true ∧ btw c 0 50000 = true then c + accV s e m r d else -1
noncomputable def cleB (s e m r d c : Int) : Bool := runB s e m r d && btw c (accV s e m r d) (50000 + accV s e m r d)
noncomputable def cleV (s e m r d c : Int) : Value := if cleB s e m r d c = true then .tuple #[.int .i64 (c - accV s e m r d), .bool true] else .tuple #[.int .i64 0, .bool false]
set_option maxHeartbeats 400000 in
theorem validPrice_any (n : Int) (w : World) :
    Calls Tryd.prog 65 #[.int .i64 n] w fun x w' => x = .returned (.bool (btw n 0 50000)) ∧ w = w' := by
  go_enter Tryd.func65, Tryd.ntmps65
  go_wp2_with (go_at_call 67; refine (between_any _ _ _ _).mono ?_; rintro e w2 ⟨rfl, rfl⟩)
  go_ret
  exact ⟨rfl, rfl⟩
set_option maxRecDepth 8000 in
set_option maxHeartbeats 1000000 in
theorem dirtyOf_any (s e m r d c : Int) (w : World) (hT : Tab w) :
    Calls Tryd.prog 30 #[boV s e m r, .int .i64 d, .int .i64 c] w fun x w' => x = .returned (.int .i64 (dirV s e m r d c)) ∧ Below w.heap.size w w' := by
  have HT := Lib.hid hT; clear hT
  have hbA := (Below.refl w.heap.size w).alloc (Nat.le_refl _) (.cells #[.int .i64 s, .int .i64 e, .int .i64 m, .int .i64 r] 24)
  have HTA := Lib.hid (HT.out.below hbA HT.out.pos)
  have HAC := Lib.hid (accruedOf_any s e m r d)
  cases hR : runB s e m r d with
  | false =>
    have E := Lib.hid (show dirV s e m r d c = -1 by unfold dirV; rw [if_neg (by simp [hR])])
    have ha := acc_no hR
    rw [ha] at HAC
    clear hR ha
    go_enter Tryd.func30, Tryd.ntmps30
    go_wp2_with fail
    refine (HAC.out _ HTA.out).mono ?_
    rintro x w1 ⟨rfl, hb1⟩
    go_wp2_with fail
    go_ret
    exact ⟨ret_int E.out.symm, hbA.trans (hb1.mono hbA.size)⟩
  | true =>
    obtain ⟨ac0, ac1⟩ := acc_bd hR
    cases hb : btw c 0 50000 with
    | false =>
      have E := Lib.hid (show dirV s e m r d c = -1 by unfold dirV; rw [if_neg (by simp [hb])])
      have HB := Lib.hid hb
      generalize accV s e m r d = A at *
      have d0 : decide (A < 0) = false := decide_eq_false (by omega)
      clear hR hb
      go_enter Tryd.func30, Tryd.ntmps30
      go_wp2_with fail
      refine (HAC.out _ HTA.out).mono ?_
      rintro x w1 ⟨rfl, hb1⟩
      go_wp2_with fail
      refine (validPrice_any _ _).mono ?_
      rw [HB.out]
      rintro x w2 ⟨rfl, rfl⟩
      go_wp2_with fail
      go_ret
      exact ⟨ret_int E.out.symm, hbA.trans (hb1.mono hbA.size)⟩
    | true =>
      have E := Lib.hid (show dirV s e m r d c = c + accV s e m r d by unfold dirV; rw [if_pos ⟨hR, hb⟩])
      have HB := Lib.hid hb
      obtain ⟨b0, b1⟩ := btw_iff.1 hb
      generalize accV s e m r d = A at *
      have d0 : decide (A < 0) = false := decide_eq_false (by omega)
      clear hR hb
      go_enter Tryd.func30, Tryd.ntmps30
      go_wp2_with fail
      refine (HAC.out _ HTA.out).mono ?_
      rintro x w1 ⟨rfl, hb1⟩
      go_wp2_with fail
      refine (validPrice_any _ _).mono ?_
      rw [HB.out]
      rintro x w2 ⟨rfl, rfl⟩
      go_wp2_with fail
      go_ret
      exact ⟨ret_int E.out.symm, hbA.trans (hb1.mono hbA.size)⟩
set_option maxRecDepth 8000 in
set_option maxHeartbeats 1000000 in
theorem cleanOf_any (s e m r d c : Int) (w : World) (hT : Tab w) :
    Calls Tryd.prog 32 #[boV s e m r, .int .i64 d, .int .i64 c] w fun x w' => x = .returned (cleV s e m r d c) ∧ Below w.heap.size w w' := by
  have HT := Lib.hid hT; clear hT
  have hbA := (Below.refl w.heap.size w).alloc (Nat.le_refl _) (.cells #[.int .i64 s, .int .i64 e, .int .i64 m, .int .i64 r] 24)
  have HTA := Lib.hid (HT.out.below hbA HT.out.pos)
  have HAC := Lib.hid (accruedOf_any s e m r d)
  cases hR : runB s e m r d with
  | false =>
    have E := Lib.hid (show cleV s e m r d c = .tuple #[.int .i64 0, .bool false] by unfold cleV cleB; rw [if_neg (by simp [hR])])
    have ha := acc_no hR
    rw [ha] at HAC
    clear hR ha
    go_enter Tryd.func32, Tryd.ntmps32
    go_wp2_with fail
    refine (HAC.out _ HTA.out).mono ?_
    rintro x w1 ⟨rfl, hb1⟩
    go_wp2_with fail
    go_ret2
    exact ⟨by rw [E.out]; rfl, hbA.trans (hb1.mono hbA.size)⟩
  | true =>
    obtain ⟨ac0, ac1⟩ := acc_bd hR
    cases hb : btw c (accV s e m r d) (50000 + accV s e m r d) with
    | false =>
      have E := Lib.hid (show cleV s e m r d c = .tuple #[.int .i64 0, .bool false] by unfold cleV cleB; rw [if_neg (by simp [hb])])
      have HB := Lib.hid hb
      clear hR hb
      generalize accV s e m r d = A at *
      have d0 : decide (A < 0) = false := decide_eq_false (by omega)
      go_enter Tryd.func32, Tryd.ntmps32
      go_wp2_with fail
      refine (HAC.out _ HTA.out).mono ?_
      rintro x w1 ⟨rfl, hb1⟩
      go_wp2_with fail
      refine (between_any _ _ _ _).mono ?_
      rw [HB.out]
      rintro x w2 ⟨rfl, rfl⟩
      go_wp2_with fail
      go_ret2
      exact ⟨by rw [E.out]; rfl, hbA.trans (hb1.mono hbA.size)⟩
    | true =>
      have E := Lib.hid (show cleV s e m r d c = .tuple #[.int .i64 (c - accV s e m r d), .bool true] by unfold cleV cleB; rw [if_pos (by simp [hR, hb])])
      have HB := Lib.hid hb
      obtain ⟨b0, b1⟩ := btw_iff.1 hb
      clear hR hb
      generalize accV s e m r d = A at *
      have d0 : decide (A < 0) = false := decide_eq_false (by omega)
      go_enter Tryd.func32, Tryd.ntmps32
      go_wp2_with fail
      refine (HAC.out _ HTA.out).mono ?_
      rintro x w1 ⟨rfl, hb1⟩
      go_wp2_with fail
      refine (between_any _ _ _ _).mono ?_
      rw [HB.out]
      rintro x w2 ⟨rfl, rfl⟩
      go_wp2_with fail
      go_ret2
      exact ⟨by rw [E.out]; rfl, hbA.trans (hb1.mono hbA.size)⟩
set_option maxRecDepth 8000 in
set_option maxHeartbeats 1000000 in
theorem sDirtyOf_any (s e m r d c : Int) (w : World) :
    Calls Tryd.prog 31 #[boV s e m r, .int .i64 d, .int .i64 c] w fun x w' => x = .returned (.int .i64 (dirV s e m r d c)) ∧ Below w.heap.size w w' := by
  have kB := Blk.new w #[.int .i64 s, .int .i64 e, .int .i64 m, .int .i64 r] 24
  have hbA := (Below.refl w.heap.size w).alloc (Nat.le_refl _) (.cells #[.int .i64 s, .int .i64 e, .int .i64 m, .int .i64 r] 24)
  cases hR : runB s e m r d with
  | false =>
    have E := Lib.hid (show dirV s e m r d c = -1 by unfold dirV; rw [if_neg (by simp [hR])])
    have HR := Lib.hid hR
    clear hR
    go_enter Tryd.func31, Tryd.ntmps31
    go_wp2_with fail
    refine (running_any _ _ _ _ _ _).mono ?_
    rw [HR.out]
    rintro x w1 ⟨rfl, hb1⟩
    go_wp2_with fail
    go_ret
    exact ⟨ret_int E.out.symm, hbA.trans (hb1.mono hbA.size)⟩
  | true =>
    have HR := Lib.hid hR
    obtain ⟨ac0, ac1⟩ := acc_bd hR
    have HS := Lib.hid (fun W => sAccrued_any s e m r d W hR)
    cases hb : btw c 0 50000 with
    | false =>
      have E := Lib.hid (show dirV s e m r d c = -1 by unfold dirV; rw [if_neg (by simp [hb])])
      have HB := Lib.hid hb
      clear hR hb
      go_enter Tryd.func31, Tryd.ntmps31
      go_wp2_with fail
      refine (running_any _ _ _ _ _ _).mono ?_
      rw [HR.out]
      rintro x w1 ⟨rfl, hb1⟩
      go_wp2_with fail
      refine (inRange_any _ _ _ _).mono ?_
      rw [HB.out]
      rintro x w2 ⟨rfl, rfl⟩
      go_wp2_with fail
      go_ret
      exact ⟨ret_int E.out.symm, hbA.trans (hb1.mono hbA.size)⟩
    | true =>
      have E := Lib.hid (show dirV s e m r d c = c + accV s e m r d by unfold dirV; rw [if_pos ⟨hR, hb⟩])
      have HB := Lib.hid hb
      obtain ⟨b0, b1⟩ := btw_iff.1 hb
      clear hR hb
      generalize accV s e m r d = A at *
      go_enter Tryd.func31, Tryd.ntmps31
      go_wp2_with fail
      refine (running_any _ _ _ _ _ _).mono ?_
      rw [HR.out]
      rintro x w1 ⟨rfl, hb1⟩
      replace kB := kB.below hb1 kB.lt
      replace hbA := hbA.trans (hb1.mono hbA.size)
      obtain ⟨c0, c1, c2, c3⟩ := kB.four
      go_wp2_with fail
      refine (inRange_any _ _ _ _).mono ?_
      rw [HB.out]
      rintro x w2 ⟨rfl, rfl⟩
      go_wp2_with fail
      refine (HS.out _).mono ?_
      rintro x w3 ⟨rfl, hb3⟩
      go_wp2_with fail
      go_ret
      exact ⟨ret_int E.out.symm, hbA.trans (hb3.mono hbA.size)⟩
end Go.Proofs.YtgaeclfjmhpocaaDoor
