/- Discounts: the model. -/
import Derived.Test.YtfelledogdplaaaDoorDcB
import Derived.Test.YtfelledogdplaaaDoorRgt
namespace Go.Proofs.YtfelledogdplaaaDoor
open Go.RowKit
set_option maxHeartbeats 400000 in
theorem growth_any (y : Int) (w : World) (y0 : 0 ≤ y) (y1 : y ≤ 100000) :
    Calls Tryd.prog 32 #[.int .i64 y] w fun e w' => e = .returned (rV (1000000 + y) (1000000 + y)) ∧ Below w.heap.size w w' := by
  have W1 : IntKind.i64.wrap (1000000 + y) = 1000000 + y := IntWalk.i64_in _ (by omega)
  go_enter Tryd.func32, Tryd.ntmps32
  go_wp2_with fail
  refine bodyPost_ret (v := rV (1000000 + y) (1000000 + y)) (by simp [results, Tryd.results32, go_sem]) rfl ⟨rfl, ?_⟩
  repeat (first | exact Below.refl _ _ | refine Below.drew ?_ | refine Below.setCell ?_ (by simp <;> omega) _ | refine Below.alloc ?_ (by simp <;> omega) _)
set_option maxRecDepth 8000 in
set_option maxHeartbeats 4000000 in
theorem sdiscount_any (y p d : Int) (m : Nat) (w : World) (hok : Dc.ok y p d m = true) :
    Calls Tryd.prog 21 #[.int .i64 y, .int .i64 p, .int .i64 d, .int .i64 m] w fun e w' => e = .returned (rV (Dc.val y p d m).1 (Dc.val y p d m).2) ∧ Below w.heap.size w w' := by
  obtain ⟨⟨y0, y1⟩, ⟨d0, d1⟩, ⟨p0, p1⟩, n0, n1⟩ := Dc.ok_iff.1 hok
  have HV := Lib.hid (show Dc.val y p d m = (Dc.dl (Dc.hi y p d m), Dc.dh (Dc.lo y p d m)) by unfold Dc.val; rw [if_pos hok]; rfl)
  have HBd := Lib.hid (fun i (hi : i ≤ 40) => Dc.bd40 hok hi)
  have HM := Lib.hid (fun i (hi : i ≤ 40) => (Dc.mul_is (l := Dc.lo y p d i) (h := Dc.hi y p d i) (c := 1000000 + y) (by have := Dc.bd40 hok hi; omega) (Dc.bd40 hok hi).2.1 (Dc.bd40 hok hi).2.2 (by omega) (by omega)).2)
  obtain ⟨u0, u1⟩ := Dc.due_bd (d := d) y0 p0 p1
  have u2 : y * d ≤ 100000 * 4000 := Int.mul_le_mul y1 d1 (by omega) (by decide)
  have u3 : y * (d - p) ≤ 400000000 := by omega
  have W1 : IntKind.i64.wrap (y * (d - p)) = y * (d - p) := IntWalk.i64_in _ (by omega)
  obtain ⟨b0, -⟩ := HBd.out 0 (by omega)
  obtain ⟨-, b1, b2⟩ := HBd.out 0 (by omega)
  have e1 : Dc.lo y p d 0 = 1000000 + y * (d - p) / d := rfl
  have e2 : Dc.hi y p d 0 = 1000000 + -((-(y * (d - p))) / d) := rfl
  have H0 := Lib.hid (show Dc.lo y p d 0 = 1000000 + y * (d - p) / d ∧ Dc.hi y p d 0 = 1000000 + -((-(y * (d - p))) / d) from ⟨e1, e2⟩)
  rw [e1] at b0 b1
  rw [e2] at b1 b2
  have W2 : IntKind.i64.wrap (1000000 + y * (d - p) / d) = 1000000 + y * (d - p) / d := IntWalk.i64_in _ (by omega)
  have W3 : IntKind.i64.wrap (1000000 + -((-(y * (d - p))) / d)) = 1000000 + -((-(y * (d - p))) / d) := IntWalk.i64_in _ (by omega)
  have HFl := Lib.hid (fun W => rsFloored_any (y * (d - p)) d W (by omega) (by omega) d0 (by omega))
  have HCl := Lib.hid (fun W => rsCeiled_any (y * (d - p)) d W (by omega) (by omega) d0 (by omega))
  clear e1 e2 u1 u2 hok
  go_enter Tryd.func21, Tryd.ntmps21
  go_wp2_with (first | (go_at_call 29; refine (HFl.out _).mono ?_; rintro e w' ⟨rfl, rfl⟩) | (go_at_call 30; refine (HCl.out _).mono ?_; rintro e w' ⟨rfl, rfl⟩))
  rw [← H0.out.1, ← H0.out.2]
  go_loopw [11] (fun x wr => ∃ k : Nat, k ≤ m ∧ x = .int .i64 k ∧ Hid (Blk wr (w.heap.size + 1 + 1) 26 #[.int .i64 (Dc.lo y p d k), .int .i64 (Dc.hi y p d k)]) ∧ Hid (Blk wr w.heap.size 26 #[.int .i64 0, .int .i64 0]) ∧ Hid (Below w.heap.size w wr)) (fun x _ => m - (intOf x).toNat)
  case atStart =>
    refine ⟨0, Nat.zero_le _, rfl, ?_, ?_, ?_⟩
    · have h := Blk.new ((w.alloc (.cells #[.int .i64 0, .int .i64 0] 26)).alloc (.cells #[.int .i64 (Dc.lo y p d 0), .int .i64 (Dc.hi y p d 0)] 26)) #[.int .i64 (Dc.lo y p d 0), .int .i64 (Dc.hi y p d 0)] 26
      rw [World.size_alloc, World.size_alloc] at h
      exact Lib.hid h
    · exact Lib.hid (((Blk.new w #[.int .i64 0, .int .i64 0] 26).alloc _).alloc _)
    · exact Lib.hid ((((Below.refl w.heap.size w).alloc (Nat.le_refl _) _).alloc (by simp) _).alloc (by simp; omega) _)
  case round =>
    obtain ⟨k, hk, rfl, HA, HR, HB⟩ := hrel
    by_cases hlt : k < m
    · have hd1 := decide_eq_true (show (k : Int) < m by omega)
      obtain ⟨q0, q1, q2⟩ := HBd.out k (by omega)
      obtain ⟨m1, m2⟩ := HM.out k (by omega)
      have HMl := Lib.hid (fun W => sMulR_any (Dc.lo y p d k) (Dc.hi y p d k) (1000000 + y) (1000000 + y) W (by omega) q1 (by omega) (by omega) (Int.le_refl _) (by omega))
      rw [m1, m2] at HMl
      have e1 : Rg.fl (Dc.lo y p d k * (1000000 + y)) = Dc.lo y p d (k + 1) := rfl
      have e2 : Rg.cl (Dc.hi y p d k * (1000000 + y)) = Dc.hi y p d (k + 1) := rfl
      rw [e1, e2] at HMl
      have GR := Lib.hid (fun W => growth_any y W y0 y1)
      clear m1 m2 e1 e2
      have HAl := HA.out.lt
      have HB2 := HB
      generalize Dc.lo y p d k = l0 at HA HMl
      generalize Dc.hi y p d k = h0 at HA HMl
      obtain ⟨l1, hl1⟩ : ∃ l1, l1 = Dc.lo y p d (k + 1) := ⟨_, rfl⟩
      obtain ⟨h1, hh1⟩ : ∃ h1, h1 = Dc.hi y p d (k + 1) := ⟨_, rfl⟩
      rw [← hl1, ← hh1] at HMl
      have HE1 := Lib.hid (And.intro hl1 hh1)
      clear hl1 hh1
      obtain ⟨⟨a0, a1⟩, af0, af1⟩ := HA.out.two
      go_wp2_with fail
      go_region_with (first | (go_at_call 32; (with_reducible refine (GR.out _).mono ?_); rintro e w5 ⟨rfl, hb5⟩; have k5 := Blk.below (blkDrewD HA.out) hb5 (by simp; omega); obtain ⟨⟨x0, x1⟩, xf0, xf1⟩ := k5.two) | (go_at_call 31; (with_reducible refine (HMl.out _).mono ?_); rintro e w6 ⟨rfl, hb6⟩; have k6 := Blk.below k5 hb6 k5.lt; obtain ⟨⟨z0, z1⟩, zf0, zf1⟩ := k6.two))
      all_goals try go_wp2_with fail
      all_goals
        have r6 := ((blkDrewD HR.out).below hb5 HR.out.lt).below hb6 (by have := HR.out.lt; have := hb5.size; simp at this; omega)
        have b6 := (HB2.out.drew.trans (hb5.mono HB2.out.size)).trans (hb6.mono (by have := hb5.size; have := HB2.out.size; simp at *; omega))
        go_roundw
        case rel => exact ⟨k + 1, by omega, by go_num, by rw [← HE1.out.1, ← HE1.out.2]; exact Lib.hid (k6.wr2 _ _), Lib.hid ((r6.setD (by omega) _).setD (by omega) _), Lib.hid ((b6.setCell (by simp; omega) _).setCell (by simp; omega) _)⟩
        case measure => simp [intOf]; omega
    · obtain rfl : k = m := by omega
      have hd1 : decide ((k : Int) < k) = false := by simp
      have HAl := HA.out.lt
      obtain ⟨q0, q1, q2⟩ := HBd.out k (by omega)
      have HDv := Lib.hid (fun W => show Calls Tryd.prog 33 #[rV 1000000 1000000, rV (Dc.lo y p d k) (Dc.hi y p d k)] W fun e w' => e = .returned (rV (Dc.dl (Dc.hi y p d k)) (Dc.dh (Dc.lo y p d k))) ∧ Below W.heap.size W w' from sDivR_any 1000000 1000000 (Dc.lo y p d k) (Dc.hi y p d k) W (by omega) (Int.le_refl _) (by omega) (by omega) q1 (by omega))
      have EX := Lib.hid (fun W => exactOne_any W)
      have HB2 := HB
      obtain ⟨L, hL⟩ : ∃ L, L = Dc.dl (Dc.hi y p d k) := ⟨_, rfl⟩
      obtain ⟨U, hU⟩ : ∃ U, U = Dc.dh (Dc.lo y p d k) := ⟨_, rfl⟩
      rw [← hL, ← hU] at HDv
      have HE1 := Lib.hid (show Dc.val y p d k = (L, U) by rw [HV.out, hL, hU])
      clear hL hU
      generalize Dc.lo y p d k = l0 at HA HDv
      generalize Dc.hi y p d k = h0 at HA HDv
      obtain ⟨⟨a0, a1⟩, af0, af1⟩ := HA.out.two
      go_wp2_with fail
      go_region_with (first | (go_at_call 34; (with_reducible refine (EX.out _).mono ?_); rintro e w5 ⟨rfl, hb5⟩; have k5 := Blk.below (blkDrewD HA.out) hb5 (by simp; omega); obtain ⟨⟨x0, x1⟩, xf0, xf1⟩ := k5.two) | (go_at_call 33; (with_reducible refine (HDv.out _).mono ?_); rintro e w6 ⟨rfl, hb6⟩; have r6 := ((blkDrewD HR.out).below hb5 HR.out.lt).below hb6 (by have := HR.out.lt; have := hb5.size; simp at this; omega); obtain ⟨⟨z0, z1⟩, zf0, zf1⟩ := r6.two))
      all_goals go_wp2_with fail
      all_goals
        have b6 := (HB2.out.drew.trans (hb5.mono HB2.out.size)).trans (hb6.mono (by have := hb5.size; have := HB2.out.size; simp at *; omega))
        obtain ⟨⟨q0, q1⟩, -, -⟩ := (r6.wr2 (.int .i64 L) (.int .i64 U)).two
        refine bodyPost_ret (v := rV L U) (by simp [results, Tryd.results21, go_sem, q0, q1]) rfl ⟨by rw [HE1.out], (b6.setCell (by simp) _).setCell (by simp) _⟩
theorem sBtwC_any (x l h : Int) (b : Bool) (hb : btw x l h = b) (w : World) : Calls Tryd.prog 20 #[.int .i64 x, .int .i64 l, .int .i64 h] w fun e w' => e = .returned (.bool b) ∧ w = w' := hb ▸ inRange_any x l h w
theorem sVYieldC_any (n : Int) (b : Bool) (hb : btw n 0 100000 = b) (w : World) : Calls Tryd.prog 19 #[.int .i64 n] w fun e w' => e = .returned (.bool b) ∧ w = w' := by
  go_enter Tryd.func19, Tryd.ntmps19
  go_wp2_with fail
  refine (sBtwC_any _ _ _ b hb _).mono ?_
  rintro e w1 ⟨rfl, rfl⟩
  go_wp2_with fail
  go_ret
  exact ⟨rfl, rfl⟩
end Go.Proofs.YtfelledogdplaaaDoor
