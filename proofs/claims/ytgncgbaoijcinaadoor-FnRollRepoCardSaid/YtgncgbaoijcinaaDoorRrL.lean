/- The law of loans that are continued. -/
import Derived.Test.YtgncgbaoijcinaaDoorRpR
namespace Go.Proofs.YtgncgbaoijcinaaDoor
open Go.RowKit
set_option maxRecDepth 8000 in
set_option maxHeartbeats 8000000 in
theorem lawRollRepo (a : Option Addr) (len cap : Nat) (zs : List Int) (w : World) (h : IsRow .u8 w a len cap zs) (hT : Tab w) :
    Calls Tryd.prog 3 #[.slice a len cap] w fun e w' => e = .returned (.bool true) ∧ Below w.heap.size w w' := by
  have H := Lib.hid h; clear h
  have HT := Lib.hid hT; clear hT
  by_cases hl : 1048576 < (len : Int)
  · go_enter Tryd.func3, Tryd.ntmps3
    go_wp2_with fail
    go_ret
    exact ⟨rfl, Below.refl _ _⟩
  · have hl' := decide_eq_false hl
    clear hl
    go_enter Tryd.func3, Tryd.ntmps3
    go_wp2_with fail
    refine (drawRR_any _ _ _ _ _ H.out).mono ?_
    rintro e w1 ⟨c, r, f, t, h, u, m, rfl, ⟨q0, q1, q2, q3, q4⟩, hu, hm, hb⟩
    have K1 := ((Kp.refl w).below hb).new 24 (rpA c r f t h)
    clear hb
    obtain ⟨x0, x1, x2, x3, x4⟩ := K1.first.rp
    have IM := Lib.hid (fun W hT => roll_any c r f t h u m W hT)
    have SM := Lib.hid (fun W => sroll_any c r f t h u m W)
    have HRI := Lib.hid (fun W hT => rpInt_any c r f t h W hT)
    have HVR := Lib.hid (fun W => vRepo_any (c + intV c r 1 f t) m t u h W)
    have hne : ∀ x : Int, (x != x) = false := fun x => by simp
    by_cases hv : Rp.ok c r f t h = true ∧ Rp.ok (c + intV c r 1 f t) m t u h = true
    · rw [show Rp.rol c r f t h u m = .tuple #[rpV (c + intV c r 1 f t) m t u h, .bool true] from if_pos hv] at IM SM
      have hin := Rp.int_nn hv.1
      rw [Rp.int_yes hv.1] at HRI
      rw [hv.2] at HVR
      have W1 : IntKind.i64.wrap (c + intV c r 1 f t) = c + intV c r 1 f t := IntWalk.i64_in _ (by have := (Rp.ok_iff.1 hv.1).1; omega)
      clear hv
      generalize intV c r 1 f t = n at *
      have e0 := hne (c + n)
      have e1 := hne m
      have e2 := hne t
      have e3 := hne u
      have e4 := hne h
      have g0 : (c + n == c + n) = true := by simp
      have g1 : (m == m) = true := by simp
      have g2 : (t == t) = true := by simp
      have g3 : (u == u) = true := by simp
      have g4 : (h == h) = true := by simp
      clear hne
      go_wp2_with fail
      refine (IM.out _ (HT.out.below K1.1 HT.out.pos)).mono ?_
      rintro e w2 ⟨rfl, hb⟩
      have K2 := (K1.below hb).new 24 (rpA (c + n) m t u h)
      clear hb x0 x1 x2 x3 x4
      obtain ⟨y0, y1, y2, y3, y4⟩ := K2.first.rp
      obtain ⟨x0, x1, x2, x3, x4⟩ := K2.second.rp
      go_wp2_with fail
      refine (SM.out _).mono ?_
      rintro e w3 ⟨rfl, hb⟩
      have K3 := (K2.below hb).new 24 (rpA (c + n) m t u h)
      clear hb x0 x1 x2 x3 x4 y0 y1 y2 y3 y4
      obtain ⟨z0, z1, z2, z3, z4⟩ := K3.first.rp
      obtain ⟨y0, y1, y2, y3, y4⟩ := K3.second.rp
      obtain ⟨x0, x1, x2, x3, x4⟩ := K3.third.rp
      go_wp2_with fail
      have K3d := K3.drew
      have HC3 := Lib.hid (HRI.out _ (HT.out.below K3d.1 HT.out.pos))
      clear x0 x1 x2 x3 x4 y0 y1 y2 y3 y4 z0 z1 z2 z3 z4
      go_region_held3 (fun W => RpS w2.heap.size (c + n) m t u h W ∧ RpS w1.heap.size c r f t h W) (first | with_reducible exact ⟨K3.second.rp, K3.third.rp⟩ | with_reducible exact ⟨K3d.second.rp, K3d.third.rp⟩ | with_reducible exact ⟨K4.second.rp, K4.third.rp⟩ | with_reducible exact ⟨K5.second.rp, K5.third.rp⟩) (first | (go_at_call 7; (with_reducible refine (HC3.out).mono ?_); rintro e w4 ⟨rfl, hb4⟩; have K4 := K3d.below hb4; clear hb4) | (go_at_call 8; refine (HVR.out _).mono ?_; rintro e w5 ⟨rfl, hb5⟩; have K5 := K4.below hb5; clear hb5))
      all_goals
        go_wp2_with fail
        go_ret
        exact ⟨rfl, K5.1⟩
    · rw [show Rp.rol c r f t h u m = .tuple #[rpV 0 0 0 0 0, .bool false] from if_neg hv] at IM SM
      clear hv HRI HVR hne
      go_wp2_with fail
      refine (IM.out _ (HT.out.below K1.1 HT.out.pos)).mono ?_
      rintro e w2 ⟨rfl, hb⟩
      have K2 := (K1.below hb).new 24 (rpA 0 0 0 0 0)
      clear hb x0 x1 x2 x3 x4
      obtain ⟨y0, y1, y2, y3, y4⟩ := K2.first.rp
      obtain ⟨x0, x1, x2, x3, x4⟩ := K2.second.rp
      go_wp2_with fail
      refine (SM.out _).mono ?_
      rintro e w3 ⟨rfl, hb⟩
      have K3 := (K2.below hb).new 24 (rpA 0 0 0 0 0)
      clear hb x0 x1 x2 x3 x4 y0 y1 y2 y3 y4
      obtain ⟨z0, z1, z2, z3, z4⟩ := K3.first.rp
      obtain ⟨y0, y1, y2, y3, y4⟩ := K3.second.rp
      go_wp2_with fail
      go_ret
      exact ⟨rfl, K3.1⟩
end Go.Proofs.YtgncgbaoijcinaaDoor
