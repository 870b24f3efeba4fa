/- The walk of the model's powers of ranges. -/
import Derived.Test.YtcoljkafbpnpnaaDoorRgt
namespace Go.Proofs.YtcoljkafbpnpnaaDoor
open Go.RowKit
set_option maxHeartbeats 2000000 in
theorem sPowRange_any (p q n : Int) (w : World) :
    Calls Tryd.prog 28 #[rV p q, .int .i64 n] w fun e w' => e = .returned (tv (Rg.pow p q n)) ∧ Below w.heap.size w w' := by
  have kA := (Blk.new w #[.int .i64 p, .int .i64 q] 24).alloc (.cells #[.int .i64 0, .int .i64 0] 24)
  have kR := Blk.new (w.alloc (.cells #[.int .i64 p, .int .i64 q] 24)) #[.int .i64 0, .int .i64 0] 24
  have hbA := ((Below.refl w.heap.size w).alloc (Nat.le_refl _) (.cells #[.int .i64 p, .int .i64 q] 24)).alloc (by simp) (.cells #[.int .i64 0, .int .i64 0] 24)
  simp only [World.size_alloc] at kA kR
  cases hv : Rg.vr p q with
  | false =>
    have E := Lib.hid (tv_no (Rg.pow_no (a := p) (b := q) (n := n) (Rg.pok_f (fun k => by rw [hv] at k; cases k.1))))
    go_enter Tryd.func28, Tryd.ntmps28
    go_wp2_with fail
    refine (sValidR_any _ _ _).mono ?_
    rintro e w1 ⟨rfl, hb1⟩
    replace kA := kA.below hb1 (by simp <;> omega)
    replace kR := kR.below hb1 (by simp)
    replace hbA := hbA.trans (hb1.mono hbA.size)
    obtain ⟨⟨x0, x1⟩, _, _⟩ := kA.two
    obtain ⟨⟨r0, r1⟩, f0, f1⟩ := kR.two
    go_wp2_with fail
    refine bodyPost_ret (v := .tuple #[rV 0 0, .bool false]) (by simp [results, Tryd.results28, go_sem, r0, r1]) rfl ⟨by rw [E.out], ?_⟩
    repeat (first | exact Below.refl _ _ | exact hbA | refine Below.drew ?_ | refine Below.setCell ?_ (by simp <;> omega) _ | refine Below.alloc ?_ (by simp <;> omega) _)
  | true =>
    by_cases c1 : p < 0
    · have d1 := decide_eq_true c1
      have E := Lib.hid (tv_no (Rg.pow_no (a := p) (b := q) (n := n) (Rg.pok_f (fun k => by omega))))
      go_enter Tryd.func28, Tryd.ntmps28
      go_wp2_with fail
      refine (sValidR_any _ _ _).mono ?_
      rintro e w1 ⟨rfl, hb1⟩
      replace kA := kA.below hb1 (by simp <;> omega)
      replace kR := kR.below hb1 (by simp)
      replace hbA := hbA.trans (hb1.mono hbA.size)
      obtain ⟨⟨x0, x1⟩, _, _⟩ := kA.two
      obtain ⟨⟨r0, r1⟩, f0, f1⟩ := kR.two
      go_wp2_with fail
      refine bodyPost_ret (v := .tuple #[rV 0 0, .bool false]) (by simp [results, Tryd.results28, go_sem, r0, r1]) rfl ⟨by rw [E.out], ?_⟩
      repeat (first | exact Below.refl _ _ | exact hbA | refine Below.drew ?_ | refine Below.setCell ?_ (by simp <;> omega) _ | refine Below.alloc ?_ (by simp <;> omega) _)
    · have d1 := decide_eq_false c1
      cases hb : btw n 0 40 with
      | false =>
        have E := Lib.hid (tv_no (Rg.pow_no (a := p) (b := q) (n := n) (Rg.pok_f (fun k => by have := btw_iff_f.1 hb; omega))))
        go_enter Tryd.func28, Tryd.ntmps28
        go_wp2_with fail
        refine (sValidR_any _ _ _).mono ?_
        rintro e w1 ⟨rfl, hb1⟩
        replace kA := kA.below hb1 (by simp <;> omega)
        replace kR := kR.below hb1 (by simp)
        replace hbA := hbA.trans (hb1.mono hbA.size)
        obtain ⟨⟨x0, x1⟩, _, _⟩ := kA.two
        obtain ⟨⟨r0, r1⟩, f0, f1⟩ := kR.two
        go_wp2_with fail
        refine (inRange_any _ _ _ _).mono ?_
        rw [hb]
        rintro e w2 ⟨rfl, rfl⟩
        go_wp2_with fail
        refine bodyPost_ret (v := .tuple #[rV 0 0, .bool false]) (by simp [results, Tryd.results28, go_sem, r0, r1]) rfl ⟨by rw [E.out], ?_⟩
        repeat (first | exact Below.refl _ _ | exact hbA | refine Below.drew ?_ | refine Below.setCell ?_ (by simp <;> omega) _ | refine Below.alloc ?_ (by simp <;> omega) _)
      | true =>
        obtain ⟨n0, n1⟩ := btw_iff.1 hb
        have E := Lib.hid (Rg.pow_yes' (Rg.pok_iff.2 ⟨hv, by omega, n0, n1⟩))
        obtain ⟨N, rfl⟩ := Int.eq_ofNat_of_zero_le n0
        simp only [Int.toNat_natCast] at E
        go_enter Tryd.func28, Tryd.ntmps28
        go_wp2_with fail
        refine (sValidR_any _ _ _).mono ?_
        rintro e w1 ⟨rfl, hb1⟩
        replace kA := kA.below hb1 (by simp <;> omega)
        replace kR := kR.below hb1 (by simp)
        replace hbA := hbA.trans (hb1.mono hbA.size)
        obtain ⟨⟨x0, x1⟩, _, _⟩ := kA.two
        obtain ⟨⟨r0, r1⟩, f0, f1⟩ := kR.two
        go_wp2_with fail
        refine (inRange_any _ _ _ _).mono ?_
        rw [hb]
        rintro e w2 ⟨rfl, rfl⟩
        go_wp2_with fail
        refine (exactOne_any _).mono ?_
        rintro e w2 ⟨rfl, hb2⟩
        have kP := Blk.new w2 #[.int .i64 1000000, .int .i64 1000000] 24
        replace kA := (kA.below hb2 kA.lt).alloc (.cells #[.int .i64 1000000, .int .i64 1000000] 24)
        have hl2 : w.heap.size + 1 < w2.heap.size := (kR.below hb2 kR.lt).lt
        replace kR := (kR.below hb2 kR.lt).alloc (.cells #[.int .i64 1000000, .int .i64 1000000] 24)
        replace hbA := hbA.trans (hb2.mono hbA.size)
        have hsz := hbA.size
        replace hbA := hbA.alloc hsz (.cells #[.int .i64 1000000, .int .i64 1000000] 24)
        clear x0 x1 r0 r1 f0 f1 hb1 hb2
        go_wp2_with fail
        go_loopw [7] (fun x wr => ∃ (i : Nat) (u v : Int), i ≤ N ∧ x = .int .i64 i ∧ Hid (Rg.pw p q i = (u, v, true)) ∧ Hid (Blk wr w2.heap.size 24 #[.int .i64 u, .int .i64 v]) ∧ Hid (Blk wr w.heap.size 24 #[.int .i64 p, .int .i64 q]) ∧ Hid (Blk wr (w.heap.size + 1) 24 #[.int .i64 0, .int .i64 0]) ∧ Hid (Below w.heap.size w wr)) (fun x _ => N - (intOf x).toNat)
        case atStart => exact ⟨0, 1000000, 1000000, by omega, rfl, Lib.hid rfl, Lib.hid kP, Lib.hid kA, Lib.hid kR, Lib.hid hbA⟩
        case round =>
          obtain ⟨i, u, v, hi, rfl, HW, HP, HA, HR, HB⟩ := hrel
          have kp := HP.out
          have ka := HA.out
          have kr := HR.out
          have kb := HB.out
          have hbs := kb.size
          have hps := kp.lt
          by_cases hlt : i < N
          · obtain ⟨⟨u0, u1⟩, uf0, uf1⟩ := kp.two
            obtain ⟨⟨a0, a1⟩, _, _⟩ := ka.two
            rcases good_cases (Rg.good_mul u v p q) with ⟨m, k, hr⟩ | hr
            · have TM : ∀ W : World, Calls Tryd.prog 21 #[rV u v, rV p q] W fun e w' => e = .returned (.tuple #[rV m k, .bool true]) ∧ Below W.heap.size W w' := fun W => by
                have := sMulRange_any u v p q W
                rw [tv_yes hr] at this
                exact this
              have HN := Lib.hid ((Rg.pw_next HW.out).trans hr)
              have T := Lib.hid TM
              clear hr TM
              go_wp2_with fail
              refine (T.out _).mono ?_
              rintro e w3 ⟨rfl, hb3⟩
              replace kp := kp.below hb3 kp.lt
              replace ka := ka.below hb3 ka.lt
              replace kr := kr.below hb3 kr.lt
              replace kb := kb.trans (hb3.mono kb.size)
              clear u0 u1 uf0 uf1 a0 a1
              replace kp := kp.alloc (.cells #[.int .i64 m, .int .i64 k] 24)
              replace ka := ka.alloc (.cells #[.int .i64 m, .int .i64 k] 24)
              replace kr := kr.alloc (.cells #[.int .i64 m, .int .i64 k] 24)
              have kbs := kb.size
              replace kb := kb.alloc kbs (.cells #[.int .i64 m, .int .i64 k] 24)
              obtain ⟨⟨u0, u1⟩, uf0, uf1⟩ := kp.two
              go_wp2_with fail
              go_round
              case rel => exact ⟨i + 1, m, k, by omega, by simp, HN, Lib.hid (kp.set2 _ _), Lib.hid ((ka.set (by dsimp only; omega) _).set (by dsimp only; omega) _), Lib.hid ((kr.set (by dsimp only; omega) _).set (by dsimp only; omega) _), Lib.hid ((kb.setCell (by simp; omega) _).setCell (by simp; omega) _)⟩
              case measure => simp [intOf]; omega
            · have TM : ∀ W : World, Calls Tryd.prog 21 #[rV u v, rV p q] W fun e w' => e = .returned (.tuple #[rV 0 0, .bool false]) ∧ Below W.heap.size W w' := fun W => by
                have := sMulRange_any u v p q W
                rw [tv_no hr] at this
                exact this
              have HN : Hid (Rg.pw p q N = Rg.no) := Lib.hid (by
                have := Rg.pw_stop ((Rg.pw_next HW.out).trans hr) (N - (i + 1))
                rwa [show i + 1 + (N - (i + 1)) = N by omega] at this)
              have E2 := Lib.hid (tv_no (E.out.trans HN.out))
              have T := Lib.hid TM
              clear hr TM
              go_wp2_with fail
              refine (T.out _).mono ?_
              rintro e w3 ⟨rfl, hb3⟩
              replace kr := kr.below hb3 kr.lt
              replace kb := kb.trans (hb3.mono kb.size)
              clear u0 u1 uf0 uf1 a0 a1
              replace kr := kr.alloc (.cells #[.int .i64 0, .int .i64 0] 24)
              have kbs := kb.size
              have hbA := kb.alloc kbs (.cells #[.int .i64 0, .int .i64 0] 24)
              obtain ⟨⟨r0, r1⟩, rf0, rf1⟩ := kr.two
              go_wp2_with fail
              refine bodyPost_ret (v := .tuple #[rV 0 0, .bool false]) (by simp [results, Tryd.results28, go_sem, r0, r1]) rfl ⟨by rw [E2.out], ?_⟩
              repeat (first | exact Below.refl _ _ | exact hbA | refine Below.drew ?_ | refine Below.setCell ?_ (by simp <;> omega) _ | refine Below.alloc ?_ (by simp <;> omega) _)
          · have h1 : decide ((i : Int) < (N : Int)) = false := decide_eq_false (by omega)
            obtain rfl : i = N := by omega
            have hbA := kb
            have E2 := Lib.hid (E.out.trans HW.out)
            obtain ⟨⟨u0, u1⟩, uf0, uf1⟩ := kp.two
            obtain ⟨⟨r0, r1⟩, rf0, rf1⟩ := kr.two
            go_wp2_with fail
            refine bodyPost_ret (v := .tuple #[rV u v, .bool true]) (by simp [results, Tryd.results28, go_sem, r0, r1]) rfl ⟨by rw [tv_yes E2.out], ?_⟩
            repeat (first | exact Below.refl _ _ | exact hbA | refine Below.drew ?_ | refine Below.setCell ?_ (by simp <;> omega) _ | refine Below.alloc ?_ (by simp <;> omega) _)
end Go.Proofs.YtcoljkafbpnpnaaDoor
