/- The walks of the model's ranges: the functions that the laws call. -/
import Derived.Test.YtdmamojidefdaaaDoorRgs
namespace Go.Proofs.YtdmamojidefdaaaDoor
open Go.RowKit
set_option maxHeartbeats 1000000 in
theorem sDivR_any (p q r s : Int) (w : World) (g1 : -2000000000 ≤ p) (g2 : p ≤ q) (g3 : q ≤ 2000000000) (i1 : 0 < r) (i2 : r ≤ s) (i3 : s ≤ 2000000000) :
    Calls Tryd.prog 19 #[rV p q, rV r s] w fun e w' => e = .returned (rV (p * 1000000 / s) (-((-(q * 1000000)) / r))) ∧ Below w.heap.size w w' := by
  have kA := ((Blk.new w #[.int .i64 p, .int .i64 q] 24).alloc (.cells #[.int .i64 r, .int .i64 s] 24)).alloc (.cells #[.int .i64 0, .int .i64 0] 24)
  have kB := (Blk.new (w.alloc (.cells #[.int .i64 p, .int .i64 q] 24)) #[.int .i64 r, .int .i64 s] 24).alloc (.cells #[.int .i64 0, .int .i64 0] 24)
  have kR := Blk.new ((w.alloc (.cells #[.int .i64 p, .int .i64 q] 24)).alloc (.cells #[.int .i64 r, .int .i64 s] 24)) #[.int .i64 0, .int .i64 0] 24
  have hbA := (((Below.refl w.heap.size w).alloc (Nat.le_refl _) (.cells #[.int .i64 p, .int .i64 q] 24)).alloc (by simp) (.cells #[.int .i64 r, .int .i64 s] 24)).alloc (by simp; omega) (.cells #[.int .i64 0, .int .i64 0] 24)
  simp only [World.size_alloc] at kA kB kR
  have K := Lib.hid (Ov.mk kA.two.1.1 kA.two.1.2 kB.two.1.1 kB.two.1.2 kR hbA)
  clear kA kB kR hbA
  have W1 : IntKind.i64.wrap (p * 1000000) = p * 1000000 := IntWalk.i64_in _ (by omega)
  have W2 : IntKind.i64.wrap (q * 1000000) = q * 1000000 := IntWalk.i64_in _ (by omega)
  go_enter Tryd.func19, Tryd.ntmps19
  go_wp2_with fail
  generalize ((w.alloc (.cells #[.int .i64 p, .int .i64 q] 24)).alloc (.cells #[.int .i64 r, .int .i64 s] 24)).alloc (.cells #[.int .i64 0, .int .i64 0] 24) = W0 at K ⊢
  obtain ⟨⟨r0, r1⟩, f0, f1⟩ := K.out.kR.two
  go_region_held3 (OvS w.heap.size p q r s) (first | exact K.out.drew.cells | exact K.out.drew.cells_set _ _) (first | (go_at_call 29; (try rw [W1]); with_reducible refine (rsFloored_any (p * 1000000) s _ (by omega) (by omega) (by omega) (by omega)).mono ?_; rintro e w4 ⟨rfl, rfl⟩) | (go_at_call 30; (try rw [W2]); with_reducible refine (rsCeiled_any (q * 1000000) r _ (by omega) (by omega) (by omega) (by omega)).mono ?_; rintro e w4 ⟨rfl, rfl⟩))
  all_goals go_wp2_with fail
  all_goals
    have hbA := K.out.bel
    refine bodyPost_ret (v := rV (p * 1000000 / s) (-((-(q * 1000000)) / r))) (by simp [results, Tryd.results19, go_sem, r0, r1]) rfl ⟨rfl, ?_⟩
    repeat (first | exact Below.refl _ _ | exact hbA | refine Below.drew ?_ | refine Below.setCell ?_ (by simp <;> omega) _ | refine Below.alloc ?_ (by simp <;> omega) _)
set_option maxHeartbeats 1000000 in
theorem sDivRange_any (p q r s : Int) (w : World) :
    Calls Tryd.prog 8 #[rV p q, rV r s] w fun e w' => e = .returned (tv (Rg.div p q r s)) ∧ Below w.heap.size w w' := by
  have kA := ((Blk.new w #[.int .i64 p, .int .i64 q] 24).alloc (.cells #[.int .i64 r, .int .i64 s] 24)).alloc (.cells #[.int .i64 0, .int .i64 0] 24)
  have kB := (Blk.new (w.alloc (.cells #[.int .i64 p, .int .i64 q] 24)) #[.int .i64 r, .int .i64 s] 24).alloc (.cells #[.int .i64 0, .int .i64 0] 24)
  have kR := Blk.new ((w.alloc (.cells #[.int .i64 p, .int .i64 q] 24)).alloc (.cells #[.int .i64 r, .int .i64 s] 24)) #[.int .i64 0, .int .i64 0] 24
  have hbA := (((Below.refl w.heap.size w).alloc (Nat.le_refl _) (.cells #[.int .i64 p, .int .i64 q] 24)).alloc (by simp) (.cells #[.int .i64 r, .int .i64 s] 24)).alloc (by simp; omega) (.cells #[.int .i64 0, .int .i64 0] 24)
  simp only [World.size_alloc] at kA kB kR
  cases hv1 : Rg.vr p q with
  | false =>
    have E := Lib.hid (tv_no (show Rg.div p q r s = Rg.no by exact Rg.div_no (by simp [hv1])))
    go_enter Tryd.func8, Tryd.ntmps8
    go_wp2_with fail
    refine (sValidR_any _ _ _).mono ?_
    rintro e w1 ⟨rfl, hb1⟩
    replace kR := kR.below hb1 (by simp)
    replace hbA := hbA.trans (hb1.mono hbA.size)
    obtain ⟨⟨r0, r1⟩, f0, f1⟩ := kR.two
    clear kA kB
    go_wp2_with fail
    refine bodyPost_ret (v := .tuple #[rV 0 0, .bool false]) (by simp [results, Tryd.results8, go_sem, r0, r1]) rfl ⟨by rw [E.out], ?_⟩
    repeat (first | exact Below.refl _ _ | exact hbA | refine Below.drew ?_ | refine Below.setCell ?_ (by simp <;> omega) _ | refine Below.alloc ?_ (by simp <;> omega) _)
  | true =>
    cases hv2 : Rg.vr r s with
    | false =>
      have E := Lib.hid (tv_no (show Rg.div p q r s = Rg.no by exact Rg.div_no (by simp [hv2])))
      go_enter Tryd.func8, Tryd.ntmps8
      go_wp2_with fail
      refine (sValidR_any _ _ _).mono ?_
      rintro e w1 ⟨rfl, hb1⟩
      replace kR := kR.below hb1 (by simp)
      replace kB := kB.below hb1 (by simp)
      replace hbA := hbA.trans (hb1.mono hbA.size)
      obtain ⟨⟨x0, x1⟩, _, _⟩ := kB.two
      go_wp2_with fail
      refine (sValidR_any _ _ _).mono ?_
      rintro e w2 ⟨rfl, hb2⟩
      replace kR := kR.below hb2 kR.lt
      replace hbA := hbA.trans (hb2.mono hbA.size)
      obtain ⟨⟨r0, r1⟩, f0, f1⟩ := kR.two
      clear kA kB x0 x1
      go_wp2_with fail
      refine bodyPost_ret (v := .tuple #[rV 0 0, .bool false]) (by simp [results, Tryd.results8, go_sem, r0, r1]) rfl ⟨by rw [E.out], ?_⟩
      repeat (first | exact Below.refl _ _ | exact hbA | refine Below.drew ?_ | refine Below.setCell ?_ (by simp <;> omega) _ | refine Below.alloc ?_ (by simp <;> omega) _)
    | true =>
      obtain ⟨g1, g2, g3⟩ := Rg.vr_iff.1 hv1
      obtain ⟨i1, i2, i3⟩ := Rg.vr_iff.1 hv2
      by_cases c1 : p < 0
      · have E := Lib.hid (tv_no (Rg.div_no (a := p) (b := q) (c := r) (d := s) (fun k => by omega)))
        have d1 := decide_eq_true c1
        go_enter Tryd.func8, Tryd.ntmps8
        go_wp2_with fail
        refine (sValidR_any _ _ _).mono ?_
        rintro e w1 ⟨rfl, hb1⟩
        replace kR := kR.below hb1 (by simp)
        replace kB := kB.below hb1 (by simp)
        replace kA := kA.below hb1 (by simp; omega)
        replace hbA := hbA.trans (hb1.mono hbA.size)
        obtain ⟨⟨x0, x1⟩, _, _⟩ := kB.two
        go_wp2_with fail
        refine (sValidR_any _ _ _).mono ?_
        rintro e w2 ⟨rfl, hb2⟩
        replace kR := kR.below hb2 kR.lt
        replace kB := kB.below hb2 kB.lt
        replace kA := kA.below hb2 kA.lt
        replace hbA := hbA.trans (hb2.mono hbA.size)
        clear x0 x1
        obtain ⟨⟨x0, x1⟩, _, _⟩ := kB.two
        obtain ⟨⟨y0, y1⟩, _, _⟩ := kA.two
        obtain ⟨⟨r0, r1⟩, f0, f1⟩ := kR.two
        go_wp2_with fail
        refine bodyPost_ret (v := .tuple #[rV 0 0, .bool false]) (by simp [results, Tryd.results8, go_sem, r0, r1]) rfl ⟨by rw [E.out], ?_⟩
        repeat (first | exact Below.refl _ _ | exact hbA | refine Below.drew ?_ | refine Below.setCell ?_ (by simp <;> omega) _ | refine Below.alloc ?_ (by simp <;> omega) _)
      · have d1 := decide_eq_false c1
        by_cases c2 : r ≤ 0
        · have E := Lib.hid (tv_no (Rg.div_no (a := p) (b := q) (c := r) (d := s) (fun k => by omega)))
          have d2 := decide_eq_true c2
          go_enter Tryd.func8, Tryd.ntmps8
          go_wp2_with fail
          refine (sValidR_any _ _ _).mono ?_
          rintro e w1 ⟨rfl, hb1⟩
          replace kR := kR.below hb1 (by simp)
          replace kB := kB.below hb1 (by simp)
          replace kA := kA.below hb1 (by simp; omega)
          replace hbA := hbA.trans (hb1.mono hbA.size)
          obtain ⟨⟨x0, x1⟩, _, _⟩ := kB.two
          go_wp2_with fail
          refine (sValidR_any _ _ _).mono ?_
          rintro e w2 ⟨rfl, hb2⟩
          replace kR := kR.below hb2 kR.lt
          replace kB := kB.below hb2 kB.lt
          replace kA := kA.below hb2 kA.lt
          replace hbA := hbA.trans (hb2.mono hbA.size)
          clear x0 x1
          obtain ⟨⟨x0, x1⟩, _, _⟩ := kB.two
          obtain ⟨⟨y0, y1⟩, _, _⟩ := kA.two
          obtain ⟨⟨r0, r1⟩, f0, f1⟩ := kR.two
          go_wp2_with fail
          refine bodyPost_ret (v := .tuple #[rV 0 0, .bool false]) (by simp [results, Tryd.results8, go_sem, r0, r1]) rfl ⟨by rw [E.out], ?_⟩
          repeat (first | exact Below.refl _ _ | exact hbA | refine Below.drew ?_ | refine Below.setCell ?_ (by simp <;> omega) _ | refine Below.alloc ?_ (by simp <;> omega) _)
        · have d2 := decide_eq_false c2
          have E := Lib.hid (show tv (Rg.div p q r s) = tv (Rg.chk (p * 1000000 / s) (-((-(q * 1000000)) / r))) by rw [Rg.div_yes ⟨hv1, hv2, by omega, by omega⟩])
          rcases sh_two (p * 1000000 / s) (-((-(q * 1000000)) / r)) with ⟨hf, -⟩ | ⟨hf, -⟩
          · have LI : ∀ W : World, Calls Tryd.prog 18 #[rV (p * 1000000 / s) (-((-(q * 1000000)) / r))] W fun e w' => e = .returned (.tuple #[rV (p * 1000000 / s) (-((-(q * 1000000)) / r)), .bool true]) ∧ Below W.heap.size W w' := fun W => by
              have := inLimits_any (p * 1000000 / s) (-((-(q * 1000000)) / r)) W
              rw [hf] at this
              exact this
            have E2 := Lib.hid (E.out.trans hf)
            have L := Lib.hid LI
            clear hf LI
            go_enter Tryd.func8, Tryd.ntmps8
            go_wp2_with fail
            refine (sValidR_any _ _ _).mono ?_
            rintro e w1 ⟨rfl, hb1⟩
            replace kR := kR.below hb1 (by simp)
            replace kB := kB.below hb1 (by simp)
            replace kA := kA.below hb1 (by simp; omega)
            replace hbA := hbA.trans (hb1.mono hbA.size)
            obtain ⟨⟨x0, x1⟩, _, _⟩ := kB.two
            go_wp2_with fail
            refine (sValidR_any _ _ _).mono ?_
            rintro e w2 ⟨rfl, hb2⟩
            replace kR := kR.below hb2 kR.lt
            replace kB := kB.below hb2 kB.lt
            replace kA := kA.below hb2 kA.lt
            replace hbA := hbA.trans (hb2.mono hbA.size)
            clear x0 x1
            obtain ⟨⟨x0, x1⟩, _, _⟩ := kB.two
            obtain ⟨⟨y0, y1⟩, _, _⟩ := kA.two
            go_wp2_with fail
            refine (sDivR_any _ _ _ _ _ g1 g2 g3 (by omega) i2 i3).mono ?_
            rintro e w4 ⟨rfl, hb4⟩
            replace kR := kR.below hb4 kR.lt
            replace kB := kB.below hb4 kB.lt
            replace kA := kA.below hb4 kA.lt
            replace hbA := hbA.trans (hb4.mono hbA.size)
            clear x0 x1 y0 y1
            obtain ⟨⟨x0, x1⟩, _, _⟩ := kB.two
            obtain ⟨⟨y0, y1⟩, _, _⟩ := kA.two
            go_wp2_with fail
            refine (L.out _).mono ?_
            rintro e w3 ⟨rfl, hb3⟩
            replace kR := kR.below hb3 kR.lt
            replace hbA := hbA.trans (hb3.mono hbA.size)
            obtain ⟨⟨r0, r1⟩, f0, f1⟩ := kR.two
            clear kA kB x0 x1 y0 y1
            go_wp2_with fail
            refine bodyPost_ret (v := .tuple #[rV (p * 1000000 / s) (-((-(q * 1000000)) / r)), .bool true]) (by simp [results, Tryd.results8, go_sem, r0, r1]) rfl ⟨by rw [E2.out], ?_⟩
            repeat (first | exact Below.refl _ _ | exact hbA | refine Below.drew ?_ | refine Below.setCell ?_ (by simp <;> omega) _ | refine Below.alloc ?_ (by simp <;> omega) _)
          · have LI : ∀ W : World, Calls Tryd.prog 18 #[rV (p * 1000000 / s) (-((-(q * 1000000)) / r))] W fun e w' => e = .returned (.tuple #[rV 0 0, .bool false]) ∧ Below W.heap.size W w' := fun W => by
              have := inLimits_any (p * 1000000 / s) (-((-(q * 1000000)) / r)) W
              rw [hf] at this
              exact this
            have E2 := Lib.hid (E.out.trans hf)
            have L := Lib.hid LI
            clear hf LI
            go_enter Tryd.func8, Tryd.ntmps8
            go_wp2_with fail
            refine (sValidR_any _ _ _).mono ?_
            rintro e w1 ⟨rfl, hb1⟩
            replace kR := kR.below hb1 (by simp)
            replace kB := kB.below hb1 (by simp)
            replace kA := kA.below hb1 (by simp; omega)
            replace hbA := hbA.trans (hb1.mono hbA.size)
            obtain ⟨⟨x0, x1⟩, _, _⟩ := kB.two
            go_wp2_with fail
            refine (sValidR_any _ _ _).mono ?_
            rintro e w2 ⟨rfl, hb2⟩
            replace kR := kR.below hb2 kR.lt
            replace kB := kB.below hb2 kB.lt
            replace kA := kA.below hb2 kA.lt
            replace hbA := hbA.trans (hb2.mono hbA.size)
            clear x0 x1
            obtain ⟨⟨x0, x1⟩, _, _⟩ := kB.two
            obtain ⟨⟨y0, y1⟩, _, _⟩ := kA.two
            go_wp2_with fail
            refine (sDivR_any _ _ _ _ _ g1 g2 g3 (by omega) i2 i3).mono ?_
            rintro e w4 ⟨rfl, hb4⟩
            replace kR := kR.below hb4 kR.lt
            replace kB := kB.below hb4 kB.lt
            replace kA := kA.below hb4 kA.lt
            replace hbA := hbA.trans (hb4.mono hbA.size)
            clear x0 x1 y0 y1
            obtain ⟨⟨x0, x1⟩, _, _⟩ := kB.two
            obtain ⟨⟨y0, y1⟩, _, _⟩ := kA.two
            go_wp2_with fail
            refine (L.out _).mono ?_
            rintro e w3 ⟨rfl, hb3⟩
            replace kR := kR.below hb3 kR.lt
            replace hbA := hbA.trans (hb3.mono hbA.size)
            obtain ⟨⟨r0, r1⟩, f0, f1⟩ := kR.two
            clear kA kB x0 x1 y0 y1
            go_wp2_with fail
            refine bodyPost_ret (v := .tuple #[rV 0 0, .bool false]) (by simp [results, Tryd.results8, go_sem, r0, r1]) rfl ⟨by rw [E2.out], ?_⟩
            repeat (first | exact Below.refl _ _ | exact hbA | refine Below.drew ?_ | refine Below.setCell ?_ (by simp <;> omega) _ | refine Below.alloc ?_ (by simp <;> omega) _)
end Go.Proofs.YtdmamojidefdaaaDoor
