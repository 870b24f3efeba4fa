/- The walks of the program's ranges: quotients. -/
import Derived.Test.YtfelledogdplaaaDoorRgy
namespace Go.Proofs.YtfelledogdplaaaDoor
open Go.RowKit
/-- The two operands' cells, and the result's. -/
abbrev OvS (b : Nat) (p q r s : Int) (W : World) : Prop :=
  W.cell? ⟨b, 0, none⟩ = some (.int .i64 p) ∧ W.cell? ⟨b, 1, none⟩ = some (.int .i64 q) ∧ W.cell? ⟨b + 1, 0, none⟩ = some (.int .i64 r) ∧ W.cell? ⟨b + 1, 1, none⟩ = some (.int .i64 s)
structure Ov (w : World) (p q r s : Int) (W : World) : Prop where
  a0 : W.cell? ⟨w.heap.size, 0, none⟩ = some (.int .i64 p)
  a1 : W.cell? ⟨w.heap.size, 1, none⟩ = some (.int .i64 q)
  b0 : W.cell? ⟨w.heap.size + 1, 0, none⟩ = some (.int .i64 r)
  b1 : W.cell? ⟨w.heap.size + 1, 1, none⟩ = some (.int .i64 s)
  kR : Blk W (w.heap.size + 1 + 1) 26 #[.int .i64 0, .int .i64 0]
  bel : Below w.heap.size w W
theorem Ov.drew {w W : World} {p q r s : Int} (k : Ov w p q r s W) : Ov w p q r s W.drew := ⟨k.a0, k.a1, k.b0, k.b1, k.kR, k.bel.drew⟩
theorem Ov.cells {w W : World} {p q r s : Int} (k : Ov w p q r s W) : OvS w.heap.size p q r s W := ⟨k.a0, k.a1, k.b0, k.b1⟩
theorem cell_below {W W' : World} {b i : Nat} {v : Value} (h : W.cell? ⟨b, i, none⟩ = some v) (hb : Below W.heap.size W W') : W'.cell? ⟨b, i, none⟩ = some v := by
  have hlt : b < W.heap.size := by
    rcases Nat.lt_or_ge b W.heap.size with hlt | hge
    · exact hlt
    · simp [World.cell?, Array.getElem?_eq_none hge] at h
  have := hb.block b hlt
  simpa [World.cell?, this] using h
theorem Ov.below {w W W' : World} {p q r s : Int} (k : Ov w p q r s W) (hb : Below W.heap.size W W') : Ov w p q r s W' :=
  ⟨cell_below k.a0 hb, cell_below k.a1 hb, cell_below k.b0 hb, cell_below k.b1 hb, k.kR.below hb k.kR.lt, k.bel.trans (hb.mono k.bel.size)⟩
theorem Ov.cells_set {w W : World} {p q r s : Int} (k : Ov w p q r s W) (u v : Value) : OvS w.heap.size p q r s ((W.setCell ⟨w.heap.size + 1 + 1, 0, none⟩ u).setCell ⟨w.heap.size + 1 + 1, 1, none⟩ v) := by
  refine ⟨?_, ?_, ?_, ?_⟩ <;> (rw [World.cell?_setCell_other _ _ _ _ (by intro e; injection e; omega), World.cell?_setCell_other _ _ _ _ (by intro e; injection e; omega)])
  · exact k.a0
  · exact k.a1
  · exact k.b0
  · exact k.b1
set_option maxHeartbeats 1000000 in
theorem quotients_any (p q r s : Int) (w : World) (p0 : 0 ≤ p) (p1 : p ≤ 2000000000) (q0 : 0 ≤ q) (q1 : q ≤ 2000000000) (r0 : 1 ≤ r) (r1 : r ≤ 2000000000) (s0 : 1 ≤ s) (s1 : s ≤ 2000000000) :
    Calls Tryd.prog 42 #[rV p q, rV r s] w fun e w' => e = .returned (rV (p * 1000000 / s) (-((-(q * 1000000)) / r))) ∧ Below w.heap.size w w' := by
  have W1 : IntKind.i64.wrap (p * 1000000) = p * 1000000 := IntWalk.i64_in _ (by omega)
  have W2 : IntKind.i64.wrap (q * 1000000) = q * 1000000 := IntWalk.i64_in _ (by omega)
  have kA := ((Blk.new w #[.int .i64 p, .int .i64 q] 26).alloc (.cells #[.int .i64 r, .int .i64 s] 26)).alloc (.cells #[.int .i64 0, .int .i64 0] 26)
  have kB := (Blk.new (w.alloc (.cells #[.int .i64 p, .int .i64 q] 26)) #[.int .i64 r, .int .i64 s] 26).alloc (.cells #[.int .i64 0, .int .i64 0] 26)
  have kR := Blk.new ((w.alloc (.cells #[.int .i64 p, .int .i64 q] 26)).alloc (.cells #[.int .i64 r, .int .i64 s] 26)) #[.int .i64 0, .int .i64 0] 26
  have hbA := (((Below.refl w.heap.size w).alloc (Nat.le_refl _) (.cells #[.int .i64 p, .int .i64 q] 26)).alloc (by simp) (.cells #[.int .i64 r, .int .i64 s] 26)).alloc (by simp; omega) (.cells #[.int .i64 0, .int .i64 0] 26)
  simp only [World.size_alloc] at kA kB kR
  have K := Lib.hid (Ov.mk kA.two.1.1 kA.two.1.2 kB.two.1.1 kB.two.1.2 kR hbA)
  have KF := Lib.hid (fun (cs : Array Value) => (show OvS w.heap.size p q r s (((w.alloc (.cells #[.int .i64 p, .int .i64 q] 26)).alloc (.cells #[.int .i64 r, .int .i64 s] 26)).alloc (.cells cs 26)).drew from by
    have k1 := ((Blk.new w #[.int .i64 p, .int .i64 q] 26).alloc (.cells #[.int .i64 r, .int .i64 s] 26)).alloc (.cells cs 26)
    have k2 := (Blk.new (w.alloc (.cells #[.int .i64 p, .int .i64 q] 26)) #[.int .i64 r, .int .i64 s] 26).alloc (.cells cs 26)
    simp only [World.size_alloc] at k2
    exact ⟨k1.two.1.1, k1.two.1.2, k2.two.1.1, k2.two.1.2⟩))
  clear kA kB kR hbA
  go_enter Tryd.func42, Tryd.ntmps42
  go_wp2_with fail
  go_region_held3 (OvS w.heap.size p q r s) (first | exact K.out.cells | exact K.out.drew.cells | exact KF.out _) (first | (go_at_call 27; (try rw [W1]); with_reducible refine (rFloored_any (p * 1000000) s _ (by omega) (by omega) (by omega) (by omega)).mono ?_; rintro e w4 ⟨rfl, rfl⟩) | (go_at_call 28; (try rw [W2]); with_reducible refine (rCeiled_any (q * 1000000) r _ (by omega) (by omega) (by omega) (by omega)).mono ?_; rintro e w4 ⟨rfl, rfl⟩))
  all_goals go_wp2_with fail
  all_goals
    have hbA := K.out.drew.bel
    refine bodyPost_ret (v := rV (p * 1000000 / s) (-((-(q * 1000000)) / r))) (by simp [results, Tryd.results42, go_sem]) rfl ⟨rfl, ?_⟩
    repeat (first | exact Below.refl _ _ | exact hbA | refine Below.drew ?_ | refine Below.setCell ?_ (by simp <;> omega) _ | refine Below.alloc ?_ (by simp <;> omega) _)
set_option maxHeartbeats 1000000 in
theorem over_any (a : Addr) (p q r s : Int) (w : World) (hS : Sen a w) :
    Calls Tryd.prog 39 #[rV p q, rV r s] w fun e w' => e = .returned (te a (Rg.div p q r s)) ∧ Below w.heap.size w w' := by
  have kA := ((Blk.new w #[.int .i64 p, .int .i64 q] 26).alloc (.cells #[.int .i64 r, .int .i64 s] 26)).alloc (.cells #[.int .i64 0, .int .i64 0] 26)
  have kB := (Blk.new (w.alloc (.cells #[.int .i64 p, .int .i64 q] 26)) #[.int .i64 r, .int .i64 s] 26).alloc (.cells #[.int .i64 0, .int .i64 0] 26)
  have kR := Blk.new ((w.alloc (.cells #[.int .i64 p, .int .i64 q] 26)).alloc (.cells #[.int .i64 r, .int .i64 s] 26)) #[.int .i64 0, .int .i64 0] 26
  have hbA := (((Below.refl w.heap.size w).alloc (Nat.le_refl _) (.cells #[.int .i64 p, .int .i64 q] 26)).alloc (by simp) (.cells #[.int .i64 r, .int .i64 s] 26)).alloc (by simp; omega) (.cells #[.int .i64 0, .int .i64 0] 26)
  simp only [World.size_alloc] at kA kB kR
  have hp := hS.pos
  cases hv1 : Rg.vr p q with
  | false =>
    have E := Lib.hid (te_no (a := a) (show Rg.div p q r s = Rg.no by exact Rg.div_no (by simp [hv1])))
    go_enter Tryd.func39, Tryd.ntmps39
    go_wp2_with fail
    refine (validR_any _ _ _).mono ?_
    rintro e w1 ⟨rfl, hb1⟩
    replace kR := kR.below hb1 (by simp)
    replace hbA := hbA.trans (hb1.mono hbA.size)
    have s0 := (hS.below hbA hp).cell
    obtain ⟨⟨r0, r1⟩, f0, f1⟩ := kR.two
    clear kA kB
    go_wp2_with fail
    go_region
    go_wp2_with fail
    refine bodyPost_ret (v := .tuple #[rV 0 0, erV a]) (by simp [results, Tryd.results39, go_sem, r0, r1]) rfl ⟨by rw [E.out], ?_⟩
    repeat (first | exact Below.refl _ _ | exact hbA | refine Below.drew ?_ | refine Below.setCell ?_ (by simp <;> omega) _ | refine Below.alloc ?_ (by simp <;> omega) _)
  | true =>
    cases hv2 : Rg.vr r s with
    | false =>
      have E := Lib.hid (te_no (a := a) (show Rg.div p q r s = Rg.no by exact Rg.div_no (by simp [hv2])))
      go_enter Tryd.func39, Tryd.ntmps39
      go_wp2_with fail
      refine (validR_any _ _ _).mono ?_
      rintro e w1 ⟨rfl, hb1⟩
      replace kR := kR.below hb1 (by simp)
      replace kB := kB.below hb1 (by simp)
      replace hbA := hbA.trans (hb1.mono hbA.size)
      obtain ⟨⟨x0, x1⟩, _, _⟩ := kB.two
      go_wp2_with fail
      refine (validR_any _ _ _).mono ?_
      rintro e w2 ⟨rfl, hb2⟩
      replace kR := kR.below hb2 kR.lt
      replace hbA := hbA.trans (hb2.mono hbA.size)
      have s0 := (hS.below hbA hp).cell
      obtain ⟨⟨r0, r1⟩, f0, f1⟩ := kR.two
      clear kA kB x0 x1
      go_wp2_with fail
      go_region
      go_wp2_with fail
      refine bodyPost_ret (v := .tuple #[rV 0 0, erV a]) (by simp [results, Tryd.results39, go_sem, r0, r1]) rfl ⟨by rw [E.out], ?_⟩
      repeat (first | exact Below.refl _ _ | exact hbA | refine Below.drew ?_ | refine Below.setCell ?_ (by simp <;> omega) _ | refine Below.alloc ?_ (by simp <;> omega) _)
    | true =>
      have q1 := Rg.vr_iff.1 hv1
      have q2 := Rg.vr_iff.1 hv2
      obtain ⟨g1, g2, g3⟩ := q1
      obtain ⟨i1, i2, i3⟩ := q2
      by_cases c1 : p < 0
      · have E := Lib.hid (te_no (a := a) (Rg.div_no (a := p) (b := q) (c := r) (d := s) (fun k => by omega)))
        have d1 := decide_eq_true c1
        go_enter Tryd.func39, Tryd.ntmps39
        go_wp2_with fail
        refine (validR_any _ _ _).mono ?_
        rintro e w1 ⟨rfl, hb1⟩
        replace kR := kR.below hb1 (by simp)
        replace kB := kB.below hb1 (by simp)
        replace kA := kA.below hb1 (by simp; omega)
        replace hbA := hbA.trans (hb1.mono hbA.size)
        obtain ⟨⟨x0, x1⟩, _, _⟩ := kB.two
        go_wp2_with fail
        refine (validR_any _ _ _).mono ?_
        rintro e w2 ⟨rfl, hb2⟩
        replace kR := kR.below hb2 kR.lt
        replace kB := kB.below hb2 kB.lt
        replace kA := kA.below hb2 kA.lt
        replace hbA := hbA.trans (hb2.mono hbA.size)
        clear x0 x1
        have s0 := (hS.below hbA hp).cell
        obtain ⟨⟨x0, x1⟩, _, _⟩ := kB.two
        obtain ⟨⟨y0, y1⟩, _, _⟩ := kA.two
        obtain ⟨⟨r0, r1⟩, f0, f1⟩ := kR.two
        go_wp2_with fail
        go_region
        go_wp2_with fail
        refine bodyPost_ret (v := .tuple #[rV 0 0, erV a]) (by simp [results, Tryd.results39, go_sem, r0, r1]) rfl ⟨by rw [E.out], ?_⟩
        repeat (first | exact Below.refl _ _ | exact hbA | refine Below.drew ?_ | refine Below.setCell ?_ (by simp <;> omega) _ | refine Below.alloc ?_ (by simp <;> omega) _)
      · have d1 := decide_eq_false c1
        by_cases c2 : r ≤ 0
        · have E := Lib.hid (te_no (a := a) (Rg.div_no (a := p) (b := q) (c := r) (d := s) (fun k => by omega)))
          have d2 := decide_eq_true c2
          go_enter Tryd.func39, Tryd.ntmps39
          go_wp2_with fail
          refine (validR_any _ _ _).mono ?_
          rintro e w1 ⟨rfl, hb1⟩
          replace kR := kR.below hb1 (by simp)
          replace kB := kB.below hb1 (by simp)
          replace kA := kA.below hb1 (by simp; omega)
          replace hbA := hbA.trans (hb1.mono hbA.size)
          obtain ⟨⟨x0, x1⟩, _, _⟩ := kB.two
          go_wp2_with fail
          refine (validR_any _ _ _).mono ?_
          rintro e w2 ⟨rfl, hb2⟩
          replace kR := kR.below hb2 kR.lt
          replace kB := kB.below hb2 kB.lt
          replace kA := kA.below hb2 kA.lt
          replace hbA := hbA.trans (hb2.mono hbA.size)
          clear x0 x1
          have s0 := (hS.below hbA hp).cell
          obtain ⟨⟨x0, x1⟩, _, _⟩ := kB.two
          obtain ⟨⟨y0, y1⟩, _, _⟩ := kA.two
          obtain ⟨⟨r0, r1⟩, f0, f1⟩ := kR.two
          go_wp2_with fail
          go_region
          go_wp2_with fail
          refine bodyPost_ret (v := .tuple #[rV 0 0, erV a]) (by simp [results, Tryd.results39, go_sem, r0, r1]) rfl ⟨by rw [E.out], ?_⟩
          repeat (first | exact Below.refl _ _ | exact hbA | refine Below.drew ?_ | refine Below.setCell ?_ (by simp <;> omega) _ | refine Below.alloc ?_ (by simp <;> omega) _)
        · have d2 := decide_eq_false c2
          have E := Lib.hid (show te a (Rg.div p q r s) = te a (Rg.chk (p * 1000000 / s) (-((-(q * 1000000)) / r))) by rw [Rg.div_yes ⟨hv1, hv2, by omega, by omega⟩])
          go_enter Tryd.func39, Tryd.ntmps39
          go_wp2_with fail
          refine (validR_any _ _ _).mono ?_
          rintro e w1 ⟨rfl, hb1⟩
          replace kR := kR.below hb1 (by simp)
          replace kB := kB.below hb1 (by simp)
          replace kA := kA.below hb1 (by simp; omega)
          replace hbA := hbA.trans (hb1.mono hbA.size)
          obtain ⟨⟨x0, x1⟩, _, _⟩ := kB.two
          go_wp2_with fail
          refine (validR_any _ _ _).mono ?_
          rintro e w2 ⟨rfl, hb2⟩
          replace kR := kR.below hb2 kR.lt
          replace kB := kB.below hb2 kB.lt
          replace kA := kA.below hb2 kA.lt
          replace hbA := hbA.trans (hb2.mono hbA.size)
          clear x0 x1
          have s0 := (hS.below hbA hp).cell
          obtain ⟨⟨x0, x1⟩, _, _⟩ := kB.two
          obtain ⟨⟨y0, y1⟩, _, _⟩ := kA.two
          have K := Lib.hid (Ov.mk y0 y1 x0 x1 kR hbA)
          go_wp2_with fail
          clear x0 x1 y0 y1 s0 kA kB kR hbA hb1 hb2
          obtain ⟨m, n, hf⟩ := te_form a (Rg.good_chk (p * 1000000 / s) (-((-(q * 1000000)) / r)))
          rcases hf with hf | hf
          · have CH : ∀ W : World, Sen a W → Calls Tryd.prog 38 #[rV (p * 1000000 / s) (-((-(q * 1000000)) / r))] W fun e w' => e = .returned (.tuple #[rV m n, .nilIface]) ∧ Below W.heap.size W w' := fun W hW => by
              have := checked_any a (p * 1000000 / s) (-((-(q * 1000000)) / r)) W hW
              rw [hf] at this
              exact this
            have E2 := Lib.hid (E.out.trans hf)
            have CH' := Lib.hid CH
            have W1 : IntKind.i64.wrap (p * 1000000) = p * 1000000 := IntWalk.i64_in _ (by omega)
            have W2 : IntKind.i64.wrap (q * 1000000) = q * 1000000 := IntWalk.i64_in _ (by omega)
            clear hf CH
            refine (quotients_any p q r s _ (by omega) (by omega) (by omega) (by omega) (by omega) (by omega) (by omega) (by omega)).mono ?_
            rintro e w4 ⟨rfl, hb4⟩
            have k4 := K.out.below hb4
            have CW := Lib.hid (CH'.out _ (hS.below k4.bel hp))
            clear hb4
            go_wp2_with fail
            refine CW.out.mono ?_
            rintro e w3 ⟨rfl, hb3⟩
            have k3 := k4.below hb3
            obtain ⟨⟨r0, r1⟩, f0, f1⟩ := k3.kR.two
            clear hb3
            all_goals go_wp2_with fail
            all_goals
              have hbA := k3.bel
              refine bodyPost_ret (v := .tuple #[rV m n, .nilIface]) (by simp [results, Tryd.results39, go_sem, r0, r1]) rfl ⟨by rw [E2.out], ?_⟩
              repeat (first | exact Below.refl _ _ | exact hbA | refine Below.drew ?_ | refine Below.setCell ?_ (by simp <;> omega) _ | refine Below.alloc ?_ (by simp <;> omega) _)
          · have CH : ∀ W : World, Sen a W → Calls Tryd.prog 38 #[rV (p * 1000000 / s) (-((-(q * 1000000)) / r))] W fun e w' => e = .returned (.tuple #[rV 0 0, erV a]) ∧ Below W.heap.size W w' := fun W hW => by
              have := checked_any a (p * 1000000 / s) (-((-(q * 1000000)) / r)) W hW
              rw [hf] at this
              exact this
            have E2 := Lib.hid (E.out.trans hf)
            have CH' := Lib.hid CH
            have W1 : IntKind.i64.wrap (p * 1000000) = p * 1000000 := IntWalk.i64_in _ (by omega)
            have W2 : IntKind.i64.wrap (q * 1000000) = q * 1000000 := IntWalk.i64_in _ (by omega)
            clear hf CH
            refine (quotients_any p q r s _ (by omega) (by omega) (by omega) (by omega) (by omega) (by omega) (by omega) (by omega)).mono ?_
            rintro e w4 ⟨rfl, hb4⟩
            have k4 := K.out.below hb4
            have CW := Lib.hid (CH'.out _ (hS.below k4.bel hp))
            clear hb4
            go_wp2_with fail
            refine CW.out.mono ?_
            rintro e w3 ⟨rfl, hb3⟩
            have k3 := k4.below hb3
            obtain ⟨⟨r0, r1⟩, f0, f1⟩ := k3.kR.two
            clear hb3
            all_goals go_wp2_with fail
            all_goals
              have hbA := k3.bel
              refine bodyPost_ret (v := .tuple #[rV 0 0, erV a]) (by simp [results, Tryd.results39, go_sem, r0, r1]) rfl ⟨by rw [E2.out], ?_⟩
              repeat (first | exact Below.refl _ _ | exact hbA | refine Below.drew ?_ | refine Below.setCell ?_ (by simp <;> omega) _ | refine Below.alloc ?_ (by simp <;> omega) _)

end Go.Proofs.YtfelledogdplaaaDoor
