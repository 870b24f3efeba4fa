/- The walks of the program's ranges: sums, products, quotients. -/
import Derived.Test.YtfelledogdplaaaDoorRgx
import Derived.Test.YtfelledogdplaaaDoorMinMax
import Derived.Deep.RegionWith
import Derived.Deep.RegionHeld3
namespace Go.Proofs.YtfelledogdplaaaDoor
open Go.RowKit
theorem below_drewN {B : Nat} {a w : World} (h : Below B a w) (n : Nat) : Below B a (w.drewN n) := ⟨h.os, h.tape, h.output, h.size, h.block⟩
theorem te_yes {a : Addr} {r : Rg.R} {p q : Int} (h : r = (p, q, true)) : te a r = .tuple #[rV p q, .nilIface] := by rw [h]; rfl
theorem te_no {a : Addr} {r : Rg.R} (h : r = Rg.no) : te a r = .tuple #[rV 0 0, erV a] := by rw [h]; rfl
theorem te_form (a : Addr) {r : Rg.R} (h : Rg.Good r) : ∃ p q, te a r = .tuple #[rV p q, .nilIface] ∨ te a r = .tuple #[rV 0 0, erV a] := by
  rcases h with ⟨h, _⟩ | h
  · exact ⟨r.1, r.2.1, .inl (te_yes (p := r.1) (q := r.2.1) (by obtain ⟨x, y, z⟩ := r; simp at h; subst h; rfl))⟩
  · exact ⟨0, 0, .inr (te_no h)⟩
set_option maxHeartbeats 1000000 in
theorem checked_any (a : Addr) (p q : Int) (w : World) (hS : Sen a w) :
    Calls Tryd.prog 38 #[rV p q] w fun e w' => e = .returned (te a (Rg.chk p q)) ∧ Below w.heap.size w w' := by
  have kA := (Blk.new w #[.int .i64 p, .int .i64 q] 26).alloc (.cells #[.int .i64 0, .int .i64 0] 26)
  have kR := Blk.new (w.alloc (.cells #[.int .i64 p, .int .i64 q] 26)) #[.int .i64 0, .int .i64 0] 26
  have hbA := ((Below.refl w.heap.size w).alloc (Nat.le_refl _) (.cells #[.int .i64 p, .int .i64 q] 26)).alloc (by simp) (.cells #[.int .i64 0, .int .i64 0] 26)
  simp only [World.size_alloc] at kA kR
  have hp := hS.pos
  cases hv : Rg.vr p q with
  | false =>
    have E := Lib.hid (te_no (a := a) (Rg.chk_no hv))
    go_enter Tryd.func38, Tryd.ntmps38
    go_wp2_with fail
    refine (validR_any _ _ _).mono ?_
    rintro e w1 ⟨rfl, hb1⟩
    replace kR := kR.below hb1 (by simp)
    replace hbA := hbA.trans (hb1.mono hbA.size)
    have s0 := (hS.below hbA hp).cell
    obtain ⟨⟨r0, r1⟩, f0, f1⟩ := kR.two
    clear kA
    go_wp2_with fail
    go_region
    go_wp2_with fail
    refine bodyPost_ret (v := .tuple #[rV 0 0, erV a]) (by simp [results, Tryd.results38, go_sem, r0, r1]) rfl ⟨by rw [E.out], ?_⟩
    exact ((hbA.setCell (by simp <;> omega) _).setCell (by simp <;> omega) _).drew
  | true =>
    have E := Lib.hid (te_yes (a := a) (Rg.chk_eq hv))
    go_enter Tryd.func38, Tryd.ntmps38
    go_wp2_with fail
    refine (validR_any _ _ _).mono ?_
    rintro e w1 ⟨rfl, hb1⟩
    replace kR := kR.below hb1 (by simp)
    replace kA := kA.below hb1 (by simp <;> omega)
    replace hbA := hbA.trans (hb1.mono hbA.size)
    obtain ⟨⟨r0, r1⟩, f0, f1⟩ := kR.two
    obtain ⟨⟨x0, x1⟩, g0, g1⟩ := kA.two
    go_wp2_with fail
    refine bodyPost_ret (v := .tuple #[rV p q, .nilIface]) (by simp [results, Tryd.results38, go_sem, r0, r1]) rfl ⟨by rw [E.out], ?_⟩
    exact (hbA.setCell (by simp <;> omega) _).setCell (by simp <;> omega) _
set_option maxHeartbeats 1000000 in
theorem exactly_any (n : Int) (w : World) :
    Calls Tryd.prog 26 #[.int .i64 n] w fun e w' => e = .returned (rV n n) ∧ Below w.heap.size w w' := by
  go_enter Tryd.func26, Tryd.ntmps26
  go_wp2_with fail
  refine bodyPost_ret (v := rV n n) (by simp [results, Tryd.results26, go_sem]) rfl ⟨rfl, ?_⟩
  exact (Below.refl w.heap.size w).alloc (Nat.le_refl _) _
set_option maxHeartbeats 1000000 in
theorem outward_any (x y : Int) (w : World) (x0 : -5000000000000000000 ≤ x) (x1 : x ≤ 5000000000000000000) (y0 : -5000000000000000000 ≤ y) (y1 : y ≤ 5000000000000000000) :
    Calls Tryd.prog 37 #[.int .i64 x, .int .i64 y] w fun e w' => e = .returned (rV (Rg.fl x) (Rg.cl y)) ∧ Below w.heap.size w w' := by
  go_enter Tryd.func37, Tryd.ntmps37
  go_wp2_with (first | (go_at_call 27; refine (rFloored_any _ _ _ x0 x1 (by omega) (by omega)).mono ?_; rintro e w2 ⟨rfl, rfl⟩) | (go_at_call 28; refine (rCeiled_any _ _ _ y0 y1 (by omega) (by omega)).mono ?_; rintro e w2 ⟨rfl, rfl⟩))
  refine bodyPost_ret (v := rV (x / 1000000) (-((-y) / 1000000))) (by simp [results, Tryd.results37, go_sem]) rfl ⟨rfl, ?_⟩
  exact (Below.refl w.heap.size w).alloc (Nat.le_refl _) _
set_option maxHeartbeats 1000000 in
theorem acceptedV_any (a : Addr) (x y : Int) (z : Bool) (w : World) (hS : Sen a w) :
    Calls Tryd.prog 22 #[rV x y, if z = true then .nilIface else erV a] w fun e w' => e = .returned (.tuple #[rV x y, .bool z]) ∧ Below w.heap.size w w' := by
  have kA := (Blk.new w #[.int .i64 x, .int .i64 y] 26).alloc (.cells #[.int .i64 0, .int .i64 0] 26)
  have kR := Blk.new (w.alloc (.cells #[.int .i64 x, .int .i64 y] 26)) #[.int .i64 0, .int .i64 0] 26
  have hbA := ((Below.refl w.heap.size w).alloc (Nat.le_refl _) (.cells #[.int .i64 x, .int .i64 y] 26)).alloc (by simp) (.cells #[.int .i64 0, .int .i64 0] 26)
  simp only [World.size_alloc] at kA kR
  have s0 := (hS.below hbA hS.pos).cell
  obtain ⟨⟨r0, r1⟩, f0, f1⟩ := kR.two
  obtain ⟨⟨x0, x1⟩, g0, g1⟩ := kA.two
  cases z with
  | true =>
    show Calls Tryd.prog 22 #[rV x y, .nilIface] w _
    go_enter Tryd.func22, Tryd.ntmps22
    go_wp2_with fail
    go_region_with (go_at_call 35; refine (is_nil _ _).mono ?_; rintro e w2 ⟨rfl, rfl⟩)
    all_goals go_wp2_with fail
    all_goals
      refine bodyPost_ret (v := .tuple #[rV x y, .bool true]) (by simp [results, Tryd.results22, go_sem]) rfl ⟨rfl, ?_⟩
      repeat (first | exact Below.refl _ _ | refine Below.drew ?_ | refine Below.setCell ?_ (by simp <;> omega) _ | refine Below.alloc ?_ (by simp <;> omega) _)
  | false =>
    show Calls Tryd.prog 22 #[rV x y, erV a] w _
    go_enter Tryd.func22, Tryd.ntmps22
    go_wp2_with fail
    go_region_with (go_at_call 35; refine (is_same _ _).mono ?_; rintro e w2 ⟨rfl, rfl⟩)
    all_goals go_wp2_with fail
    all_goals
      refine bodyPost_ret (v := .tuple #[rV x y, .bool false]) (by simp [results, Tryd.results22, go_sem]) rfl ⟨rfl, ?_⟩
      repeat (first | exact Below.refl _ _ | refine Below.drew ?_ | refine Below.setCell ?_ (by simp <;> omega) _ | refine Below.alloc ?_ (by simp <;> omega) _)

set_option maxHeartbeats 1000000 in
theorem times_any (a : Addr) (p q r s : Int) (w : World) (hS : Sen a w) :
    Calls Tryd.prog 23 #[rV p q, rV r s] w fun e w' => e = .returned (te a (Rg.mul p q r s)) ∧ Below w.heap.size w w' := by
  have kA := ((Blk.new w #[.int .i64 p, .int .i64 q] 26).alloc (.cells #[.int .i64 r, .int .i64 s] 26)).alloc (.cells #[.int .i64 0, .int .i64 0] 26)
  have kB := (Blk.new (w.alloc (.cells #[.int .i64 p, .int .i64 q] 26)) #[.int .i64 r, .int .i64 s] 26).alloc (.cells #[.int .i64 0, .int .i64 0] 26)
  have kR := Blk.new ((w.alloc (.cells #[.int .i64 p, .int .i64 q] 26)).alloc (.cells #[.int .i64 r, .int .i64 s] 26)) #[.int .i64 0, .int .i64 0] 26
  have hbA := (((Below.refl w.heap.size w).alloc (Nat.le_refl _) (.cells #[.int .i64 p, .int .i64 q] 26)).alloc (by simp) (.cells #[.int .i64 r, .int .i64 s] 26)).alloc (by simp; omega) (.cells #[.int .i64 0, .int .i64 0] 26)
  simp only [World.size_alloc] at kA kB kR
  have hp := hS.pos
  cases hv1 : Rg.vr p q with
  | false =>
    have E := Lib.hid (te_no (a := a) (show Rg.mul p q r s = Rg.no by unfold Rg.mul; rw [if_neg (by simp [hv1])]))
    go_enter Tryd.func23, Tryd.ntmps23
    go_wp2_with fail
    refine (validR_any _ _ _).mono ?_
    rintro e w1 ⟨rfl, hb1⟩
    replace kR := kR.below hb1 (by simp)
    replace hbA := hbA.trans (hb1.mono hbA.size)
    have s0 := (hS.below hbA hp).cell
    obtain ⟨⟨r0, r1⟩, f0, f1⟩ := kR.two
    clear kA kB
    go_wp2_with fail
    go_region
    go_wp2_with fail
    refine bodyPost_ret (v := .tuple #[rV 0 0, erV a]) (by simp [results, Tryd.results23, go_sem, r0, r1]) rfl ⟨by rw [E.out], ?_⟩
    repeat (first | exact Below.refl _ _ | exact hbA | refine Below.drew ?_ | refine Below.setCell ?_ (by simp <;> omega) _ | refine Below.alloc ?_ (by simp <;> omega) _)
  | true =>
    cases hv2 : Rg.vr r s with
    | false =>
      have E := Lib.hid (te_no (a := a) (show Rg.mul p q r s = Rg.no by unfold Rg.mul; rw [if_neg (by simp [hv2])]))
      go_enter Tryd.func23, Tryd.ntmps23
      go_wp2_with fail
      refine (validR_any _ _ _).mono ?_
      rintro e w1 ⟨rfl, hb1⟩
      replace kR := kR.below hb1 (by simp)
      replace kB := kB.below hb1 (by simp)
      replace hbA := hbA.trans (hb1.mono hbA.size)
      obtain ⟨⟨x0, x1⟩, _, _⟩ := kB.two
      go_wp2_with fail
      refine (validR_any _ _ _).mono ?_
      rintro e w2 ⟨rfl, hb2⟩
      replace kR := kR.below hb2 kR.lt
      replace hbA := hbA.trans (hb2.mono hbA.size)
      have s0 := (hS.below hbA hp).cell
      obtain ⟨⟨r0, r1⟩, f0, f1⟩ := kR.two
      clear kA kB x0 x1
      go_wp2_with fail
      go_region
      go_wp2_with fail
      refine bodyPost_ret (v := .tuple #[rV 0 0, erV a]) (by simp [results, Tryd.results23, go_sem, r0, r1]) rfl ⟨by rw [E.out], ?_⟩
      repeat (first | exact Below.refl _ _ | exact hbA | refine Below.drew ?_ | refine Below.setCell ?_ (by simp <;> omega) _ | refine Below.alloc ?_ (by simp <;> omega) _)
    | true =>
      have q1 := Rg.vr_iff.1 hv1
      have q2 := Rg.vr_iff.1 hv2
      obtain ⟨g1, g2, g3⟩ := q1
      obtain ⟨i1, i2, i3⟩ := q2
      have E := Lib.hid (show te a (Rg.mul p q r s) = te a (Rg.chk (Rg.fl (Rg.pl p q r s)) (Rg.cl (Rg.ph p q r s))) by unfold Rg.mul; rw [if_pos ⟨hv1, hv2⟩])
      obtain ⟨m1a, m1b⟩ := Rg.prod_bd (a := p) (b := r) (by omega) (by omega) (by omega) (by omega)
      obtain ⟨m2a, m2b⟩ := Rg.prod_bd (a := p) (b := s) (by omega) (by omega) (by omega) (by omega)
      obtain ⟨m3a, m3b⟩ := Rg.prod_bd (a := q) (b := r) (by omega) (by omega) (by omega) (by omega)
      obtain ⟨m4a, m4b⟩ := Rg.prod_bd (a := q) (b := s) (by omega) (by omega) (by omega) (by omega)
      have l0 : -5000000000000000000 ≤ Rg.pl p q r s ∧ Rg.pl p q r s ≤ 5000000000000000000 := by unfold Rg.pl; omega
      have h0 : -5000000000000000000 ≤ Rg.ph p q r s ∧ Rg.ph p q r s ≤ 5000000000000000000 := by unfold Rg.ph; omega
      have fmin : ∀ W : World, (Builtin.min_ #[3, 3, 3, 3] 3 #[.int .i64 (p * r), .int .i64 (p * s), .int .i64 (q * r), .int .i64 (q * s)]).run Tryd.prog W = .ok (.int .i64 (Rg.pl p q r s)) W := fun W => run_min4 _ _ _ _ _ _ W
      have fmax : ∀ W : World, (Builtin.max_ #[3, 3, 3, 3] 3 #[.int .i64 (p * r), .int .i64 (p * s), .int .i64 (q * r), .int .i64 (q * s)]).run Tryd.prog W = .ok (.int .i64 (Rg.ph p q r s)) W := fun W => run_max4 _ _ _ _ _ _ W
      go_enter Tryd.func23, Tryd.ntmps23
      go_wp2_with fail
      refine (validR_any _ _ _).mono ?_
      rintro e w1 ⟨rfl, hb1⟩
      replace kR := kR.below hb1 (by simp)
      replace kB := kB.below hb1 (by simp)
      replace kA := kA.below hb1 (by simp; omega)
      replace hbA := hbA.trans (hb1.mono hbA.size)
      obtain ⟨⟨x0, x1⟩, _, _⟩ := kB.two
      go_wp2_with fail
      refine (validR_any _ _ _).mono ?_
      rintro e w2 ⟨rfl, hb2⟩
      replace kR := kR.below hb2 kR.lt
      replace kB := kB.below hb2 kB.lt
      replace kA := kA.below hb2 kA.lt
      replace hbA := hbA.trans (hb2.mono hbA.size)
      clear x0 x1
      obtain ⟨⟨x0, x1⟩, _, _⟩ := kB.two
      obtain ⟨⟨y0, y1⟩, _, _⟩ := kA.two
      go_wp2_with fail
      go_quiet (fail)
      go_wp2_with fail
      refine (outward_any _ _ _ l0.1 l0.2 h0.1 h0.2).mono ?_
      rintro e w4 ⟨rfl, hb4⟩
      replace hbA := below_drewN hbA nq
      replace kR := (kR.drewN nq).below hb4 kR.lt
      replace hbA := hbA.trans (hb4.mono hbA.size)
      clear kA kB x0 x1 y0 y1
      go_wp2_with fail
      refine (checked_any a _ _ _ (hS.below hbA hp)).mono ?_
      rintro e w3 ⟨rfl, hb3⟩
      replace kR := kR.below hb3 kR.lt
      replace hbA := hbA.trans (hb3.mono hbA.size)
      obtain ⟨⟨r0, r1⟩, f0, f1⟩ := kR.two
      obtain ⟨m, n, hf⟩ := te_form a (Rg.good_chk (Rg.fl (Rg.pl p q r s)) (Rg.cl (Rg.ph p q r s)))
      rcases hf with hf | hf
      · rw [hf]
        have E2 := Lib.hid (E.out.trans hf)
        clear hf
        go_wp2_with fail
        refine bodyPost_ret (v := .tuple #[rV m n, .nilIface]) (by simp [results, Tryd.results23, go_sem, r0, r1]) rfl ⟨by rw [E2.out], ?_⟩
        repeat (first | exact Below.refl _ _ | exact hbA | refine Below.drew ?_ | refine Below.setCell ?_ (by simp <;> omega) _ | refine Below.alloc ?_ (by simp <;> omega) _)
      · rw [hf]
        have E2 := Lib.hid (E.out.trans hf)
        clear hf
        go_wp2_with fail
        refine bodyPost_ret (v := .tuple #[rV 0 0, erV a]) (by simp [results, Tryd.results23, go_sem, r0, r1]) rfl ⟨by rw [E2.out], ?_⟩
        repeat (first | exact Below.refl _ _ | exact hbA | refine Below.drew ?_ | refine Below.setCell ?_ (by simp <;> omega) _ | refine Below.alloc ?_ (by simp <;> omega) _)
end Go.Proofs.YtfelledogdplaaaDoor
