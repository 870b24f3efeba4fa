import Derived.Test.YtkdooncfchmkfaaDoorRgw
import Derived.Test.YtkdooncfchmkfaaDoorMinMax
import Derived.Deep.RegionWith
import Derived.Deep.RegionHeld3
/- The walks of the program's ranges: validity, quotients. -/
namespace Go.Proofs.YtkdooncfchmkfaaDoor
open Go.RowKit
theorem rfloor_neg {a b : Int} (hb : 1 ≤ b) (h : a.tmod b < 0) : a.tdiv b - 1 = a / b := by
  have h1 := Int.mul_tdiv_add_tmod a b
  have h2 := Int.lt_tmod_of_pos a (show 0 < b by omega)
  exact ((Int.ediv_emod_unique (a := a) (b := b) (r := a.tmod b + b) (q := a.tdiv b - 1) (by omega)).2 ⟨by rw [Int.mul_sub]; omega, by omega, by omega⟩).1.symm
theorem rfloor_pos {a b : Int} (hb : 1 ≤ b) (h : 0 ≤ a.tmod b) : a.tdiv b = a / b := by
  have h1 := Int.mul_tdiv_add_tmod a b
  have h2 := Int.tmod_lt_of_pos a (show 0 < b by omega)
  exact ((Int.ediv_emod_unique (a := a) (b := b) (r := a.tmod b) (q := a.tdiv b) (by omega)).2 ⟨by omega, by omega, by omega⟩).1.symm
theorem rtdiv_bd {a b : Int} (h0 : -5000000000000000000 ≤ a) (h1 : a ≤ 5000000000000000000) : -5000000000000000001 ≤ a.tdiv b ∧ a.tdiv b ≤ 5000000000000000001 := by
  have := Int.natAbs_tdiv_le_natAbs a b
  omega
theorem ediv_bd {a b : Int} (h0 : -5000000000000000000 ≤ a) (h1 : a ≤ 5000000000000000000) (hb : 1 ≤ b) : -5000000000000000000 ≤ a / b ∧ a / b ≤ 5000000000000000000 := by
  constructor
  · exact Int.le_trans (by omega) ((Int.le_ediv_iff_mul_le (c := b) (by omega)).2 (show -5000000000000000000 * b ≤ a by
      have := Int.mul_le_mul_of_nonneg_left hb (show (0:Int) ≤ 5000000000000000000 by decide); omega))
  · exact Int.le_trans (Int.ediv_le_ediv (by omega) h1) (Int.ediv_le_self _ (by decide))
set_option maxHeartbeats 400000 in
theorem rFloored_any (a b : Int) (w : World) (h0 : -5000000000000000000 ≤ a) (h1 : a ≤ 5000000000000000000) (h2 : 1 ≤ b) (h3 : b ≤ 1000000000000000000) :
    Calls Tryd.prog 68 #[.int .i64 a, .int .i64 b] w fun e w' => e = .returned (.int .i64 (a / b)) ∧ w = w' := by
  obtain ⟨q0, q1⟩ := rtdiv_bd (b := b) h0 h1
  have r0 := Int.lt_tmod_of_pos a (show 0 < b by omega)
  have r1 := Int.tmod_lt_of_pos a (show 0 < b by omega)
  have e0 : (b == 0) = false := by simp; omega
  by_cases hm : a.tmod b < 0
  · have HE := Lib.hid (rfloor_neg h2 hm)
    have f1 : IntKind.i64.wrap (a.tdiv b) = a.tdiv b := IntWalk.i64_in _ (by omega)
    go_enter Tryd.func68, Tryd.ntmps68
    go_wp2_with fail
    go_ret
    exact ⟨ret_int HE.out, rfl⟩
  · have HE := Lib.hid (rfloor_pos (a := a) h2 (by omega))
    have hm' := decide_eq_false hm
    have f1 : IntKind.i64.wrap (a.tdiv b) = a.tdiv b := IntWalk.i64_in _ (by omega)
    go_enter Tryd.func68, Tryd.ntmps68
    go_wp2_with fail
    go_ret
    exact ⟨ret_int HE.out, rfl⟩
set_option maxHeartbeats 400000 in
theorem rCeiled_any (a b : Int) (w : World) (h0 : -5000000000000000000 ≤ a) (h1 : a ≤ 5000000000000000000) (h2 : 1 ≤ b) (h3 : b ≤ 1000000000000000000) :
    Calls Tryd.prog 69 #[.int .i64 a, .int .i64 b] w fun e w' => e = .returned (.int .i64 (-((-a) / b))) ∧ w = w' := by
  obtain ⟨q0, q1⟩ := ediv_bd (a := -a) (b := b) (by omega) (by omega) h2
  go_enter Tryd.func69, Tryd.ntmps69
  go_wp2_with (go_at_call 68; refine (rFloored_any _ _ _ (by omega) (by omega) (by omega) (by omega)).mono ?_; rintro e w2 ⟨rfl, rfl⟩)
  go_ret
  exact ⟨rfl, rfl⟩
set_option maxHeartbeats 400000 in
theorem rsFloored_any (a b : Int) (w : World) (h0 : -5000000000000000000 ≤ a) (h1 : a ≤ 5000000000000000000) (h2 : 1 ≤ b) (h3 : b ≤ 1000000000000000000) :
    Calls Tryd.prog 45 #[.int .i64 a, .int .i64 b] w fun e w' => e = .returned (.int .i64 (a / b)) ∧ w = w' := by
  obtain ⟨q0, q1⟩ := rtdiv_bd (b := b) h0 h1
  have r0 := Int.lt_tmod_of_pos a (show 0 < b by omega)
  have r1 := Int.tmod_lt_of_pos a (show 0 < b by omega)
  have e0 : (b == 0) = false := by simp; omega
  by_cases hm : a.tmod b < 0
  · have HE := Lib.hid (rfloor_neg h2 hm)
    have f1 : IntKind.i64.wrap (a.tdiv b) = a.tdiv b := IntWalk.i64_in _ (by omega)
    go_enter Tryd.func45, Tryd.ntmps45
    go_wp2_with fail
    go_ret
    exact ⟨ret_int HE.out, rfl⟩
  · have HE := Lib.hid (rfloor_pos (a := a) h2 (by omega))
    have hm' := decide_eq_false hm
    have f1 : IntKind.i64.wrap (a.tdiv b) = a.tdiv b := IntWalk.i64_in _ (by omega)
    go_enter Tryd.func45, Tryd.ntmps45
    go_wp2_with fail
    go_ret
    exact ⟨ret_int HE.out, rfl⟩
set_option maxHeartbeats 400000 in
theorem rsCeiled_any (a b : Int) (w : World) (h0 : -5000000000000000000 ≤ a) (h1 : a ≤ 5000000000000000000) (h2 : 1 ≤ b) (h3 : b ≤ 1000000000000000000) :
    Calls Tryd.prog 46 #[.int .i64 a, .int .i64 b] w fun e w' => e = .returned (.int .i64 (-((-a) / b))) ∧ w = w' := by
  obtain ⟨q0, q1⟩ := ediv_bd (a := -a) (b := b) (by omega) (by omega) h2
  go_enter Tryd.func46, Tryd.ntmps46
  go_wp2_with (go_at_call 45; refine (rsFloored_any _ _ _ (by omega) (by omega) (by omega) (by omega)).mono ?_; rintro e w2 ⟨rfl, rfl⟩)
  go_ret
  exact ⟨rfl, rfl⟩
set_option maxHeartbeats 400000 in
theorem validR_any (p q : Int) (w : World) :
    Calls Tryd.prog 95 #[rV p q] w fun e w' => e = .returned (.bool (Rg.vr p q)) ∧ Below w.heap.size w w' := by
  have hbA := (Below.refl w.heap.size w).alloc (Nat.le_refl _) (.cells #[.int .i64 p, .int .i64 q] 25)
  by_cases h1 : -2000000000 ≤ p
  · have d1 := decide_eq_true h1
    by_cases h2 : p ≤ q
    · have d2 := decide_eq_true h2
      by_cases h3 : q ≤ 2000000000
      · have E := Lib.hid (Rg.vr_iff.2 ⟨h1, h2, h3⟩)
        have d3 := decide_eq_true h3
        clear h1 h2 h3
        go_enter Tryd.func95, Tryd.ntmps95
        go_wp2_with fail
        go_ret
        exact ⟨ret_bool E.out.symm, hbA⟩
      · have E := Lib.hid (Rg.vr_f (l := p) (h := q) (fun k => h3 k.2.2))
        have d3 := decide_eq_false h3
        clear h1 h2 h3
        go_enter Tryd.func95, Tryd.ntmps95
        go_wp2_with fail
        go_ret
        exact ⟨ret_bool E.out.symm, hbA⟩
    · have E := Lib.hid (Rg.vr_f (l := p) (h := q) (fun k => h2 k.2.1))
      have d2 := decide_eq_false h2
      clear h1 h2
      go_enter Tryd.func95, Tryd.ntmps95
      go_wp2_with fail
      go_ret
      exact ⟨ret_bool E.out.symm, hbA⟩
  · have E := Lib.hid (Rg.vr_f (l := p) (h := q) (fun k => h1 k.1))
    have d1 := decide_eq_false h1
    clear h1
    go_enter Tryd.func95, Tryd.ntmps95
    go_wp2_with fail
    go_ret
    exact ⟨ret_bool E.out.symm, hbA⟩
end Go.Proofs.YtkdooncfchmkfaaDoor

/- The walks of the program's ranges: sums, products, quotients. -/
namespace Go.Proofs.YtkdooncfchmkfaaDoor
open Go.RowKit
theorem te_yes {a : Addr} {r : Rg.R} {p q : Int} (h : r = (p, q, true)) : te a r = .tuple #[rV p q, .nilIface] := by rw [h]; rfl
theorem te_no {a : Addr} {r : Rg.R} (h : r = Rg.no) : te a r = .tuple #[rV 0 0, erV a] := by rw [h]; rfl
theorem te_form (a : Addr) {r : Rg.R} (h : Rg.Good r) : ∃ p q, te a r = .tuple #[rV p q, .nilIface] ∨ te a r = .tuple #[rV 0 0, erV a] := by
  rcases h with ⟨h, _⟩ | h
  · exact ⟨r.1, r.2.1, .inl (te_yes (p := r.1) (q := r.2.1) (by obtain ⟨x, y, z⟩ := r; simp at h; subst h; rfl))⟩
  · exact ⟨0, 0, .inr (te_no h)⟩
set_option maxHeartbeats 1000000 in
theorem checked_any (a : Addr) (p q : Int) (w : World) (hS : Sen a w) :
    Calls Tryd.prog 96 #[rV p q] w fun e w' => e = .returned (te a (Rg.chk p q)) ∧ Below w.heap.size w w' := by
  have kA := (Blk.new w #[.int .i64 p, .int .i64 q] 25).alloc (.cells #[.int .i64 0, .int .i64 0] 25)
  have kR := Blk.new (w.alloc (.cells #[.int .i64 p, .int .i64 q] 25)) #[.int .i64 0, .int .i64 0] 25
  have hbA := ((Below.refl w.heap.size w).alloc (Nat.le_refl _) (.cells #[.int .i64 p, .int .i64 q] 25)).alloc (by simp) (.cells #[.int .i64 0, .int .i64 0] 25)
  simp only [World.size_alloc] at kA kR
  have hp := hS.pos
  cases hv : Rg.vr p q with
  | false =>
    have E := Lib.hid (te_no (a := a) (Rg.chk_no hv))
    go_enter Tryd.func96, Tryd.ntmps96
    go_wp2_with fail
    refine (validR_any _ _ _).mono ?_
    rintro e w1 ⟨rfl, hb1⟩
    replace kR := kR.below hb1 (by simp)
    replace hbA := hbA.trans (hb1.mono hbA.size)
    have s0 := (hS.below hbA hp).cell
    obtain ⟨⟨r0, r1⟩, f0, f1⟩ := kR.two
    clear kA
    go_wp2_with fail
    go_region
    go_wp2_with fail
    refine bodyPost_ret (v := .tuple #[rV 0 0, erV a]) (by simp [results, Tryd.results96, go_sem, r0, r1]) rfl ⟨by rw [E.out], ?_⟩
    exact ((hbA.setCell (by simp <;> omega) _).setCell (by simp <;> omega) _).drew
  | true =>
    have E := Lib.hid (te_yes (a := a) (Rg.chk_eq hv))
    go_enter Tryd.func96, Tryd.ntmps96
    go_wp2_with fail
    refine (validR_any _ _ _).mono ?_
    rintro e w1 ⟨rfl, hb1⟩
    replace kR := kR.below hb1 (by simp)
    replace kA := kA.below hb1 (by simp <;> omega)
    replace hbA := hbA.trans (hb1.mono hbA.size)
    obtain ⟨⟨r0, r1⟩, f0, f1⟩ := kR.two
    obtain ⟨⟨x0, x1⟩, g0, g1⟩ := kA.two
    go_wp2_with fail
    refine bodyPost_ret (v := .tuple #[rV p q, .nilIface]) (by simp [results, Tryd.results96, go_sem, r0, r1]) rfl ⟨by rw [E.out], ?_⟩
    exact (hbA.setCell (by simp <;> omega) _).setCell (by simp <;> omega) _
set_option maxHeartbeats 1000000 in
theorem exactly_any (n : Int) (w : World) :
    Calls Tryd.prog 71 #[.int .i64 n] w fun e w' => e = .returned (rV n n) ∧ Below w.heap.size w w' := by
  go_enter Tryd.func71, Tryd.ntmps71
  go_wp2_with fail
  refine bodyPost_ret (v := rV n n) (by simp [results, Tryd.results71, go_sem]) rfl ⟨rfl, ?_⟩
  exact (Below.refl w.heap.size w).alloc (Nat.le_refl _) _
set_option maxHeartbeats 1000000 in
theorem outward_any (x y : Int) (w : World) (x0 : -5000000000000000000 ≤ x) (x1 : x ≤ 5000000000000000000) (y0 : -5000000000000000000 ≤ y) (y1 : y ≤ 5000000000000000000) :
    Calls Tryd.prog 51 #[.int .i64 x, .int .i64 y] w fun e w' => e = .returned (rV (Rg.fl x) (Rg.cl y)) ∧ Below w.heap.size w w' := by
  go_enter Tryd.func51, Tryd.ntmps51
  go_wp2_with (first | (go_at_call 68; refine (rFloored_any _ _ _ x0 x1 (by omega) (by omega)).mono ?_; rintro e w2 ⟨rfl, rfl⟩) | (go_at_call 69; refine (rCeiled_any _ _ _ y0 y1 (by omega) (by omega)).mono ?_; rintro e w2 ⟨rfl, rfl⟩))
  refine bodyPost_ret (v := rV (x / 1000000) (-((-y) / 1000000))) (by simp [results, Tryd.results51, go_sem]) rfl ⟨rfl, ?_⟩
  exact (Below.refl w.heap.size w).alloc (Nat.le_refl _) _
set_option maxHeartbeats 1000000 in
theorem acceptedV_any (a : Addr) (x y : Int) (z : Bool) (w : World) (hS : Sen a w) :
    Calls Tryd.prog 82 #[rV x y, if z = true then .nilIface else erV a] w fun e w' => e = .returned (.tuple #[rV x y, .bool z]) ∧ Below w.heap.size w w' := by
  have kA := (Blk.new w #[.int .i64 x, .int .i64 y] 25).alloc (.cells #[.int .i64 0, .int .i64 0] 25)
  have kR := Blk.new (w.alloc (.cells #[.int .i64 x, .int .i64 y] 25)) #[.int .i64 0, .int .i64 0] 25
  have hbA := ((Below.refl w.heap.size w).alloc (Nat.le_refl _) (.cells #[.int .i64 x, .int .i64 y] 25)).alloc (by simp) (.cells #[.int .i64 0, .int .i64 0] 25)
  simp only [World.size_alloc] at kA kR
  have s0 := (hS.below hbA hS.pos).cell
  obtain ⟨⟨r0, r1⟩, f0, f1⟩ := kR.two
  obtain ⟨⟨x0, x1⟩, g0, g1⟩ := kA.two
  cases z with
  | true =>
    show Calls Tryd.prog 82 #[rV x y, .nilIface] w _
    go_enter Tryd.func82, Tryd.ntmps82
    go_wp2_with fail
    go_region_with (go_at_call 94; refine (is_nil _ _).mono ?_; rintro e w2 ⟨rfl, rfl⟩)
    all_goals go_wp2_with fail
    all_goals
      refine bodyPost_ret (v := .tuple #[rV x y, .bool true]) (by simp [results, Tryd.results82, go_sem]) rfl ⟨rfl, ?_⟩
      repeat (first | exact Below.refl _ _ | refine Below.drew ?_ | refine Below.setCell ?_ (by simp <;> omega) _ | refine Below.alloc ?_ (by simp <;> omega) _)
  | false =>
    show Calls Tryd.prog 82 #[rV x y, erV a] w _
    go_enter Tryd.func82, Tryd.ntmps82
    go_wp2_with fail
    go_region_with (go_at_call 94; refine (is_same _ _).mono ?_; rintro e w2 ⟨rfl, rfl⟩)
    all_goals go_wp2_with fail
    all_goals
      refine bodyPost_ret (v := .tuple #[rV x y, .bool false]) (by simp [results, Tryd.results82, go_sem]) rfl ⟨rfl, ?_⟩
      repeat (first | exact Below.refl _ _ | refine Below.drew ?_ | refine Below.setCell ?_ (by simp <;> omega) _ | refine Below.alloc ?_ (by simp <;> omega) _)

set_option maxHeartbeats 1000000 in
theorem times_any (a : Addr) (p q r s : Int) (w : World) (hS : Sen a w) :
    Calls Tryd.prog 83 #[rV p q, rV r s] w fun e w' => e = .returned (te a (Rg.mul p q r s)) ∧ Below w.heap.size w w' := by
  have kA := ((Blk.new w #[.int .i64 p, .int .i64 q] 25).alloc (.cells #[.int .i64 r, .int .i64 s] 25)).alloc (.cells #[.int .i64 0, .int .i64 0] 25)
  have kB := (Blk.new (w.alloc (.cells #[.int .i64 p, .int .i64 q] 25)) #[.int .i64 r, .int .i64 s] 25).alloc (.cells #[.int .i64 0, .int .i64 0] 25)
  have kR := Blk.new ((w.alloc (.cells #[.int .i64 p, .int .i64 q] 25)).alloc (.cells #[.int .i64 r, .int .i64 s] 25)) #[.int .i64 0, .int .i64 0] 25
  have hbA := (((Below.refl w.heap.size w).alloc (Nat.le_refl _) (.cells #[.int .i64 p, .int .i64 q] 25)).alloc (by simp) (.cells #[.int .i64 r, .int .i64 s] 25)).alloc (by simp; omega) (.cells #[.int .i64 0, .int .i64 0] 25)
  simp only [World.size_alloc] at kA kB kR
  have hp := hS.pos
  cases hv1 : Rg.vr p q with
  | false =>
    have E := Lib.hid (te_no (a := a) (show Rg.mul p q r s = Rg.no by unfold Rg.mul; rw [if_neg (by simp [hv1])]))
    go_enter Tryd.func83, Tryd.ntmps83
    go_wp2_with fail
    refine (validR_any _ _ _).mono ?_
    rintro e w1 ⟨rfl, hb1⟩
    replace kR := kR.below hb1 (by simp)
    replace hbA := hbA.trans (hb1.mono hbA.size)
    have s0 := (hS.below hbA hp).cell
    obtain ⟨⟨r0, r1⟩, f0, f1⟩ := kR.two
    clear kA kB
    go_wp2_with fail
    go_region
    go_wp2_with fail
    refine bodyPost_ret (v := .tuple #[rV 0 0, erV a]) (by simp [results, Tryd.results83, go_sem, r0, r1]) rfl ⟨by rw [E.out], ?_⟩
    repeat (first | exact Below.refl _ _ | exact hbA | refine Below.drew ?_ | refine Below.setCell ?_ (by simp <;> omega) _ | refine Below.alloc ?_ (by simp <;> omega) _)
  | true =>
    cases hv2 : Rg.vr r s with
    | false =>
      have E := Lib.hid (te_no (a := a) (show Rg.mul p q r s = Rg.no by unfold Rg.mul; rw [if_neg (by simp [hv2])]))
      go_enter Tryd.func83, Tryd.ntmps83
      go_wp2_with fail
      refine (validR_any _ _ _).mono ?_
      rintro e w1 ⟨rfl, hb1⟩
      replace kR := kR.below hb1 (by simp)
      replace kB := kB.below hb1 (by simp)
      replace hbA := hbA.trans (hb1.mono hbA.size)
      obtain ⟨⟨x0, x1⟩, _, _⟩ := kB.two
      go_wp2_with fail
      refine (validR_any _ _ _).mono ?_
      rintro e w2 ⟨rfl, hb2⟩
      replace kR := kR.below hb2 kR.lt
      replace hbA := hbA.trans (hb2.mono hbA.size)
      have s0 := (hS.below hbA hp).cell
      obtain ⟨⟨r0, r1⟩, f0, f1⟩ := kR.two
      clear kA kB x0 x1
      go_wp2_with fail
      go_region
      go_wp2_with fail
      refine bodyPost_ret (v := .tuple #[rV 0 0, erV a]) (by simp [results, Tryd.results83, go_sem, r0, r1]) rfl ⟨by rw [E.out], ?_⟩
      repeat (first | exact Below.refl _ _ | exact hbA | refine Below.drew ?_ | refine Below.setCell ?_ (by simp <;> omega) _ | refine Below.alloc ?_ (by simp <;> omega) _)
    | true =>
      have q1 := Rg.vr_iff.1 hv1
      have q2 := Rg.vr_iff.1 hv2
      obtain ⟨g1, g2, g3⟩ := q1
      obtain ⟨i1, i2, i3⟩ := q2
      have E := Lib.hid (show te a (Rg.mul p q r s) = te a (Rg.chk (Rg.fl (Rg.pl p q r s)) (Rg.cl (Rg.ph p q r s))) by unfold Rg.mul; rw [if_pos ⟨hv1, hv2⟩])
      obtain ⟨m1a, m1b⟩ := Rg.prod_bd (a := p) (b := r) (by omega) (by omega) (by omega) (by omega)
      obtain ⟨m2a, m2b⟩ := Rg.prod_bd (a := p) (b := s) (by omega) (by omega) (by omega) (by omega)
      obtain ⟨m3a, m3b⟩ := Rg.prod_bd (a := q) (b := r) (by omega) (by omega) (by omega) (by omega)
      obtain ⟨m4a, m4b⟩ := Rg.prod_bd (a := q) (b := s) (by omega) (by omega) (by omega) (by omega)
      have l0 : -5000000000000000000 ≤ Rg.pl p q r s ∧ Rg.pl p q r s ≤ 5000000000000000000 := by unfold Rg.pl; omega
      have h0 : -5000000000000000000 ≤ Rg.ph p q r s ∧ Rg.ph p q r s ≤ 5000000000000000000 := by unfold Rg.ph; omega
      have fmin : ∀ W : World, (Builtin.min_ #[3, 3, 3, 3] 3 #[.int .i64 (p * r), .int .i64 (p * s), .int .i64 (q * r), .int .i64 (q * s)]).run Tryd.prog W = .ok (.int .i64 (Rg.pl p q r s)) W := fun W => run_min4 _ _ _ _ _ _ W
      have fmax : ∀ W : World, (Builtin.max_ #[3, 3, 3, 3] 3 #[.int .i64 (p * r), .int .i64 (p * s), .int .i64 (q * r), .int .i64 (q * s)]).run Tryd.prog W = .ok (.int .i64 (Rg.ph p q r s)) W := fun W => run_max4 _ _ _ _ _ _ W
      go_enter Tryd.func83, Tryd.ntmps83
      go_wp2_with fail
      refine (validR_any _ _ _).mono ?_
      rintro e w1 ⟨rfl, hb1⟩
      replace kR := kR.below hb1 (by simp)
      replace kB := kB.below hb1 (by simp)
      replace kA := kA.below hb1 (by simp; omega)
      replace hbA := hbA.trans (hb1.mono hbA.size)
      obtain ⟨⟨x0, x1⟩, _, _⟩ := kB.two
      go_wp2_with fail
      refine (validR_any _ _ _).mono ?_
      rintro e w2 ⟨rfl, hb2⟩
      replace kR := kR.below hb2 kR.lt
      replace kB := kB.below hb2 kB.lt
      replace kA := kA.below hb2 kA.lt
      replace hbA := hbA.trans (hb2.mono hbA.size)
      clear x0 x1
      obtain ⟨⟨x0, x1⟩, _, _⟩ := kB.two
      obtain ⟨⟨y0, y1⟩, _, _⟩ := kA.two
      go_wp2_with fail
      go_quiet (fail)
      go_wp2_with fail
      refine (outward_any _ _ _ l0.1 l0.2 h0.1 h0.2).mono ?_
      rintro e w4 ⟨rfl, hb4⟩
      replace hbA := below_drewN hbA nq
      replace kR := (kR.drewN nq).below hb4 kR.lt
      replace hbA := hbA.trans (hb4.mono hbA.size)
      clear kA kB x0 x1 y0 y1
      go_wp2_with fail
      refine (checked_any a _ _ _ (hS.below hbA hp)).mono ?_
      rintro e w3 ⟨rfl, hb3⟩
      replace kR := kR.below hb3 kR.lt
      replace hbA := hbA.trans (hb3.mono hbA.size)
      obtain ⟨⟨r0, r1⟩, f0, f1⟩ := kR.two
      obtain ⟨m, n, hf⟩ := te_form a (Rg.good_chk (Rg.fl (Rg.pl p q r s)) (Rg.cl (Rg.ph p q r s)))
      rcases hf with hf | hf
      · rw [hf]
        have E2 := Lib.hid (E.out.trans hf)
        clear hf
        go_wp2_with fail
        refine bodyPost_ret (v := .tuple #[rV m n, .nilIface]) (by simp [results, Tryd.results83, go_sem, r0, r1]) rfl ⟨by rw [E2.out], ?_⟩
        repeat (first | exact Below.refl _ _ | exact hbA | refine Below.drew ?_ | refine Below.setCell ?_ (by simp <;> omega) _ | refine Below.alloc ?_ (by simp <;> omega) _)
      · rw [hf]
        have E2 := Lib.hid (E.out.trans hf)
        clear hf
        go_wp2_with fail
        refine bodyPost_ret (v := .tuple #[rV 0 0, erV a]) (by simp [results, Tryd.results83, go_sem, r0, r1]) rfl ⟨by rw [E2.out], ?_⟩
        repeat (first | exact Below.refl _ _ | exact hbA | refine Below.drew ?_ | refine Below.setCell ?_ (by simp <;> omega) _ | refine Below.alloc ?_ (by simp <;> omega) _)
end Go.Proofs.YtkdooncfchmkfaaDoor

/- The walks of the program's ranges: quotients. -/
namespace Go.Proofs.YtkdooncfchmkfaaDoor
open Go.RowKit
/-- The two operands' cells, and the result's. -/
abbrev OvS (b : Nat) (p q r s : Int) (W : World) : Prop :=
  W.cell? ⟨b, 0, none⟩ = some (.int .i64 p) ∧ W.cell? ⟨b, 1, none⟩ = some (.int .i64 q) ∧ W.cell? ⟨b + 1, 0, none⟩ = some (.int .i64 r) ∧ W.cell? ⟨b + 1, 1, none⟩ = some (.int .i64 s)
structure Ov (w : World) (p q r s : Int) (W : World) : Prop where
  a0 : W.cell? ⟨w.heap.size, 0, none⟩ = some (.int .i64 p)
  a1 : W.cell? ⟨w.heap.size, 1, none⟩ = some (.int .i64 q)
  b0 : W.cell? ⟨w.heap.size + 1, 0, none⟩ = some (.int .i64 r)
  b1 : W.cell? ⟨w.heap.size + 1, 1, none⟩ = some (.int .i64 s)
  kR : Blk W (w.heap.size + 1 + 1) 25 #[.int .i64 0, .int .i64 0]
  bel : Below w.heap.size w W
theorem Ov.drew {w W : World} {p q r s : Int} (k : Ov w p q r s W) : Ov w p q r s W.drew := ⟨k.a0, k.a1, k.b0, k.b1, k.kR, k.bel.drew⟩
theorem Ov.cells {w W : World} {p q r s : Int} (k : Ov w p q r s W) : OvS w.heap.size p q r s W := ⟨k.a0, k.a1, k.b0, k.b1⟩
theorem cell_below {W W' : World} {b i : Nat} {v : Value} (h : W.cell? ⟨b, i, none⟩ = some v) (hb : Below W.heap.size W W') : W'.cell? ⟨b, i, none⟩ = some v := by
  have hlt : b < W.heap.size := by
    rcases Nat.lt_or_ge b W.heap.size with hlt | hge
    · exact hlt
    · simp [World.cell?, Array.getElem?_eq_none hge] at h
  have := hb.block b hlt
  simpa [World.cell?, this] using h
theorem Ov.below {w W W' : World} {p q r s : Int} (k : Ov w p q r s W) (hb : Below W.heap.size W W') : Ov w p q r s W' :=
  ⟨cell_below k.a0 hb, cell_below k.a1 hb, cell_below k.b0 hb, cell_below k.b1 hb, k.kR.below hb k.kR.lt, k.bel.trans (hb.mono k.bel.size)⟩
theorem Ov.cells_set {w W : World} {p q r s : Int} (k : Ov w p q r s W) (u v : Value) : OvS w.heap.size p q r s ((W.setCell ⟨w.heap.size + 1 + 1, 0, none⟩ u).setCell ⟨w.heap.size + 1 + 1, 1, none⟩ v) := by
  refine ⟨?_, ?_, ?_, ?_⟩ <;> (rw [World.cell?_setCell_other _ _ _ _ (by intro e; injection e; omega), World.cell?_setCell_other _ _ _ _ (by intro e; injection e; omega)])
  · exact k.a0
  · exact k.a1
  · exact k.b0
  · exact k.b1
set_option maxHeartbeats 1000000 in
theorem quotients_any (p q r s : Int) (w : World) (p0 : 0 ≤ p) (p1 : p ≤ 2000000000) (q0 : 0 ≤ q) (q1 : q ≤ 2000000000) (r0 : 1 ≤ r) (r1 : r ≤ 2000000000) (s0 : 1 ≤ s) (s1 : s ≤ 2000000000) :
    Calls Tryd.prog 97 #[rV p q, rV r s] w fun e w' => e = .returned (rV (p * 1000000 / s) (-((-(q * 1000000)) / r))) ∧ Below w.heap.size w w' := by
  have W1 : IntKind.i64.wrap (p * 1000000) = p * 1000000 := IntWalk.i64_in _ (by omega)
  have W2 : IntKind.i64.wrap (q * 1000000) = q * 1000000 := IntWalk.i64_in _ (by omega)
  have kA := ((Blk.new w #[.int .i64 p, .int .i64 q] 25).alloc (.cells #[.int .i64 r, .int .i64 s] 25)).alloc (.cells #[.int .i64 0, .int .i64 0] 25)
  have kB := (Blk.new (w.alloc (.cells #[.int .i64 p, .int .i64 q] 25)) #[.int .i64 r, .int .i64 s] 25).alloc (.cells #[.int .i64 0, .int .i64 0] 25)
  have kR := Blk.new ((w.alloc (.cells #[.int .i64 p, .int .i64 q] 25)).alloc (.cells #[.int .i64 r, .int .i64 s] 25)) #[.int .i64 0, .int .i64 0] 25
  have hbA := (((Below.refl w.heap.size w).alloc (Nat.le_refl _) (.cells #[.int .i64 p, .int .i64 q] 25)).alloc (by simp) (.cells #[.int .i64 r, .int .i64 s] 25)).alloc (by simp; omega) (.cells #[.int .i64 0, .int .i64 0] 25)
  simp only [World.size_alloc] at kA kB kR
  have K := Lib.hid (Ov.mk kA.two.1.1 kA.two.1.2 kB.two.1.1 kB.two.1.2 kR hbA)
  have KF := Lib.hid (fun (cs : Array Value) => (show OvS w.heap.size p q r s (((w.alloc (.cells #[.int .i64 p, .int .i64 q] 25)).alloc (.cells #[.int .i64 r, .int .i64 s] 25)).alloc (.cells cs 25)).drew from by
    have k1 := ((Blk.new w #[.int .i64 p, .int .i64 q] 25).alloc (.cells #[.int .i64 r, .int .i64 s] 25)).alloc (.cells cs 25)
    have k2 := (Blk.new (w.alloc (.cells #[.int .i64 p, .int .i64 q] 25)) #[.int .i64 r, .int .i64 s] 25).alloc (.cells cs 25)
    simp only [World.size_alloc] at k2
    exact ⟨k1.two.1.1, k1.two.1.2, k2.two.1.1, k2.two.1.2⟩))
  clear kA kB kR hbA
  go_enter Tryd.func97, Tryd.ntmps97
  go_wp2_with fail
  go_region_held3 (OvS w.heap.size p q r s) (first | exact K.out.cells | exact K.out.drew.cells | exact KF.out _) (first | (go_at_call 68; (try rw [W1]); with_reducible refine (rFloored_any (p * 1000000) s _ (by omega) (by omega) (by omega) (by omega)).mono ?_; rintro e w4 ⟨rfl, rfl⟩) | (go_at_call 69; (try rw [W2]); with_reducible refine (rCeiled_any (q * 1000000) r _ (by omega) (by omega) (by omega) (by omega)).mono ?_; rintro e w4 ⟨rfl, rfl⟩))
  all_goals go_wp2_with fail
  all_goals
    have hbA := K.out.drew.bel
    refine bodyPost_ret (v := rV (p * 1000000 / s) (-((-(q * 1000000)) / r))) (by simp [results, Tryd.results97, go_sem]) rfl ⟨rfl, ?_⟩
    repeat (first | exact Below.refl _ _ | exact hbA | refine Below.drew ?_ | refine Below.setCell ?_ (by simp <;> omega) _ | refine Below.alloc ?_ (by simp <;> omega) _)
set_option maxHeartbeats 1000000 in
theorem over_any (a : Addr) (p q r s : Int) (w : World) (hS : Sen a w) :
    Calls Tryd.prog 84 #[rV p q, rV r s] w fun e w' => e = .returned (te a (Rg.div p q r s)) ∧ Below w.heap.size w w' := by
  have kA := ((Blk.new w #[.int .i64 p, .int .i64 q] 25).alloc (.cells #[.int .i64 r, .int .i64 s] 25)).alloc (.cells #[.int .i64 0, .int .i64 0] 25)
  have kB := (Blk.new (w.alloc (.cells #[.int .i64 p, .int .i64 q] 25)) #[.int .i64 r, .int .i64 s] 25).alloc (.cells #[.int .i64 0, .int .i64 0] 25)
  have kR := Blk.new ((w.alloc (.cells #[.int .i64 p, .int .i64 q] 25)).alloc (.cells #[.int .i64 r, .int .i64 s] 25)) #[.int .i64 0, .int .i64 0] 25
  have hbA := (((Below.refl w.heap.size w).alloc (Nat.le_refl _) (.cells #[.int .i64 p, .int .i64 q] 25)).alloc (by simp) (.cells #[.int .i64 r, .int .i64 s] 25)).alloc (by simp; omega) (.cells #[.int .i64 0, .int .i64 0] 25)
  simp only [World.size_alloc] at kA kB kR
  have hp := hS.pos
  cases hv1 : Rg.vr p q with
  | false =>
    have E := Lib.hid (te_no (a := a) (show Rg.div p q r s = Rg.no by exact Rg.div_no (by simp [hv1])))
    go_enter Tryd.func84, Tryd.ntmps84
    go_wp2_with fail
    refine (validR_any _ _ _).mono ?_
    rintro e w1 ⟨rfl, hb1⟩
    replace kR := kR.below hb1 (by simp)
    replace hbA := hbA.trans (hb1.mono hbA.size)
    have s0 := (hS.below hbA hp).cell
    obtain ⟨⟨r0, r1⟩, f0, f1⟩ := kR.two
    clear kA kB
    go_wp2_with fail
    go_region
    go_wp2_with fail
    refine bodyPost_ret (v := .tuple #[rV 0 0, erV a]) (by simp [results, Tryd.results84, go_sem, r0, r1]) rfl ⟨by rw [E.out], ?_⟩
    repeat (first | exact Below.refl _ _ | exact hbA | refine Below.drew ?_ | refine Below.setCell ?_ (by simp <;> omega) _ | refine Below.alloc ?_ (by simp <;> omega) _)
  | true =>
    cases hv2 : Rg.vr r s with
    | false =>
      have E := Lib.hid (te_no (a := a) (show Rg.div p q r s = Rg.no by exact Rg.div_no (by simp [hv2])))
      go_enter Tryd.func84, Tryd.ntmps84
      go_wp2_with fail
      refine (validR_any _ _ _).mono ?_
      rintro e w1 ⟨rfl, hb1⟩
      replace kR := kR.below hb1 (by simp)
      replace kB := kB.below hb1 (by simp)
      replace hbA := hbA.trans (hb1.mono hbA.size)
      obtain ⟨⟨x0, x1⟩, _, _⟩ := kB.two
      go_wp2_with fail
      refine (validR_any _ _ _).mono ?_
      rintro e w2 ⟨rfl, hb2⟩
      replace kR := kR.below hb2 kR.lt
      replace hbA := hbA.trans (hb2.mono hbA.size)
      have s0 := (hS.below hbA hp).cell
      obtain ⟨⟨r0, r1⟩, f0, f1⟩ := kR.two
      clear kA kB x0 x1
      go_wp2_with fail
      go_region
      go_wp2_with fail
      refine bodyPost_ret (v := .tuple #[rV 0 0, erV a]) (by simp [results, Tryd.results84, go_sem, r0, r1]) rfl ⟨by rw [E.out], ?_⟩
      repeat (first | exact Below.refl _ _ | exact hbA | refine Below.drew ?_ | refine Below.setCell ?_ (by simp <;> omega) _ | refine Below.alloc ?_ (by simp <;> omega) _)
    | true =>
      have q1 := Rg.vr_iff.1 hv1
      have q2 := Rg.vr_iff.1 hv2
      obtain ⟨g1, g2, g3⟩ := q1
      obtain ⟨i1, i2, i3⟩ := q2
      by_cases c1 : p < 0
      · have E := Lib.hid (te_no (a := a) (Rg.div_no (a := p) (b := q) (c := r) (d := s) (fun k => by omega)))
        have d1 := decide_eq_true c1
        go_enter Tryd.func84, Tryd.ntmps84
        go_wp2_with fail
        refine (validR_any _ _ _).mono ?_
        rintro e w1 ⟨rfl, hb1⟩
        replace kR := kR.below hb1 (by simp)
        replace kB := kB.below hb1 (by simp)
        replace kA := kA.below hb1 (by simp; omega)
        replace hbA := hbA.trans (hb1.mono hbA.size)
        obtain ⟨⟨x0, x1⟩, _, _⟩ := kB.two
        go_wp2_with fail
        refine (validR_any _ _ _).mono ?_
        rintro e w2 ⟨rfl, hb2⟩
        replace kR := kR.below hb2 kR.lt
        replace kB := kB.below hb2 kB.lt
        replace kA := kA.below hb2 kA.lt
        replace hbA := hbA.trans (hb2.mono hbA.size)
        clear x0 x1
        have s0 := (hS.below hbA hp).cell
        obtain ⟨⟨x0, x1⟩, _, _⟩ := kB.two
        obtain ⟨⟨y0, y1⟩, _, _⟩ := kA.two
        obtain ⟨⟨r0, r1⟩, f0, f1⟩ := kR.two
        go_wp2_with fail
        go_region
        go_wp2_with fail
        refine bodyPost_ret (v := .tuple #[rV 0 0, erV a]) (by simp [results, Tryd.results84, go_sem, r0, r1]) rfl ⟨by rw [E.out], ?_⟩
        repeat (first | exact Below.refl _ _ | exact hbA | refine Below.drew ?_ | refine Below.setCell ?_ (by simp <;> omega) _ | refine Below.alloc ?_ (by simp <;> omega) _)
      · have d1 := decide_eq_false c1
        by_cases c2 : r ≤ 0
        · have E := Lib.hid (te_no (a := a) (Rg.div_no (a := p) (b := q) (c := r) (d := s) (fun k => by omega)))
          have d2 := decide_eq_true c2
          go_enter Tryd.func84, Tryd.ntmps84
          go_wp2_with fail
          refine (validR_any _ _ _).mono ?_
          rintro e w1 ⟨rfl, hb1⟩
          replace kR := kR.below hb1 (by simp)
          replace kB := kB.below hb1 (by simp)
          replace kA := kA.below hb1 (by simp; omega)
          replace hbA := hbA.trans (hb1.mono hbA.size)
          obtain ⟨⟨x0, x1⟩, _, _⟩ := kB.two
          go_wp2_with fail
          refine (validR_any _ _ _).mono ?_
          rintro e w2 ⟨rfl, hb2⟩
          replace kR := kR.below hb2 kR.lt
          replace kB := kB.below hb2 kB.lt
          replace kA := kA.below hb2 kA.lt
          replace hbA := hbA.trans (hb2.mono hbA.size)
          clear x0 x1
          have s0 := (hS.below hbA hp).cell
          obtain ⟨⟨x0, x1⟩, _, _⟩ := kB.two
          obtain ⟨⟨y0, y1⟩, _, _⟩ := kA.two
          obtain ⟨⟨r0, r1⟩, f0, f1⟩ := kR.two
          go_wp2_with fail
          go_region
          go_wp2_with fail
          refine bodyPost_ret (v := .tuple #[rV 0 0, erV a]) (by simp [results, Tryd.results84, go_sem, r0, r1]) rfl ⟨by rw [E.out], ?_⟩
          repeat (first | exact Below.refl _ _ | exact hbA | refine Below.drew ?_ | refine Below.setCell ?_ (by simp <;> omega) _ | refine Below.alloc ?_ (by simp <;> omega) _)
        · have d2 := decide_eq_false c2
          have E := Lib.hid (show te a (Rg.div p q r s) = te a (Rg.chk (p * 1000000 / s) (-((-(q * 1000000)) / r))) by rw [Rg.div_yes ⟨hv1, hv2, by omega, by omega⟩])
          go_enter Tryd.func84, Tryd.ntmps84
          go_wp2_with fail
          refine (validR_any _ _ _).mono ?_
          rintro e w1 ⟨rfl, hb1⟩
          replace kR := kR.below hb1 (by simp)
          replace kB := kB.below hb1 (by simp)
          replace kA := kA.below hb1 (by simp; omega)
          replace hbA := hbA.trans (hb1.mono hbA.size)
          obtain ⟨⟨x0, x1⟩, _, _⟩ := kB.two
          go_wp2_with fail
          refine (validR_any _ _ _).mono ?_
          rintro e w2 ⟨rfl, hb2⟩
          replace kR := kR.below hb2 kR.lt
          replace kB := kB.below hb2 kB.lt
          replace kA := kA.below hb2 kA.lt
          replace hbA := hbA.trans (hb2.mono hbA.size)
          clear x0 x1
          have s0 := (hS.below hbA hp).cell
          obtain ⟨⟨x0, x1⟩, _, _⟩ := kB.two
          obtain ⟨⟨y0, y1⟩, _, _⟩ := kA.two
          have K := Lib.hid (Ov.mk y0 y1 x0 x1 kR hbA)
          go_wp2_with fail
          clear x0 x1 y0 y1 s0 kA kB kR hbA hb1 hb2
          obtain ⟨m, n, hf⟩ := te_form a (Rg.good_chk (p * 1000000 / s) (-((-(q * 1000000)) / r)))
          rcases hf with hf | hf
          · have CH : ∀ W : World, Sen a W → Calls Tryd.prog 96 #[rV (p * 1000000 / s) (-((-(q * 1000000)) / r))] W fun e w' => e = .returned (.tuple #[rV m n, .nilIface]) ∧ Below W.heap.size W w' := fun W hW => by
              have := checked_any a (p * 1000000 / s) (-((-(q * 1000000)) / r)) W hW
              rw [hf] at this
              exact this
            have E2 := Lib.hid (E.out.trans hf)
            have CH' := Lib.hid CH
            have W1 : IntKind.i64.wrap (p * 1000000) = p * 1000000 := IntWalk.i64_in _ (by omega)
            have W2 : IntKind.i64.wrap (q * 1000000) = q * 1000000 := IntWalk.i64_in _ (by omega)
            clear hf CH
            refine (quotients_any p q r s _ (by omega) (by omega) (by omega) (by omega) (by omega) (by omega) (by omega) (by omega)).mono ?_
            rintro e w4 ⟨rfl, hb4⟩
            have k4 := K.out.below hb4
            have CW := Lib.hid (CH'.out _ (hS.below k4.bel hp))
            clear hb4
            go_wp2_with fail
            refine CW.out.mono ?_
            rintro e w3 ⟨rfl, hb3⟩
            have k3 := k4.below hb3
            obtain ⟨⟨r0, r1⟩, f0, f1⟩ := k3.kR.two
            clear hb3
            all_goals go_wp2_with fail
            all_goals
              have hbA := k3.bel
              refine bodyPost_ret (v := .tuple #[rV m n, .nilIface]) (by simp [results, Tryd.results84, go_sem, r0, r1]) rfl ⟨by rw [E2.out], ?_⟩
              repeat (first | exact Below.refl _ _ | exact hbA | refine Below.drew ?_ | refine Below.setCell ?_ (by simp <;> omega) _ | refine Below.alloc ?_ (by simp <;> omega) _)
          · have CH : ∀ W : World, Sen a W → Calls Tryd.prog 96 #[rV (p * 1000000 / s) (-((-(q * 1000000)) / r))] W fun e w' => e = .returned (.tuple #[rV 0 0, erV a]) ∧ Below W.heap.size W w' := fun W hW => by
              have := checked_any a (p * 1000000 / s) (-((-(q * 1000000)) / r)) W hW
              rw [hf] at this
              exact this
            have E2 := Lib.hid (E.out.trans hf)
            have CH' := Lib.hid CH
            have W1 : IntKind.i64.wrap (p * 1000000) = p * 1000000 := IntWalk.i64_in _ (by omega)
            have W2 : IntKind.i64.wrap (q * 1000000) = q * 1000000 := IntWalk.i64_in _ (by omega)
            clear hf CH
            refine (quotients_any p q r s _ (by omega) (by omega) (by omega) (by omega) (by omega) (by omega) (by omega) (by omega)).mono ?_
            rintro e w4 ⟨rfl, hb4⟩
            have k4 := K.out.below hb4
            have CW := Lib.hid (CH'.out _ (hS.below k4.bel hp))
            clear hb4
            go_wp2_with fail
            refine CW.out.mono ?_
            rintro e w3 ⟨rfl, hb3⟩
            have k3 := k4.below hb3
            obtain ⟨⟨r0, r1⟩, f0, f1⟩ := k3.kR.two
            clear hb3
            all_goals go_wp2_with fail
            all_goals
              have hbA := k3.bel
              refine bodyPost_ret (v := .tuple #[rV 0 0, erV a]) (by simp [results, Tryd.results84, go_sem, r0, r1]) rfl ⟨by rw [E2.out], ?_⟩
              repeat (first | exact Below.refl _ _ | exact hbA | refine Below.drew ?_ | refine Below.setCell ?_ (by simp <;> omega) _ | refine Below.alloc ?_ (by simp <;> omega) _)

end Go.Proofs.YtkdooncfchmkfaaDoor

/- The walks of the program's ranges: the functions that the laws call. -/
namespace Go.Proofs.YtkdooncfchmkfaaDoor
open Go.RowKit
theorem neqNil (W : World) : (binOp .neq 95 .nilIface .nilIface).run Tryd.prog W = .ok (.bool false) W := run_neq_nil_nil _ _ (by kernel_rfl)
theorem neqErr (a : Addr) (W : World) : (binOp .neq 95 (erV a) .nilIface).run Tryd.prog W = .ok (.bool true) W := run_neq_held_nil _ _ _ _ (by kernel_rfl)
theorem Blk.set2 {W : World} {g : Nat} {T : TypeId} {x y : Value} (h : Blk W g T #[x, y]) (p q : Value) : Blk ((W.setCell ⟨g, 0, none⟩ p).setCell ⟨g, 1, none⟩ q) g T #[p, q] := by
  unfold Blk at *
  simp only [World.setCell, Array.getElem?_modify, if_true, h]
  simp
theorem Blk.set {W : World} {g : Nat} {T : TypeId} {cs : Array Value} (h : Blk W g T cs) {q : Addr} (hq : g ≠ q.block) (u : Value) : Blk (W.setCell q u) g T cs := by
  unfold Blk at *
  simp only [World.setCell, Array.getElem?_modify]
  rw [if_neg (fun e => hq e.symm), h]
theorem good_cases {r : Rg.R} (h : Rg.Good r) : (∃ m n, r = (m, n, true)) ∨ r = Rg.no := by
  rcases h with ⟨h, _⟩ | h
  · left; obtain ⟨x, y, z⟩ := r; exact ⟨x, y, by simp at h; rw [h]⟩
  · exact .inr h
theorem tv_yes {r : Rg.R} {m n : Int} (h : r = (m, n, true)) : tv r = .tuple #[rV m n, .bool true] := by rw [h]
theorem tv_no {r : Rg.R} (h : r = Rg.no) : tv r = .tuple #[rV 0 0, .bool false] := by rw [h]; rfl
theorem accept_yes (a : Addr) (m n : Int) (w : World) (hS : Sen a w) : Calls Tryd.prog 82 #[rV m n, .nilIface] w fun e w' => e = .returned (.tuple #[rV m n, .bool true]) ∧ Below w.heap.size w w' :=
  acceptedV_any a m n true w hS
theorem accept_no (a : Addr) (w : World) (hS : Sen a w) : Calls Tryd.prog 82 #[rV 0 0, erV a] w fun e w' => e = .returned (.tuple #[rV 0 0, .bool false]) ∧ Below w.heap.size w w' :=
  acceptedV_any a 0 0 false w hS
set_option maxHeartbeats 1000000 in
theorem mulRange_any (a : Addr) (p q r s : Int) (w : World) (hS : Sen a w) :
    Calls Tryd.prog 70 #[rV p q, rV r s] w fun e w' => e = .returned (tv (Rg.mul p q r s)) ∧ Below w.heap.size w w' := by
  have kR := Blk.new ((w.alloc (.cells #[.int .i64 p, .int .i64 q] 25)).alloc (.cells #[.int .i64 r, .int .i64 s] 25)) #[.int .i64 0, .int .i64 0] 25
  have hbA := (((Below.refl w.heap.size w).alloc (Nat.le_refl _) (.cells #[.int .i64 p, .int .i64 q] 25)).alloc (by simp) (.cells #[.int .i64 r, .int .i64 s] 25)).alloc (by simp; omega) (.cells #[.int .i64 0, .int .i64 0] 25)
  simp only [World.size_alloc] at kR
  have hp := hS.pos
  rcases good_cases (Rg.good_mul p q r s) with ⟨m, n, hr⟩ | hr
  · have PL : ∀ W : World, Sen a W → Calls Tryd.prog 83 #[rV p q, rV r s] W fun e w' => e = .returned (.tuple #[rV m n, .nilIface]) ∧ Below W.heap.size W w' := fun W hW => by
      have := times_any a p q r s W hW
      rw [te_yes hr] at this
      exact this
    have E := Lib.hid (tv_yes hr)
    have P := Lib.hid PL
    clear hr PL
    go_enter Tryd.func70, Tryd.ntmps70
    go_wp2_with fail
    refine (P.out _ (hS.below hbA hp)).mono ?_
    rintro e w1 ⟨rfl, hb1⟩
    replace kR := kR.below hb1 (by simp)
    replace hbA := hbA.trans (hb1.mono hbA.size)
    go_wp2_with fail
    refine (accept_yes a m n _ (hS.below hbA hp)).mono ?_
    rintro e w2 ⟨rfl, hb2⟩
    replace kR := kR.below hb2 kR.lt
    replace hbA := hbA.trans (hb2.mono hbA.size)
    obtain ⟨⟨r0, r1⟩, f0, f1⟩ := kR.two
    go_wp2_with fail
    refine bodyPost_ret (v := .tuple #[rV m n, .bool true]) (by simp [results, Tryd.results70, go_sem, r0, r1]) rfl ⟨by rw [E.out], ?_⟩
    repeat (first | exact Below.refl _ _ | exact hbA | refine Below.drew ?_ | refine Below.setCell ?_ (by simp <;> omega) _ | refine Below.alloc ?_ (by simp <;> omega) _)
  · have PL : ∀ W : World, Sen a W → Calls Tryd.prog 83 #[rV p q, rV r s] W fun e w' => e = .returned (.tuple #[rV 0 0, erV a]) ∧ Below W.heap.size W w' := fun W hW => by
      have := times_any a p q r s W hW
      rw [te_no hr] at this
      exact this
    have E := Lib.hid (tv_no hr)
    have P := Lib.hid PL
    clear hr PL
    go_enter Tryd.func70, Tryd.ntmps70
    go_wp2_with fail
    refine (P.out _ (hS.below hbA hp)).mono ?_
    rintro e w1 ⟨rfl, hb1⟩
    replace kR := kR.below hb1 (by simp)
    replace hbA := hbA.trans (hb1.mono hbA.size)
    go_wp2_with fail
    refine (accept_no a _ (hS.below hbA hp)).mono ?_
    rintro e w2 ⟨rfl, hb2⟩
    replace kR := kR.below hb2 kR.lt
    replace hbA := hbA.trans (hb2.mono hbA.size)
    obtain ⟨⟨r0, r1⟩, f0, f1⟩ := kR.two
    go_wp2_with fail
    refine bodyPost_ret (v := .tuple #[rV 0 0, .bool false]) (by simp [results, Tryd.results70, go_sem, r0, r1]) rfl ⟨by rw [E.out], ?_⟩
    repeat (first | exact Below.refl _ _ | exact hbA | refine Below.drew ?_ | refine Below.setCell ?_ (by simp <;> omega) _ | refine Below.alloc ?_ (by simp <;> omega) _)
set_option maxHeartbeats 1000000 in
theorem divRange_any (a : Addr) (p q r s : Int) (w : World) (hS : Sen a w) :
    Calls Tryd.prog 72 #[rV p q, rV r s] w fun e w' => e = .returned (tv (Rg.div p q r s)) ∧ Below w.heap.size w w' := by
  have kR := Blk.new ((w.alloc (.cells #[.int .i64 p, .int .i64 q] 25)).alloc (.cells #[.int .i64 r, .int .i64 s] 25)) #[.int .i64 0, .int .i64 0] 25
  have hbA := (((Below.refl w.heap.size w).alloc (Nat.le_refl _) (.cells #[.int .i64 p, .int .i64 q] 25)).alloc (by simp) (.cells #[.int .i64 r, .int .i64 s] 25)).alloc (by simp; omega) (.cells #[.int .i64 0, .int .i64 0] 25)
  simp only [World.size_alloc] at kR
  have hp := hS.pos
  rcases good_cases (Rg.good_div p q r s) with ⟨m, n, hr⟩ | hr
  · have PL : ∀ W : World, Sen a W → Calls Tryd.prog 84 #[rV p q, rV r s] W fun e w' => e = .returned (.tuple #[rV m n, .nilIface]) ∧ Below W.heap.size W w' := fun W hW => by
      have := over_any a p q r s W hW
      rw [te_yes hr] at this
      exact this
    have E := Lib.hid (tv_yes hr)
    have P := Lib.hid PL
    clear hr PL
    go_enter Tryd.func72, Tryd.ntmps72
    go_wp2_with fail
    refine (P.out _ (hS.below hbA hp)).mono ?_
    rintro e w1 ⟨rfl, hb1⟩
    replace kR := kR.below hb1 (by simp)
    replace hbA := hbA.trans (hb1.mono hbA.size)
    go_wp2_with fail
    refine (accept_yes a m n _ (hS.below hbA hp)).mono ?_
    rintro e w2 ⟨rfl, hb2⟩
    replace kR := kR.below hb2 kR.lt
    replace hbA := hbA.trans (hb2.mono hbA.size)
    obtain ⟨⟨r0, r1⟩, f0, f1⟩ := kR.two
    go_wp2_with fail
    refine bodyPost_ret (v := .tuple #[rV m n, .bool true]) (by simp [results, Tryd.results72, go_sem, r0, r1]) rfl ⟨by rw [E.out], ?_⟩
    repeat (first | exact Below.refl _ _ | exact hbA | refine Below.drew ?_ | refine Below.setCell ?_ (by simp <;> omega) _ | refine Below.alloc ?_ (by simp <;> omega) _)
  · have PL : ∀ W : World, Sen a W → Calls Tryd.prog 84 #[rV p q, rV r s] W fun e w' => e = .returned (.tuple #[rV 0 0, erV a]) ∧ Below W.heap.size W w' := fun W hW => by
      have := over_any a p q r s W hW
      rw [te_no hr] at this
      exact this
    have E := Lib.hid (tv_no hr)
    have P := Lib.hid PL
    clear hr PL
    go_enter Tryd.func72, Tryd.ntmps72
    go_wp2_with fail
    refine (P.out _ (hS.below hbA hp)).mono ?_
    rintro e w1 ⟨rfl, hb1⟩
    replace kR := kR.below hb1 (by simp)
    replace hbA := hbA.trans (hb1.mono hbA.size)
    go_wp2_with fail
    refine (accept_no a _ (hS.below hbA hp)).mono ?_
    rintro e w2 ⟨rfl, hb2⟩
    replace kR := kR.below hb2 kR.lt
    replace hbA := hbA.trans (hb2.mono hbA.size)
    obtain ⟨⟨r0, r1⟩, f0, f1⟩ := kR.two
    go_wp2_with fail
    refine bodyPost_ret (v := .tuple #[rV 0 0, .bool false]) (by simp [results, Tryd.results72, go_sem, r0, r1]) rfl ⟨by rw [E.out], ?_⟩
    repeat (first | exact Below.refl _ _ | exact hbA | refine Below.drew ?_ | refine Below.setCell ?_ (by simp <;> omega) _ | refine Below.alloc ?_ (by simp <;> omega) _)
def inB (p q n : Int) : Bool := Rg.vr p q && btw n p q
end Go.Proofs.YtkdooncfchmkfaaDoor

/- The walks of the model's ranges. -/
namespace Go.Proofs.YtkdooncfchmkfaaDoor
open Go.RowKit
theorem sh_two (p q : Int) : (tv (Rg.chk p q) = .tuple #[rV p q, .bool true] ∧ Rg.vr p q = true) ∨ (tv (Rg.chk p q) = .tuple #[rV 0 0, .bool false] ∧ Rg.vr p q = false) := by
  cases h : Rg.vr p q with
  | true => exact .inl ⟨tv_yes (Rg.chk_eq h), rfl⟩
  | false => exact .inr ⟨tv_no (Rg.chk_no h), rfl⟩
set_option maxHeartbeats 1000000 in
theorem sMulR_any (p q r s : Int) (w : World) (g1 : -2000000000 ≤ p) (g2 : p ≤ q) (g3 : q ≤ 2000000000) (i1 : -2000000000 ≤ r) (i2 : r ≤ s) (i3 : s ≤ 2000000000) :
    Calls Tryd.prog 64 #[rV p q, rV r s] w fun e w' => e = .returned (rV (Rg.fl (Rg.pl p q r s)) (Rg.cl (Rg.ph p q r s))) ∧ Below w.heap.size w w' := by
  obtain ⟨m1a, m1b⟩ := Rg.prod_bd (a := p) (b := r) (by omega) (by omega) (by omega) (by omega)
  obtain ⟨m2a, m2b⟩ := Rg.prod_bd (a := p) (b := s) (by omega) (by omega) (by omega) (by omega)
  obtain ⟨m3a, m3b⟩ := Rg.prod_bd (a := q) (b := r) (by omega) (by omega) (by omega) (by omega)
  obtain ⟨m4a, m4b⟩ := Rg.prod_bd (a := q) (b := s) (by omega) (by omega) (by omega) (by omega)
  have l0 : -5000000000000000000 ≤ Rg.pl p q r s ∧ Rg.pl p q r s ≤ 5000000000000000000 := by unfold Rg.pl; omega
  have h0 : -5000000000000000000 ≤ Rg.ph p q r s ∧ Rg.ph p q r s ≤ 5000000000000000000 := by unfold Rg.ph; omega
  have PL : Hid (min (p * r) (min (p * s) (min (q * r) (q * s))) = Rg.pl p q r s) := Lib.hid (by unfold Rg.pl; omega)
  have PH : Hid (max (p * r) (max (p * s) (max (q * r) (q * s))) = Rg.ph p q r s) := Lib.hid (by unfold Rg.ph; omega)
  have fmin := fun (x y : Int) (W : World) => run_min2' #[3, 3] 3 x y W
  have fmax := fun (x y : Int) (W : World) => run_max2' #[3, 3] 3 x y W
  generalize Rg.pl p q r s = lo at *
  generalize Rg.ph p q r s = hi at *
  go_enter Tryd.func64, Tryd.ntmps64
  go_wp2_with fail
  refine wp_loop_rounds 4 ?_
  rw [rounds_succ]
  go_wp2_with fail
  rw [rounds_succ]
  go_wp2_with fail
  rw [rounds_succ]
  go_wp2_with fail
  rw [rounds_succ]
  go_wp2_with fail
  rw [PL.out]
  refine (rsFloored_any _ _ _ l0.1 l0.2 (by omega) (by omega)).mono ?_
  rintro e w2 ⟨rfl, rfl⟩
  go_wp2_with fail
  rw [PH.out]
  refine (rsCeiled_any _ _ _ h0.1 h0.2 (by omega) (by omega)).mono ?_
  rintro e w2 ⟨rfl, rfl⟩
  go_wp2_with fail
  refine bodyPost_ret (v := rV (lo / 1000000) (-((-hi) / 1000000))) (by simp [results, Tryd.results64, go_sem]) rfl ⟨rfl, ?_⟩
  repeat (first | exact Below.refl _ _ | refine Below.drew ?_ | refine Below.setCell ?_ (by simp <;> omega) _ | refine Below.alloc ?_ (by simp <;> omega) _)
end Go.Proofs.YtkdooncfchmkfaaDoor

/- The walks of the model's ranges: the functions that the laws call. -/
namespace Go.Proofs.YtkdooncfchmkfaaDoor
open Go.RowKit
set_option maxHeartbeats 1000000 in
theorem sDivR_any (p q r s : Int) (w : World) (g1 : -2000000000 ≤ p) (g2 : p ≤ q) (g3 : q ≤ 2000000000) (i1 : 0 < r) (i2 : r ≤ s) (i3 : s ≤ 2000000000) :
    Calls Tryd.prog 66 #[rV p q, rV r s] w fun e w' => e = .returned (rV (p * 1000000 / s) (-((-(q * 1000000)) / r))) ∧ Below w.heap.size w w' := by
  have kA := ((Blk.new w #[.int .i64 p, .int .i64 q] 25).alloc (.cells #[.int .i64 r, .int .i64 s] 25)).alloc (.cells #[.int .i64 0, .int .i64 0] 25)
  have kB := (Blk.new (w.alloc (.cells #[.int .i64 p, .int .i64 q] 25)) #[.int .i64 r, .int .i64 s] 25).alloc (.cells #[.int .i64 0, .int .i64 0] 25)
  have kR := Blk.new ((w.alloc (.cells #[.int .i64 p, .int .i64 q] 25)).alloc (.cells #[.int .i64 r, .int .i64 s] 25)) #[.int .i64 0, .int .i64 0] 25
  have hbA := (((Below.refl w.heap.size w).alloc (Nat.le_refl _) (.cells #[.int .i64 p, .int .i64 q] 25)).alloc (by simp) (.cells #[.int .i64 r, .int .i64 s] 25)).alloc (by simp; omega) (.cells #[.int .i64 0, .int .i64 0] 25)
  simp only [World.size_alloc] at kA kB kR
  have K := Lib.hid (Ov.mk kA.two.1.1 kA.two.1.2 kB.two.1.1 kB.two.1.2 kR hbA)
  clear kA kB kR hbA
  have W1 : IntKind.i64.wrap (p * 1000000) = p * 1000000 := IntWalk.i64_in _ (by omega)
  have W2 : IntKind.i64.wrap (q * 1000000) = q * 1000000 := IntWalk.i64_in _ (by omega)
  go_enter Tryd.func66, Tryd.ntmps66
  go_wp2_with fail
  generalize ((w.alloc (.cells #[.int .i64 p, .int .i64 q] 25)).alloc (.cells #[.int .i64 r, .int .i64 s] 25)).alloc (.cells #[.int .i64 0, .int .i64 0] 25) = W0 at K ⊢
  obtain ⟨⟨r0, r1⟩, f0, f1⟩ := K.out.kR.two
  go_region_held3 (OvS w.heap.size p q r s) (first | exact K.out.drew.cells | exact K.out.drew.cells_set _ _) (first | (go_at_call 45; (try rw [W1]); with_reducible refine (rsFloored_any (p * 1000000) s _ (by omega) (by omega) (by omega) (by omega)).mono ?_; rintro e w4 ⟨rfl, rfl⟩) | (go_at_call 46; (try rw [W2]); with_reducible refine (rsCeiled_any (q * 1000000) r _ (by omega) (by omega) (by omega) (by omega)).mono ?_; rintro e w4 ⟨rfl, rfl⟩))
  all_goals go_wp2_with fail
  all_goals
    have hbA := K.out.bel
    refine bodyPost_ret (v := rV (p * 1000000 / s) (-((-(q * 1000000)) / r))) (by simp [results, Tryd.results66, go_sem, r0, r1]) rfl ⟨rfl, ?_⟩
    repeat (first | exact Below.refl _ _ | exact hbA | refine Below.drew ?_ | refine Below.setCell ?_ (by simp <;> omega) _ | refine Below.alloc ?_ (by simp <;> omega) _)
theorem exactOne_any (w : World) :
    Calls Tryd.prog 67 #[.int .i64 1] w fun e w' => e = .returned (rV 1000000 1000000) ∧ Below w.heap.size w w' := by
  go_enter Tryd.func67, Tryd.ntmps67
  go_wp2_with fail
  refine bodyPost_ret (v := rV 1000000 1000000) (by simp [results, Tryd.results67, go_sem]) rfl ⟨rfl, ?_⟩
  repeat (first | exact Below.refl _ _ | refine Below.drew ?_ | refine Below.setCell ?_ (by simp <;> omega) _ | refine Below.alloc ?_ (by simp <;> omega) _)
end Go.Proofs.YtkdooncfchmkfaaDoor
