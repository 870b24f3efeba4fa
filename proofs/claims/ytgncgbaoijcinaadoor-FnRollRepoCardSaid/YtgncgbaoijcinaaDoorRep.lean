/- Loans against bonds, in the program and in the model. -/
import Derived.Test.YtgncgbaoijcinaaDoorRpB
namespace Go.Proofs.YtgncgbaoijcinaaDoor
open Go.RowKit
abbrev rpV (c r f t h : Int) : Value := .agg #[.int .i64 c, .int .i64 r, .int .i64 f, .int .i64 t, .int .i64 h]
abbrev rpA (c r f t h : Int) : Array Value := #[.int .i64 c, .int .i64 r, .int .i64 f, .int .i64 t, .int .i64 h]
/-- A valid loan. -/
def Rp.ok (c r f t h : Int) : Bool := btw c 1 100000000 && (btw r 0 3000 && (spanB f t && btw h 0 500))
theorem Rp.ok_iff {c r f t h : Int} : Rp.ok c r f t h = true ↔ (1 ≤ c ∧ c ≤ 100000000) ∧ (0 ≤ r ∧ r ≤ 3000) ∧ Span f t ∧ (0 ≤ h ∧ h ≤ 500) := by
  unfold Rp.ok
  rw [Bool.and_eq_true, Bool.and_eq_true, Bool.and_eq_true, btw_iff, btw_iff, btw_iff, spanB_iff]
theorem Blk.rp {w : World} {b : Nat} {T : TypeId} {c r f t h : Int} (hB : Blk w b T (rpA c r f t h)) : w.cell? ⟨b, 0, none⟩ = some (.int .i64 c) ∧ w.cell? ⟨b, 1, none⟩ = some (.int .i64 r) ∧ w.cell? ⟨b, 2, none⟩ = some (.int .i64 f) ∧ w.cell? ⟨b, 3, none⟩ = some (.int .i64 t) ∧ w.cell? ⟨b, 4, none⟩ = some (.int .i64 h) := by
  unfold Blk at hB
  simp [World.cell?, hB]
theorem Blk.rpFz {w : World} {b : Nat} {T : TypeId} {c r f t h : Int} (hB : Blk w b T (rpA c r f t h)) : w.frozen? ⟨b, 0, none⟩ = false ∧ w.frozen? ⟨b, 1, none⟩ = false ∧ w.frozen? ⟨b, 2, none⟩ = false ∧ w.frozen? ⟨b, 3, none⟩ = false ∧ w.frozen? ⟨b, 4, none⟩ = false := by
  unfold Blk at hB
  simp [World.frozen?, hB]
set_option maxHeartbeats 800000 in
theorem vRepo_any (c r f t h : Int) (w : World) :
    Calls Tryd.prog 8 #[rpV c r f t h] w fun e w' => e = .returned (.bool (Rp.ok c r f t h)) ∧ Below w.heap.size w w' := by
  have hbA := (Below.refl w.heap.size w).alloc (Nat.le_refl _) (.cells (rpA c r f t h) 24)
  cases h0 : btw c 1 100000000 with
  | false =>
    have E := Lib.hid (show Rp.ok c r f t h = false by unfold Rp.ok; rw [h0]; rfl)
    go_enter Tryd.func8, Tryd.ntmps8
    go_wp2_with fail
    refine (between_any _ _ _ _).mono ?_
    rintro e w1 ⟨rfl, rfl⟩
    rw [h0]
    go_wp2_with fail
    go_ret
    exact ⟨ret_bool E.out.symm, hbA⟩
  | true =>
    cases h1 : btw r 0 3000 with
    | false =>
      have E := Lib.hid (show Rp.ok c r f t h = false by unfold Rp.ok; rw [h0, h1]; rfl)
      go_enter Tryd.func8, Tryd.ntmps8
      go_wp2_with fail
      refine (between_any _ _ _ _).mono ?_
      rintro e w1 ⟨rfl, rfl⟩
      rw [h0]
      go_wp2_with fail
      refine (vrate_any _ _).mono ?_
      rintro e w1 ⟨rfl, rfl⟩
      rw [h1]
      go_wp2_with fail
      go_ret
      exact ⟨ret_bool E.out.symm, hbA⟩
    | true =>
      cases h2 : spanB f t with
      | false =>
        have E := Lib.hid (show Rp.ok c r f t h = false by unfold Rp.ok; rw [h0, h1, h2]; rfl)
        go_enter Tryd.func8, Tryd.ntmps8
        go_wp2_with fail
        refine (between_any _ _ _ _).mono ?_
        rintro e w1 ⟨rfl, rfl⟩
        rw [h0]
        go_wp2_with fail
        refine (vrate_any _ _).mono ?_
        rintro e w1 ⟨rfl, rfl⟩
        rw [h1]
        go_wp2_with fail
        refine (span_any _ _ _).mono ?_
        rintro e w1 ⟨rfl, rfl⟩
        rw [h2]
        go_wp2_with fail
        go_ret
        exact ⟨ret_bool E.out.symm, hbA⟩
      | true =>
        have E := Lib.hid (show Rp.ok c r f t h = btw h 0 500 by unfold Rp.ok; rw [h0, h1, h2]; rfl)
        go_enter Tryd.func8, Tryd.ntmps8
        go_wp2_with fail
        refine (between_any _ _ _ _).mono ?_
        rintro e w1 ⟨rfl, rfl⟩
        rw [h0]
        go_wp2_with fail
        refine (vrate_any _ _).mono ?_
        rintro e w1 ⟨rfl, rfl⟩
        rw [h1]
        go_wp2_with fail
        refine (span_any _ _ _).mono ?_
        rintro e w1 ⟨rfl, rfl⟩
        rw [h2]
        go_wp2_with fail
        refine (between_any _ _ _ _).mono ?_
        rintro e w1 ⟨rfl, rfl⟩
        go_wp2_with fail
        go_ret
        exact ⟨ret_bool E.out.symm, hbA⟩
theorem span_m {x y : Int} (h : btw x 0 36524 = true) : btw y x (min 36524 (x + 4000)) = spanB x y := by
  have := btw_iff.1 h
  cases e : spanB x y with
  | true => have := spanB_iff.1 e; unfold Span at this; exact btw_t (by omega) (by omega)
  | false => have := spanB_iff_f.1 e; unfold Span at this; exact btw_f (by omega)
set_option maxHeartbeats 1000000 in
theorem svRepo_any (c r f t h : Int) (w : World) :
    Calls Tryd.prog 13 #[rpV c r f t h] w fun e w' => e = .returned (.bool (Rp.ok c r f t h)) ∧ Below w.heap.size w w' := by
  have hbA := (Below.refl w.heap.size w).alloc (Nat.le_refl _) (.cells (rpA c r f t h) 24)
  cases h0 : btw c 1 100000000 with
  | false =>
    have E := Lib.hid (show Rp.ok c r f t h = false by unfold Rp.ok; rw [h0]; rfl)
    go_enter Tryd.func13, Tryd.ntmps13
    go_wp2_with fail
    refine (inRange_any _ _ _ _).mono ?_
    rintro e w1 ⟨rfl, rfl⟩
    rw [h0]
    go_wp2_with fail
    go_ret
    exact ⟨ret_bool E.out.symm, hbA⟩
  | true =>
    cases h1 : btw r 0 3000 with
    | false =>
      have E := Lib.hid (show Rp.ok c r f t h = false by unfold Rp.ok; rw [h0, h1]; rfl)
      go_enter Tryd.func13, Tryd.ntmps13
      go_wp2_with fail
      refine (inRange_any _ _ _ _).mono ?_
      rintro e w1 ⟨rfl, rfl⟩
      rw [h0]
      go_wp2_with fail
      refine (inRange_any _ _ _ _).mono ?_
      rintro e w1 ⟨rfl, rfl⟩
      rw [h1]
      go_wp2_with fail
      go_ret
      exact ⟨ret_bool E.out.symm, hbA⟩
    | true =>
      cases h2 : btw f 0 36524 with
      | false =>
        have E := Lib.hid (show Rp.ok c r f t h = false by unfold Rp.ok; rw [h0, h1, span_0 h2]; rfl)
        go_enter Tryd.func13, Tryd.ntmps13
        go_wp2_with fail
        refine (inRange_any _ _ _ _).mono ?_
        rintro e w1 ⟨rfl, rfl⟩
        rw [h0]
        go_wp2_with fail
        refine (inRange_any _ _ _ _).mono ?_
        rintro e w1 ⟨rfl, rfl⟩
        rw [h1]
        go_wp2_with fail
        refine (inRange_any _ _ _ _).mono ?_
        rintro e w1 ⟨rfl, rfl⟩
        rw [h2]
        go_wp2_with fail
        go_ret
        exact ⟨ret_bool E.out.symm, hbA⟩
      | true =>
        obtain ⟨f0, f1⟩ := btw_iff.1 h2
        have fmin : ∀ W : World, (Builtin.min_ #[3, 3] 3 #[.int .i64 36524, .int .i64 (f + 4000)]).run Tryd.prog W = .ok (.int .i64 (min 36524 (f + 4000))) W := fun W => run_min2' _ _ _ _ W
        cases h3 : btw t f (min 36524 (f + 4000)) with
        | false =>
          have E := Lib.hid (show Rp.ok c r f t h = false by unfold Rp.ok; rw [h0, h1, ← span_m h2, h3]; rfl)
          go_enter Tryd.func13, Tryd.ntmps13
          go_wp2_with fail
          refine (inRange_any _ _ _ _).mono ?_
          rintro e w1 ⟨rfl, rfl⟩
          rw [h0]
          go_wp2_with fail
          refine (inRange_any _ _ _ _).mono ?_
          rintro e w1 ⟨rfl, rfl⟩
          rw [h1]
          go_wp2_with fail
          refine (inRange_any _ _ _ _).mono ?_
          rintro e w1 ⟨rfl, rfl⟩
          rw [h2]
          go_wp2_with fail
          refine (inRange_any _ _ _ _).mono ?_
          rintro e w1 ⟨rfl, rfl⟩
          rw [h3]
          go_wp2_with fail
          go_ret
          exact ⟨ret_bool E.out.symm, hbA⟩
        | true =>
          have E := Lib.hid (show Rp.ok c r f t h = btw h 0 500 by unfold Rp.ok; rw [h0, h1, ← span_m h2, h3]; rfl)
          go_enter Tryd.func13, Tryd.ntmps13
          go_wp2_with fail
          refine (inRange_any _ _ _ _).mono ?_
          rintro e w1 ⟨rfl, rfl⟩
          rw [h0]
          go_wp2_with fail
          refine (inRange_any _ _ _ _).mono ?_
          rintro e w1 ⟨rfl, rfl⟩
          rw [h1]
          go_wp2_with fail
          refine (inRange_any _ _ _ _).mono ?_
          rintro e w1 ⟨rfl, rfl⟩
          rw [h2]
          go_wp2_with fail
          refine (inRange_any _ _ _ _).mono ?_
          rintro e w1 ⟨rfl, rfl⟩
          rw [h3]
          go_wp2_with fail
          refine (inRange_any _ _ _ _).mono ?_
          rintro e w1 ⟨rfl, rfl⟩
          go_wp2_with fail
          go_ret
          exact ⟨ret_bool E.out.symm, hbA⟩
/-- A loan's interest. -/
noncomputable def Rp.int (c r f t h : Int) : Int := if Rp.ok c r f t h = true then intV c r 1 f t else -1
theorem Rp.int_yes {c r f t h : Int} (e : Rp.ok c r f t h = true) : Rp.int c r f t h = intV c r 1 f t := if_pos e
theorem Rp.int_no {c r f t h : Int} (e : Rp.ok c r f t h = false) : Rp.int c r f t h = -1 := if_neg (by rw [e]; simp)
theorem Rp.int_nn {c r f t h : Int} (e : Rp.ok c r f t h = true) : 0 ≤ intV c r 1 f t ∧ intV c r 1 f t ≤ 439200000000000000 := by
  obtain ⟨c0, r0, s0, -⟩ := Rp.ok_iff.1 e
  have hs : spanB f t = true := spanB_iff.2 s0
  have hc : btw c 0 100000000 = true := btw_iff.2 (by omega)
  have hr : btw r 0 3000 = true := btw_iff.2 r0
  obtain ⟨⟨p0, p1⟩, q0, q1⟩ := yp_bd (k := 1) hs
  obtain ⟨_, m0, m1⟩ := ar_bd hc hr p0 p1
  have : intV c r 1 f t = Rt.near (c * r * Rt.ln (Yp.num 1 f t) (Yp.den 1)) (10000 * Rt.ld (Yp.num 1 f t) (Yp.den 1)) := by
    unfold intV
    rw [if_pos ⟨⟨by decide, hs⟩, hc, hr⟩]
  rw [this]
  refine ⟨?_, ?_⟩
  · unfold Rt.near; exact Int.ediv_nonneg (by omega) (by omega)
  · unfold Rt.near
    generalize Rt.ld (Yp.num 1 f t) (Yp.den 1) = d at *
    generalize c * r * Rt.ln (Yp.num 1 f t) (Yp.den 1) = a at *
    refine Int.le_trans (Int.ediv_le_ediv (c := 2 * (10000 * d)) (by omega) (show 2 * a + 10000 * d ≤ (2 * (10000 * d)) * 439200000000000000 by omega)) ?_
    rw [Int.mul_ediv_cancel_left _ (by omega)]
    exact Int.le_refl _
set_option maxHeartbeats 800000 in
theorem rpInt_any (c r f t h : Int) (w : World) (hT : Tab w) :
    Calls Tryd.prog 7 #[rpV c r f t h] w fun e w' => e = .returned (.int .i64 (Rp.int c r f t h)) ∧ Below w.heap.size w w' := by
  have hbA := (Below.refl w.heap.size w).alloc (Nat.le_refl _) (.cells (rpA c r f t h) 24)
  have kA := Blk.new w (rpA c r f t h) 24
  have HT := Lib.hid hT; clear hT
  cases h1 : Rp.ok c r f t h with
  | false =>
    have E := Lib.hid (Rp.int_no h1)
    go_enter Tryd.func7, Tryd.ntmps7
    go_wp2_with fail
    refine (vRepo_any _ _ _ _ _ _).mono ?_
    rintro e w1 ⟨rfl, hb1⟩
    rw [h1]
    go_wp2_with fail
    go_ret
    exact ⟨ret_int E.out.symm, hbA.trans (hb1.mono hbA.size)⟩
  | true =>
    have E := Lib.hid (Rp.int_yes h1)
    go_enter Tryd.func7, Tryd.ntmps7
    go_wp2_with fail
    refine (vRepo_any _ _ _ _ _ _).mono ?_
    rintro e w1 ⟨rfl, hb1⟩
    rw [h1]
    obtain ⟨x0, x1, x2, x3, x4⟩ := (kA.below hb1 kA.lt).rp
    replace hbA := hbA.trans (hb1.mono hbA.size)
    clear hb1 kA
    go_wp2_with fail
    refine (interest_any _ _ _ _ _ _ (HT.out.below hbA HT.out.pos)).mono ?_
    rintro e w2 ⟨rfl, hb2⟩
    go_wp2_with fail
    go_ret
    exact ⟨ret_int E.out.symm, hbA.trans (hb2.mono hbA.size)⟩
set_option maxHeartbeats 800000 in
theorem srpInt_any (c r f t h : Int) (w : World) :
    Calls Tryd.prog 14 #[rpV c r f t h] w fun e w' => e = .returned (.int .i64 (Rp.int c r f t h)) ∧ Below w.heap.size w w' := by
  have hbA := (Below.refl w.heap.size w).alloc (Nat.le_refl _) (.cells (rpA c r f t h) 24)
  have kA := Blk.new w (rpA c r f t h) 24
  skip
  cases h1 : Rp.ok c r f t h with
  | false =>
    have E := Lib.hid (Rp.int_no h1)
    go_enter Tryd.func14, Tryd.ntmps14
    go_wp2_with fail
    refine (svRepo_any _ _ _ _ _ _).mono ?_
    rintro e w1 ⟨rfl, hb1⟩
    rw [h1]
    go_wp2_with fail
    go_ret
    exact ⟨ret_int E.out.symm, hbA.trans (hb1.mono hbA.size)⟩
  | true =>
    have E := Lib.hid (Rp.int_yes h1)
    go_enter Tryd.func14, Tryd.ntmps14
    go_wp2_with fail
    refine (svRepo_any _ _ _ _ _ _).mono ?_
    rintro e w1 ⟨rfl, hb1⟩
    rw [h1]
    obtain ⟨x0, x1, x2, x3, x4⟩ := (kA.below hb1 kA.lt).rp
    replace hbA := hbA.trans (hb1.mono hbA.size)
    clear hb1 kA
    go_wp2_with fail
    refine (sInterest_any _ _ _ _ _ _).mono ?_
    rintro e w2 ⟨rfl, hb2⟩
    go_wp2_with fail
    go_ret
    exact ⟨ret_int E.out.symm, hbA.trans (hb2.mono hbA.size)⟩
/-- The bonds that a loan needs. -/
def Rp.plg (c r f t h p : Int) : Int := if Rp.ok c r f t h = true ∧ btw p 1 50000 = true then -((-(1000 * c)) / (p * (1000 - h))) else -1
theorem Rp.plg_yes {c r f t h p : Int} (e : Rp.ok c r f t h = true) (e2 : btw p 1 50000 = true) : Rp.plg c r f t h p = -((-(1000 * c)) / (p * (1000 - h))) := if_pos ⟨e, e2⟩
theorem Rp.plg_no {c r f t h p : Int} (e : Rp.ok c r f t h = false) : Rp.plg c r f t h p = -1 := if_neg (by rw [e]; simp)
theorem Rp.plg_no2 {c r f t h p : Int} (e : btw p 1 50000 = false) : Rp.plg c r f t h p = -1 := if_neg (by rw [e]; simp)
theorem Rp.den {h p : Int} (h0 : 0 ≤ h) (h1 : h ≤ 500) (p0 : 1 ≤ p) (p1 : p ≤ 50000) : 1 ≤ p * (1000 - h) ∧ p * (1000 - h) ≤ 50000000 := by
  have a := Int.mul_le_mul (show 1 ≤ p from p0) (show 1 ≤ 1000 - h by omega) (by omega) (by omega)
  have b := Int.mul_le_mul p1 (show 1000 - h ≤ 1000 by omega) (by omega) (by omega)
  omega
/-- What the rounded-up quotient says. -/
theorem Rp.ceil {a d : Int} (hd : 1 ≤ d) : a ≤ -((-a) / d) * d ∧ (-((-a) / d) - 1) * d < a := by
  have m := Int.mul_ediv_add_emod (-a) d
  have n0 := Int.emod_nonneg (-a) (show d ≠ 0 by omega)
  have n1 := Int.emod_lt_of_pos (-a) (show 0 < d by omega)
  generalize (-a) / d = q at *
  have e1 : -q * d = -(d * q) := by rw [Int.neg_mul, Int.mul_comm]
  have e2 : (-q - 1) * d = -(d * q) - d := by rw [Int.sub_mul, e1]; omega
  rw [e1, e2]
  omega
theorem Rp.ceil_pos {a d : Int} (hd : 1 ≤ d) (ha : 1 ≤ a) (h : a ≤ 100000000000) : 1 ≤ -((-a) / d) ∧ -((-a) / d) ≤ 100000000000 := by
  have h1 : (-a) / d ≤ -1 := by
    have := Int.ediv_le_ediv (show (0:Int) < d by omega) (show -a ≤ -1 by omega)
    rwa [Int.neg_one_ediv, Int.sign_eq_one_of_pos (by omega)] at this
  have h2 : -100000000000 ≤ (-a) / d := (Int.le_ediv_iff_mul_le (by omega)).2 (by
    have := Int.mul_le_mul_of_nonneg_left hd (show (0:Int) ≤ 100000000000 by decide)
    omega)
  omega
theorem Rp.plg_bd {c r f t h p : Int} : -1 ≤ Rp.plg c r f t h p ∧ Rp.plg c r f t h p ≤ 100000000000 := by
  unfold Rp.plg
  split
  · rename_i e
    obtain ⟨c0, -, -, g0, g1⟩ := Rp.ok_iff.1 e.1
    obtain ⟨p0, p1⟩ := btw_iff.1 e.2
    have d := Rp.den g0 g1 p0 p1
    have := Rp.ceil_pos (a := 1000 * c) d.1 (by omega) (by omega)
    omega
  · omega
theorem Rp.plg_nn {c r f t h p : Int} (e : Rp.ok c r f t h = true) (e2 : btw p 1 50000 = true) : 1 ≤ Rp.plg c r f t h p := by
  rw [Rp.plg_yes e e2]
  obtain ⟨c0, -, -, g0, g1⟩ := Rp.ok_iff.1 e
  obtain ⟨p0, p1⟩ := btw_iff.1 e2
  have d := Rp.den g0 g1 p0 p1
  have := Rp.ceil_pos (a := 1000 * c) d.1 (by omega) (by omega)
  omega
theorem ceil_bd {a b : Int} (h0 : -2000000000000000000 ≤ a) (h1 : a ≤ 2000000000000000000) (hb : 1 ≤ b) : -2000000000000000000 ≤ (-a) / b ∧ (-a) / b ≤ 2000000000000000000 := by
  constructor
  · exact (Int.le_ediv_iff_mul_le (by omega)).2 (by
      have := Int.mul_le_mul_of_nonneg_left hb (show (0:Int) ≤ 2000000000000000000 by decide); omega)
  · exact Int.le_trans (Int.ediv_le_ediv (by omega) (show -a ≤ 2000000000000000000 by omega)) (Int.ediv_le_self _ (by decide))
theorem blkDrewR {w : World} {b : Nat} {T : TypeId} {cs : Array Value} (h : Blk w b T cs) : Blk w.drew b T cs := h
abbrev RpS (b : Nat) (c r f t h : Int) (w : World) : Prop := w.cell? ⟨b, 0, none⟩ = some (.int .i64 c) ∧ w.cell? ⟨b, 1, none⟩ = some (.int .i64 r) ∧ w.cell? ⟨b, 2, none⟩ = some (.int .i64 f) ∧ w.cell? ⟨b, 3, none⟩ = some (.int .i64 t) ∧ w.cell? ⟨b, 4, none⟩ = some (.int .i64 h)
abbrev put5 (w : World) (b : Nat) (c r f t h : Int) : World := ((((w.setCell ⟨b, 0, none⟩ (.int .i64 c)).setCell ⟨b, 1, none⟩ (.int .i64 r)).setCell ⟨b, 2, none⟩ (.int .i64 f)).setCell ⟨b, 3, none⟩ (.int .i64 t)).setCell ⟨b, 4, none⟩ (.int .i64 h)
theorem Blk.set1 {W : World} {g : Nat} {T : TypeId} {cs : Array Value} (h : Blk W g T cs) {b k : Nat} (hq : g ≠ b) (u : Value) : Blk (W.setCell ⟨b, k, none⟩ u) g T cs := by
  unfold Blk at *
  simp only [World.setCell, Array.getElem?_modify]
  rw [if_neg (fun e => hq e.symm), h]
theorem Blk.putR {w w' : World} {b : Nat} {t : TypeId} {cs : Array Value} (h : Blk w b t cs) (i : Nat) (v : Value) (h2 : w' = w.setCell ⟨b, i, none⟩ v) : Blk w' b t (cs.setIfInBounds i v) := by
  subst h2
  unfold Blk at *
  have hlt : b < w.heap.size := by
    rcases Nat.lt_or_ge b w.heap.size with hlt | hge
    · exact hlt
    · rw [Array.getElem?_eq_none hge] at h; cases h
  simp [World.setCell, Array.getElem?_modify, h]
theorem Blk.put5o {W : World} {g : Nat} {T : TypeId} {cs : Array Value} (k : Blk W g T cs) {b : Nat} (hq : g ≠ b) (c r f t h : Int) : Blk (put5 W b c r f t h) g T cs :=
  ((((k.set1 hq _).set1 hq _).set1 hq _).set1 hq _).set1 hq _
theorem Blk.put5 {W : World} {b : Nat} {T : TypeId} {c0 r0 f0 t0 h0 : Int} (k : Blk W b T (rpA c0 r0 f0 t0 h0)) (c r f t h : Int) : Blk (put5 W b c r f t h) b T (rpA c r f t h) :=
  ((((k.putR 0 _ rfl).putR 1 _ rfl).putR 2 _ rfl).putR 3 _ rfl).putR 4 _ rfl
theorem put5_below {B : Nat} {a W : World} (k : Below B a W) {b : Nat} (hq : B ≤ b) (c r f t h : Int) : Below B a (put5 W b c r f t h) :=
  ((((k.setCell hq _).setCell hq _).setCell hq _).setCell hq _).setCell hq _

end Go.Proofs.YtgncgbaoijcinaaDoor
