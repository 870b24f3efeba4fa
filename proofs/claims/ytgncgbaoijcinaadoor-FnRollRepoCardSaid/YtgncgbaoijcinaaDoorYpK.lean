/- Interest; the model's parts of years. -/
import Derived.Test.YtgncgbaoijcinaaDoorYpJ
import Derived.Test.YtgncgbaoijcinaaDoorYpS
namespace Go.Proofs.YtgncgbaoijcinaaDoor
open Go.RowKit
noncomputable def intV (a r k x y : Int) : Int := if (btw k 0 3 = true ∧ spanB x y = true) ∧ btw a 0 100000000 = true ∧ btw r 0 3000 = true then Rt.near (a * r * Rt.ln (Yp.num k x y) (Yp.den k)) (10000 * Rt.ld (Yp.num k x y) (Yp.den k)) else -1
theorem yp_bd {k x y : Int} (h : spanB x y = true) : (0 ≤ Rt.ln (Yp.num k x y) (Yp.den k) ∧ Rt.ln (Yp.num k x y) (Yp.den k) ≤ 1464000) ∧ (1 ≤ Rt.ld (Yp.num k x y) (Yp.den k) ∧ Rt.ld (Yp.num k x y) (Yp.den k) ≤ 133590) := by
  obtain ⟨x0, xy, y1, y2⟩ := spanB_iff.1 h
  have t := Yp.terms (k := k) x0 xy y1 y2
  have n := Yp.num_bd (k := k) x0 xy y1 y2
  have d := Yp.den_bd k
  have l := Yp.low_bd t
  have a := Yp.low_nn t n.1
  have b := Rt.ln_abs (n := Yp.num k x y) (d := Yp.den k) (by omega)
  have c := Rt.ld_le (n := Yp.num k x y) (d := Yp.den k) (by omega)
  omega
theorem ar_bd {a r p : Int} (h1 : btw a 0 100000000 = true) (h2 : btw r 0 3000 = true) (p0 : 0 ≤ p) (p1 : p ≤ 1464000) : (0 ≤ a * r ∧ a * r ≤ 300000000000) ∧ (0 ≤ a * r * p ∧ a * r * p ≤ 439200000000000000) := by
  obtain ⟨a0, a1⟩ := btw_iff.1 h1
  obtain ⟨r0, r1⟩ := btw_iff.1 h2
  have e1 : 0 ≤ a * r := Int.mul_nonneg a0 r0
  have e2 : a * r ≤ 100000000 * 3000 := Int.mul_le_mul a1 r1 r0 (by omega)
  have e3 : 0 ≤ a * r * p := Int.mul_nonneg e1 p0
  have e4 : a * r * p ≤ 300000000000 * 1464000 := Int.mul_le_mul (by omega) p1 p0 (by omega)
  omega
theorem btwC {n l h : Int} {b : Bool} (e : btw n l h = b) : ∀ W : World, Calls Tryd.prog 16 #[.int .i64 n, .int .i64 l, .int .i64 h] W fun e w' => e = .returned (.bool b) ∧ W = w' := fun W => by
  have := between_any n l h W; rw [e] at this; exact this
theorem inRC {n l h : Int} {b : Bool} (e : btw n l h = b) : ∀ W : World, Calls Tryd.prog 21 #[.int .i64 n, .int .i64 l, .int .i64 h] W fun e w' => e = .returned (.bool b) ∧ W = w' := fun W => by
  have := inRange_any n l h W; rw [e] at this; exact this
set_option maxHeartbeats 400000 in
theorem vrate_any (r : Int) (W : World) : Calls Tryd.prog 17 #[.int .i64 r] W fun e w' => e = .returned (.bool (btw r 0 3000)) ∧ W = w' := by
  go_enter Tryd.func17, Tryd.ntmps17
  go_wp2_with fail
  refine (between_any _ _ _ _).mono ?_
  rintro e w' ⟨rfl, rfl⟩
  go_wp2_with fail
  go_ret
  exact ⟨rfl, rfl⟩
theorem vrC {r : Int} {b : Bool} (e : btw r 0 3000 = b) : ∀ W : World, Calls Tryd.prog 17 #[.int .i64 r] W fun e w' => e = .returned (.bool b) ∧ W = w' := fun W => by
  have := vrate_any r W; rw [e] at this; exact this
set_option maxHeartbeats 1000000 in
theorem interest_any (a r k x y : Int) (w : World) (hT : Tab w) :
    Calls Tryd.prog 15 #[.int .i64 a, .int .i64 r, .int .i64 k, .int .i64 x, .int .i64 y] w fun e w' => e = .returned (.int .i64 (intV a r k x y)) ∧ Below w.heap.size w w' := by
  have HT := Lib.hid hT; clear hT
  have hc : ∀ W, Tab W → Calls Tryd.prog 23 #[.int .i64 k, .int .i64 x, .int .i64 y] W fun e w' => e = .returned (ypV k x y) ∧ Below W.heap.size W w' := fun W h => yearPart_any k x y W h
  by_cases hv : btw k 0 3 = true ∧ spanB x y = true
  · have hV : ypV k x y = .tuple #[.agg #[.int .i64 (Rt.ln (Yp.num k x y) (Yp.den k)), .int .i64 (Rt.ld (Yp.num k x y) (Yp.den k))], .bool true] := if_pos hv
    rw [hV] at hc
    obtain ⟨⟨p0, p1⟩, q0, q1⟩ := yp_bd (k := k) hv.2
    have hI : ∀ p q : Int, Rt.ln (Yp.num k x y) (Yp.den k) = p → Rt.ld (Yp.num k x y) (Yp.den k) = q → intV a r k x y = if btw a 0 100000000 = true ∧ btw r 0 3000 = true then Rt.near (a * r * p) (10000 * q) else -1 := by
      rintro p q rfl rfl
      unfold intV
      by_cases h : btw a 0 100000000 = true ∧ btw r 0 3000 = true
      · rw [if_pos ⟨hv, h⟩, if_pos h]
      · rw [if_neg (fun q => h q.2), if_neg h]
    generalize Rt.ln (Yp.num k x y) (Yp.den k) = p at *
    generalize Rt.ld (Yp.num k x y) (Yp.den k) = q at *
    have E := Lib.hid (hI p q rfl rfl)
    have HC := Lib.hid hc
    clear hV hI hc hv
    cases h1 : btw a 0 100000000 with
    | false =>
      have C1 := Lib.hid (btwC h1)
      have E1 := Lib.hid (show intV a r k x y = -1 by rw [E.out, if_neg (by simp [h1])])
      clear h1
      go_enter Tryd.func15, Tryd.ntmps15
      go_wp2_with fail
      refine (HC.out _ HT.out).mono ?_
      rintro e w1 ⟨rfl, hb1⟩
      go_wp2_with fail
      refine (C1.out _).mono ?_
      rintro e w2 ⟨rfl, rfl⟩
      go_wp2_with fail
      go_ret
      exact ⟨ret_int E1.out.symm, hb1.alloc hb1.size _⟩
    | true =>
      have C1 := Lib.hid (btwC h1)
      cases h2 : btw r 0 3000 with
      | false =>
        have C2 := Lib.hid (vrC h2)
        have E1 := Lib.hid (show intV a r k x y = -1 by rw [E.out, if_neg (by simp [h2])])
        clear h1 h2
        go_enter Tryd.func15, Tryd.ntmps15
        go_wp2_with fail
        refine (HC.out _ HT.out).mono ?_
        rintro e w1 ⟨rfl, hb1⟩
        go_wp2_with fail
        refine (C1.out _).mono ?_
        rintro e w2 ⟨rfl, rfl⟩
        go_wp2_with fail
        refine (C2.out _).mono ?_
        rintro e w2 ⟨rfl, rfl⟩
        go_wp2_with fail
        go_ret
        exact ⟨ret_int E1.out.symm, hb1.alloc hb1.size _⟩
      | true =>
        have C2 := Lib.hid (vrC h2)
        have E1 := Lib.hid (show intV a r k x y = Rt.near (a * r * p) (10000 * q) by rw [E.out, if_pos ⟨h1, h2⟩])
        obtain ⟨⟨m0, m1⟩, m2, m3⟩ := ar_bd h1 h2 p0 p1
        obtain ⟨a0, a1⟩ := btw_iff.1 h1
        obtain ⟨r0, r1⟩ := btw_iff.1 h2
        clear h1 h2
        go_enter Tryd.func15, Tryd.ntmps15
        go_wp2_with fail
        refine (HC.out _ HT.out).mono ?_
        rintro e w1 ⟨rfl, hb1⟩
        have kP := Blk.new w1 #[.int .i64 p, .int .i64 q] 47
        obtain ⟨⟨x0, x1⟩, _⟩ := kP.two
        clear kP
        go_wp2_with fail
        refine (C1.out _).mono ?_
        rintro e w2 ⟨rfl, rfl⟩
        go_wp2_with fail
        refine (C2.out _).mono ?_
        rintro e w2 ⟨rfl, rfl⟩
        go_wp2_with fail
        refine (rounded_any _ _ _ (by omega) (by omega) (by omega) (by omega)).mono ?_
        rintro e w2 ⟨rfl, rfl⟩
        go_wp2_with fail
        go_ret
        exact ⟨ret_int E1.out.symm, hb1.alloc hb1.size _⟩
  · have hV : ypV k x y = .tuple #[.agg #[.int .i64 0, .int .i64 0], .bool false] := if_neg hv
    rw [hV] at hc
    have E := Lib.hid (show intV a r k x y = -1 by unfold intV; rw [if_neg (fun q => hv q.1)])
    have HC := Lib.hid hc
    clear hV hc hv
    go_enter Tryd.func15, Tryd.ntmps15
    go_wp2_with fail
    refine (HC.out _ HT.out).mono ?_
    rintro e w1 ⟨rfl, hb1⟩
    go_wp2_with fail
    go_ret
    exact ⟨ret_int E.out.symm, hb1.alloc hb1.size _⟩
set_option maxHeartbeats 1000000 in
theorem validPart_any (k x y : Int) (w : World) :
    Calls Tryd.prog 26 #[.int .i64 k, .int .i64 x, .int .i64 y] w fun e w' => e = .returned (.bool (btw k 0 3 && spanB x y)) ∧ w = w' := by
  cases h1 : btw k 0 3 with
  | false =>
    have C1 := Lib.hid (inRC h1)
    clear h1
    go_enter Tryd.func26, Tryd.ntmps26
    go_wp2_with fail
    refine (C1.out _).mono ?_
    rintro e w2 ⟨rfl, rfl⟩
    go_wp2_with fail
    go_ret
    exact ⟨ret_bool (by simp), rfl⟩
  | true =>
    have C1 := Lib.hid (inRC h1)
    clear h1
    cases h2 : btw x 0 36524 with
    | false =>
      have C2 := Lib.hid (inRC h2)
      have E := Lib.hid (span_0 (y := y) h2)
      clear h2
      go_enter Tryd.func26, Tryd.ntmps26
      go_wp2_with fail
      refine (C1.out _).mono ?_
      rintro e w2 ⟨rfl, rfl⟩
      go_wp2_with fail
      refine (C2.out _).mono ?_
      rintro e w2 ⟨rfl, rfl⟩
      go_wp2_with fail
      go_ret
      exact ⟨ret_bool (by rw [E.out]; rfl), rfl⟩
    | true =>
      have C2 := Lib.hid (inRC h2)
      obtain ⟨x0, x1⟩ := btw_iff.1 h2
      by_cases h3 : 36524 ≤ x + 4000
      · have C3 := Lib.hid (inRC (span_s2 (y := y) h2 h3))
        clear h2
        have h4 : (if x + 4000 < 36524 then x + 4000 else 36524) = 36524 := if_neg (by omega)
        have h5 : ¬ x + 4000 < 36524 := by omega
        go_enter Tryd.func26, Tryd.ntmps26
        go_wp2_with fail
        refine (C1.out _).mono ?_
        rintro e w2 ⟨rfl, rfl⟩
        go_wp2_with fail
        refine (C2.out _).mono ?_
        rintro e w2 ⟨rfl, rfl⟩
        go_wp2_with fail
        refine (C3.out _).mono ?_
        rintro e w2 ⟨rfl, rfl⟩
        go_wp2_with fail
        go_ret
        exact ⟨ret_bool (by simp), rfl⟩
      · have C3 := Lib.hid (inRC (span_s1 (y := y) h2 (by omega)))
        clear h2
        have h5 : x + 4000 < 36524 := by omega
        go_enter Tryd.func26, Tryd.ntmps26
        go_wp2_with fail
        refine (C1.out _).mono ?_
        rintro e w2 ⟨rfl, rfl⟩
        go_wp2_with fail
        refine (C2.out _).mono ?_
        rintro e w2 ⟨rfl, rfl⟩
        go_wp2_with fail
        refine (C3.out _).mono ?_
        rintro e w2 ⟨rfl, rfl⟩
        go_wp2_with fail
        go_ret
        exact ⟨ret_bool (by simp), rfl⟩
end Go.Proofs.YtgncgbaoijcinaaDoor
