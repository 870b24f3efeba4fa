/- Draws of parts of years and of interest; plain mathematics of their laws. -/
import Derived.Test.YtgncgbaoijcinaaDoorYpL
namespace Go.Proofs.YtgncgbaoijcinaaDoor
open Go.RowKit
theorem isRow_below {k : IntKind} {w w' : World} {a : Option Addr} {len cap : Nat} {zs : List Int} (h : IsRow k w a len cap zs) (hb : Below w.heap.size w w') : IsRow k w' a len cap zs := by
  rcases h with h | ⟨x, e, h1, h2, h3, h4, h5⟩
  · exact .inl h
  · exact .inr ⟨x, e, h1, h2, h3, fun i hi => (hb.cell (p := x.add i) (World.block_lt_of_cell? w _ (h4 i hi))).trans (h4 i hi), h5⟩
def DYp (w : World) (e : Ending) (w' : World) : Prop :=
  ∃ k x y : Int, e = .returned (.tuple #[.int .i64 k, .int .i64 x, .int .i64 y]) ∧ (-1 ≤ k ∧ k ≤ 4) ∧ (-1 ≤ x ∧ x ≤ 36525) ∧ (-2 ≤ y ∧ y ≤ 40530) ∧ Below w.heap.size w w'
def DIn (w : World) (e : Ending) (w' : World) : Prop :=
  ∃ a r k x y : Int, e = .returned (.tuple #[.int .i64 a, .int .i64 r, .int .i64 k, .int .i64 x, .int .i64 y]) ∧ (-1 ≤ a ∧ a ≤ 100000001) ∧ (-1 ≤ r ∧ r ≤ 3001) ∧ Below w.heap.size w w'
theorem ypV_cases (k x y : Int) : (btw k 0 3 = true ∧ spanB x y = true ∧ ypV k x y = .tuple #[.agg #[.int .i64 (Rt.ln (Yp.num k x y) (Yp.den k)), .int .i64 (Rt.ld (Yp.num k x y) (Yp.den k))], .bool true]) ∨ ypV k x y = .tuple #[.agg #[.int .i64 0, .int .i64 0], .bool false] := by
  by_cases hv : btw k 0 3 = true ∧ spanB x y = true
  · exact .inl ⟨hv.1, hv.2, if_pos hv⟩
  · exact .inr (if_neg hv)
theorem ypV_form (k x y : Int) : ∃ p q b, ypV k x y = .tuple #[.agg #[.int .i64 p, .int .i64 q], .bool b] := by
  rcases ypV_cases k x y with ⟨_, _, h⟩ | h
  · exact ⟨_, _, _, h⟩
  · exact ⟨_, _, _, h⟩
theorem ypV_at {k x y : Int} (hk : btw k 0 3 = true) (h0 : 0 ≤ x) (h : x ≤ y) (h1 : y ≤ 36524) (h2 : y ≤ x + 4000) : ypV k x y = .tuple #[.agg #[.int .i64 (Rt.ln (Yp.num k x y) (Yp.den k)), .int .i64 (Rt.ld (Yp.num k x y) (Yp.den k))], .bool true] := if_pos ⟨hk, spanB_iff.2 ⟨h0, h, h1, h2⟩⟩
/-- The law's parts, each under its own name. -/
theorem yp_law1 {k x y : Int} (hk : btw k 0 3 = true) (hs : spanB x y = true) : ∃ p q : Int, ypV k x y = .tuple #[.agg #[.int .i64 p, .int .i64 q], .bool true] ∧ ypV k x x = .tuple #[.agg #[.int .i64 0, .int .i64 1], .bool true] ∧ (0 ≤ p ∧ p ≤ 2000000) ∧
    (ypV k x (y + 1) = .tuple #[.agg #[.int .i64 0, .int .i64 0], .bool false] ∨ ∃ p2 q2, ypV k x (y + 1) = .tuple #[.agg #[.int .i64 p2, .int .i64 q2], .bool true] ∧ 0 ≤ cmpV p2 q2 p q ∧ cmpV p2 q2 p q ≤ 1) := by
  obtain ⟨a, b, c, d⟩ := spanB_iff.1 hs
  have t := Yp.terms (k := k) a b c d
  have dn := Yp.den_bd k
  refine ⟨_, _, ypV_at hk a b c d, ?_, ⟨Yp.low_nn t (Yp.num_bd a b c d).1, (Yp.low_bd t).2.1⟩, ?_⟩
  · rw [ypV_at hk a (by omega) (by omega) (by omega), Yp.num_self, (Yp.low_zero (show 1 ≤ Yp.den k by omega)).1, (Yp.low_zero (show 1 ≤ Yp.den k by omega)).2]
  · rcases ypV_cases k x (y + 1) with ⟨_, h2, e⟩ | e
    · obtain ⟨a', b', c', d'⟩ := spanB_iff.1 h2
      have t' := Yp.terms (k := k) a' b' c' d'
      have := Yp.cmp_low t' t (Int.mul_le_mul_of_nonneg_right (Yp.num_step (k := k) a b c') (by omega))
      exact .inr ⟨_, _, e, this⟩
    · exact .inl e
theorem yp_law2 {x : Int} (h0 : 0 ≤ x) (h1 : x ≤ 36524) : (dayV (Cal.Y x + 1) 1 1 = -1 ∧ ∃ p q b p' q' b', ypV 3 (dayV (Cal.Y x) 1 1) (-1) = .tuple #[.agg #[.int .i64 p, .int .i64 q], .bool b] ∧ ypV 2 (dayV (Cal.Y x) 1 1) (-1) = .tuple #[.agg #[.int .i64 p', .int .i64 q'], .bool b']) ∨
    (0 ≤ dayV (Cal.Y x + 1) 1 1 ∧ ypV 3 (dayV (Cal.Y x) 1 1) (dayV (Cal.Y x + 1) 1 1) = .tuple #[.agg #[.int .i64 1, .int .i64 1], .bool true] ∧ ypV 2 (dayV (Cal.Y x) 1 1) (dayV (Cal.Y x + 1) 1 1) = .tuple #[.agg #[.int .i64 1, .int .i64 1], .bool true]) := by
  obtain ⟨a, b⟩ := Cal.Y_bd h0 h1
  have hd : ∀ yr, 1990 ≤ yr → yr ≤ 2089 → dayV yr 1 1 = Cal.ys yr := fun yr p q => by
    have hv : Cal.vld yr 1 1 := ⟨p, q, by omega, by omega, by omega, by have := Cal.dm_bd yr 1; omega⟩
    unfold dayV
    rw [if_pos (vldB_iff.2 hv), (Yp.year_jan p q).1]
  by_cases c : Cal.Y x + 1 ≤ 2089
  · right
    obtain ⟨_, _, _, _, a4, a5⟩ := Yp.year_jan a b
    obtain ⟨_, _, _, _, b4, b5⟩ := Yp.year_jan (yr := Cal.Y x + 1) (by omega) c
    have hs := Cal.ys_succ (Cal.Y x)
    have hl := Cal.lp_01 (Cal.Y x)
    obtain ⟨e3, e2⟩ := Yp.year_len a c
    rw [hd _ a b, hd _ (by omega) c]
    refine ⟨b4, ?_, ?_⟩
    · rw [ypV_at (by decide) a4 (by omega) b5 (by omega), e3]
      rw [show Yp.den 3 = 133590 from rfl, (Yp.low_one (show (1 : Int) ≤ 133590 by omega)).1, (Yp.low_one (show (1 : Int) ≤ 133590 by omega)).2]
    · rw [ypV_at (by decide) a4 (by omega) b5 (by omega), e2]
      rw [show Yp.den 2 = 360 from rfl, (Yp.low_one (show (1 : Int) ≤ 360 by omega)).1, (Yp.low_one (show (1 : Int) ≤ 360 by omega)).2]
  · left
    refine ⟨?_, ?_⟩
    · unfold dayV
      rw [if_neg]
      rw [vldB_iff]
      rintro ⟨_, q, _⟩
      omega
    · obtain ⟨p, q, r, e⟩ := ypV_form 3 (dayV (Cal.Y x) 1 1) (-1)
      obtain ⟨p', q', r', e'⟩ := ypV_form 2 (dayV (Cal.Y x) 1 1) (-1)
      exact ⟨p, q, r, p', q', r', e, e'⟩
theorem yp_law3 {k x y : Int} (hk : btw k 0 3 = true) (hs : spanB x y = true) (h2 : k ≠ 2) : ∃ a b c d p q : Int, ypV k x y = .tuple #[.agg #[.int .i64 p, .int .i64 q], .bool true] ∧ ypV k x ((x + y) / 2) = .tuple #[.agg #[.int .i64 a, .int .i64 b], .bool true] ∧
    ypV k ((x + y) / 2) y = .tuple #[.agg #[.int .i64 c, .int .i64 d], .bool true] ∧ addRV a b c d = .tuple #[.agg #[.int .i64 p, .int .i64 q], .bool true] := by
  obtain ⟨a, b, c, d⟩ := spanB_iff.1 hs
  have m0 : x ≤ (x + y) / 2 := by omega
  have m1 : (x + y) / 2 ≤ y := by omega
  generalize (x + y) / 2 = m at m0 m1
  have t1 := Yp.terms (k := k) a m0 (show m ≤ 36524 by omega) (by omega)
  have t2 := Yp.terms (k := k) (show 0 ≤ m by omega) m1 c (by omega)
  have t3 := Yp.terms (k := k) a b c d
  refine ⟨_, _, _, _, _, _, ypV_at hk a b c d, ypV_at hk a m0 (by omega) (by omega), ypV_at hk (by omega) m1 c (by omega), ?_⟩
  have e := Yp.num_sum (x := x) (m := m) (y := y) h2
  rw [← e] at t3 ⊢
  exact Yp.add_low t1 t2 t3
theorem yp_law4 {x y : Int} (hs : spanB x y = true) : ∃ a b c d e f : Int, ypV 1 x y = .tuple #[.agg #[.int .i64 a, .int .i64 b], .bool true] ∧ ypV 0 x y = .tuple #[.agg #[.int .i64 c, .int .i64 d], .bool true] ∧
    ypV 3 x y = .tuple #[.agg #[.int .i64 e, .int .i64 f], .bool true] ∧ (0 ≤ cmpV a b c d ∧ cmpV a b c d ≤ 1) ∧ (0 ≤ cmpV c d e f ∧ cmpV c d e f ≤ 1) := by
  obtain ⟨a, b, c, d⟩ := spanB_iff.1 hs
  have m := Yp.money a b
  exact ⟨_, _, _, _, _, _, ypV_at (by decide) a b c d, ypV_at (by decide) a b c d, ypV_at (by decide) a b c d, Yp.cmp_low (Yp.terms a b c d) (Yp.terms a b c d) m.1, Yp.cmp_low (Yp.terms a b c d) (Yp.terms a b c d) m.2⟩
theorem near_mono {a b d : Int} (hd : 1 ≤ d) (h : a ≤ b) : Rt.near a d ≤ Rt.near b d := by unfold Rt.near; exact Int.ediv_le_ediv (by omega) (by omega)
theorem near_nn {a d : Int} (hd : 1 ≤ d) (h : 0 ≤ a) : 0 ≤ Rt.near a d := by unfold Rt.near; exact Int.ediv_nonneg (by omega) (by omega)
theorem near_top {a d : Int} (hd : 1 ≤ d) (h0 : 0 ≤ a) (h : a ≤ 439200000000000000) : Rt.near a d ≤ 439200000000000000 := by
  unfold Rt.near
  have h1 := Int.mul_ediv_self_le (x := 2 * a + d) (k := 2 * d) (by omega)
  rcases Int.lt_or_le ((2 * a + d) / (2 * d)) 439200000000000001 with c | c
  · omega
  · exfalso
    have := Int.mul_le_mul_of_nonneg_left c (show 0 ≤ 2 * d by omega)
    have h2 : 1 * 439200000000000000 ≤ d * 439200000000000000 := Int.mul_le_mul_of_nonneg_right hd (by omega)
    omega
theorem near_zero {d : Int} (hd : 1 ≤ d) : Rt.near 0 d = 0 := by unfold Rt.near; exact Int.ediv_eq_zero_of_lt (by omega) (by omega)
theorem near_double {a d : Int} (hd : 1 ≤ d) : -1 ≤ Rt.near (2 * a) d - 2 * Rt.near a d ∧ Rt.near (2 * a) d - 2 * Rt.near a d ≤ 1 := by
  have e1 : Rt.near (2 * a) d = (4 * a + d) / (2 * d) := by unfold Rt.near; rw [show 2 * (2 * a) + d = 4 * a + d by omega]
  have e2 : Rt.near a d = (2 * a + d) / (2 * d) := rfl
  rw [e1, e2]
  have a1 := Int.mul_ediv_add_emod (4 * a + d) (2 * d)
  have a2 := Int.emod_nonneg (4 * a + d) (show 2 * d ≠ 0 by omega)
  have a3 := Int.emod_lt_of_pos (4 * a + d) (show 0 < 2 * d by omega)
  have b1 := Int.mul_ediv_add_emod (2 * a + d) (2 * d)
  have b2 := Int.emod_nonneg (2 * a + d) (show 2 * d ≠ 0 by omega)
  have b3 := Int.emod_lt_of_pos (2 * a + d) (show 0 < 2 * d by omega)
  generalize (4 * a + d) / (2 * d) = u at *
  generalize (2 * a + d) / (2 * d) = v at *
  generalize (4 * a + d) % (2 * d) = s at *
  generalize (2 * a + d) % (2 * d) = t at *
  have e : 2 * d * u - 2 * (2 * d * v) = 2 * t - s - d := by omega
  have e' : d * (2 * (u - 2 * v)) = 2 * t - s - d := by rw [← e, Int.mul_sub, Int.mul_sub]; have := Int.mul_assoc 2 d u; have := Int.mul_assoc 2 d v; have := Int.mul_left_comm d 2 u; have := Int.mul_left_comm d 2 (2 * v); have := Int.mul_left_comm d 2 v; omega
  refine ⟨?_, ?_⟩
  · rcases Int.lt_or_le (u - 2 * v) (-1) with c | c
    · have := Int.mul_le_mul_of_nonneg_left (show 2 * (u - 2 * v) ≤ -4 by omega) (show 0 ≤ d by omega); omega
    · exact c
  · rcases Int.lt_or_le 1 (u - 2 * v) with c | c
    · have := Int.mul_le_mul_of_nonneg_left (show 4 ≤ 2 * (u - 2 * v) by omega) (show 0 ≤ d by omega); omega
    · exact c
/-- Interest that is defined. -/
theorem intV_parts {a r k x y : Int} (h : ¬ intV a r k x y < 0) : (btw k 0 3 = true ∧ spanB x y = true) ∧ btw a 0 100000000 = true ∧ btw r 0 3000 = true ∧ intV a r k x y = Rt.near (a * r * Rt.ln (Yp.num k x y) (Yp.den k)) (10000 * Rt.ld (Yp.num k x y) (Yp.den k)) := by
  by_cases hc : (btw k 0 3 = true ∧ spanB x y = true) ∧ btw a 0 100000000 = true ∧ btw r 0 3000 = true
  · exact ⟨hc.1, hc.2.1, hc.2.2, if_pos hc⟩
  · exfalso
    have : intV a r k x y = -1 := if_neg hc
    omega
theorem intV_bd (a r k x y : Int) : -1 ≤ intV a r k x y ∧ intV a r k x y ≤ 439200000000000000 := by
  by_cases hc : (btw k 0 3 = true ∧ spanB x y = true) ∧ btw a 0 100000000 = true ∧ btw r 0 3000 = true
  · have e : intV a r k x y = Rt.near (a * r * Rt.ln (Yp.num k x y) (Yp.den k)) (10000 * Rt.ld (Yp.num k x y) (Yp.den k)) := if_pos hc
    obtain ⟨⟨p0, p1⟩, q0, q1⟩ := yp_bd (k := k) hc.1.2
    obtain ⟨_, m2, m3⟩ := ar_bd hc.2.1 hc.2.2 p0 p1
    rw [e]
    exact ⟨by have := near_nn (d := 10000 * Rt.ld (Yp.num k x y) (Yp.den k)) (by omega) m2; omega, near_top (by omega) m2 m3⟩
  · have : intV a r k x y = -1 := if_neg hc
    omega
theorem intV_grow {a r a' r' k x y : Int} (h : ¬ intV a r k x y < 0) (ha : a ≤ a') (hr : r ≤ r') : intV a' r' k x y < 0 ∨ intV a r k x y ≤ intV a' r' k x y := by
  rcases Int.lt_or_le (intV a' r' k x y) 0 with c | c
  · exact .inl c
  · obtain ⟨h1, h2, h3, h4⟩ := intV_parts h
    obtain ⟨g1, g2, g3, g4⟩ := intV_parts (show ¬ intV a' r' k x y < 0 by omega)
    obtain ⟨⟨p0, p1⟩, q0, q1⟩ := yp_bd (k := k) h1.2
    obtain ⟨a0, a1⟩ := btw_iff.1 h2
    obtain ⟨r0, r1⟩ := btw_iff.1 h3
    rw [h4, g4]
    exact .inr (near_mono (by omega) (Int.mul_le_mul_of_nonneg_right (Int.mul_le_mul ha hr r0 (by omega)) p0))
theorem intV_none {a r k x y : Int} (h : ¬ intV a r k x y < 0) : intV a 0 k x y = 0 := by
  obtain ⟨h1, h2, h3, h4⟩ := intV_parts h
  obtain ⟨⟨p0, p1⟩, q0, q1⟩ := yp_bd (k := k) h1.2
  have e : intV a 0 k x y = Rt.near (a * 0 * Rt.ln (Yp.num k x y) (Yp.den k)) (10000 * Rt.ld (Yp.num k x y) (Yp.den k)) := if_pos ⟨h1, h2, by decide⟩
  rw [e, Int.mul_zero, Int.zero_mul, near_zero (by omega)]
theorem intV_double {a r k x y : Int} (h : ¬ intV a r k x y < 0) : intV (2 * a) r k x y < 0 ∨ (-1 ≤ intV (2 * a) r k x y - 2 * intV a r k x y ∧ intV (2 * a) r k x y - 2 * intV a r k x y ≤ 1) := by
  rcases Int.lt_or_le (intV (2 * a) r k x y) 0 with c | c
  · exact .inl c
  · obtain ⟨h1, h2, h3, h4⟩ := intV_parts h
    obtain ⟨g1, g2, g3, g4⟩ := intV_parts (show ¬ intV (2 * a) r k x y < 0 by omega)
    obtain ⟨⟨p0, p1⟩, q0, q1⟩ := yp_bd (k := k) h1.2
    rw [h4, g4, show 2 * a * r * Rt.ln (Yp.num k x y) (Yp.den k) = 2 * (a * r * Rt.ln (Yp.num k x y) (Yp.den k)) by rw [Int.mul_assoc 2 a r, Int.mul_assoc 2]]
    exact .inr (near_double (by omega))
end Go.Proofs.YtgncgbaoijcinaaDoor
