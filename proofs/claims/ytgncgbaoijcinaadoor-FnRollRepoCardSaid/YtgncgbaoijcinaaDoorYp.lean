/- Plain mathematics: days in leap years, parts of years. -/
import Derived.Test.YtgncgbaoijcinaaDoorCal
import Derived.Test.YtgncgbaoijcinaaDoorRat
namespace Go.Proofs.YtgncgbaoijcinaaDoor
namespace Yp
/-- The days in leap years among the first k days. -/
noncomputable def lc : Nat → Int
  | 0 => 0
  | k + 1 => lc k + Cal.lp (Cal.Y k)
noncomputable def L (n : Int) : Int := lc n.toNat
theorem L_succ {n : Int} (h : 0 ≤ n) : L (n + 1) = L n + Cal.lp (Cal.Y n) := by
  unfold L
  rw [show (n + 1).toNat = n.toNat + 1 by omega]
  show lc n.toNat + Cal.lp (Cal.Y (n.toNat : Int)) = _
  rw [show ((n.toNat : Nat) : Int) = n by omega]
theorem L_bd {a b : Int} (h0 : 0 ≤ a) (h : a ≤ b) : 0 ≤ L b - L a ∧ L b - L a ≤ b - a := by
  obtain ⟨k, rfl⟩ : ∃ k : Nat, b = a + k := ⟨(b - a).toNat, by omega⟩
  clear h
  induction k with
  | zero => simp
  | succ k ih =>
    have := L_succ (n := a + k) (by omega)
    have := Cal.lp_01 (Cal.Y (a + k))
    rw [show a + ((k + 1 : Nat) : Int) = a + k + 1 by omega]
    omega
theorem Y_in {n y : Int} (h0 : 0 ≤ n) (h1 : n ≤ 36524) (a : Cal.ys y ≤ n) (b : n < Cal.ys (y + 1)) : Cal.Y n = y := by
  have h := Cal.isDate h0 h1
  exact Cal.ys_inj h.y1 h.y2 a b
theorem L_year {y a b : Int} (h0 : 0 ≤ a) (h1 : b ≤ 36525) (h : a ≤ b) (ha : Cal.ys y ≤ a) (hb : b ≤ Cal.ys (y + 1)) : L b = L a + (b - a) * Cal.lp y := by
  obtain ⟨k, rfl⟩ : ∃ k : Nat, b = a + k := ⟨(b - a).toNat, by omega⟩
  clear h
  induction k with
  | zero => simp
  | succ k ih =>
    have e := ih (by omega) (by omega)
    have e1 := L_succ (n := a + k) (by omega)
    rw [Y_in (n := a + k) (y := y) (by omega) (by omega) (by omega) (by omega)] at e1
    rw [show a + ((k + 1 : Nat) : Int) = a + k + 1 by omega, e1, e]
    rw [show a + (k : Int) + 1 - a = (a + (k : Int) - a) + 1 by omega, Int.add_mul]
    omega
/-- Between from and to. -/
def clamp (x y n : Int) : Int := min y (max x n)
theorem clamp_step {x y yr : Int} (h0 : 0 ≤ x) (h : x ≤ y) (h1 : y ≤ 36524) (ha : Cal.ys yr ≤ y) (hb : x < Cal.ys (yr + 1)) :
    max x (Cal.ys yr) = clamp x y (Cal.ys yr) ∧ min y (Cal.ys (yr + 1)) = clamp x y (Cal.ys (yr + 1)) ∧
    L (clamp x y (Cal.ys (yr + 1))) = L (clamp x y (Cal.ys yr)) + (clamp x y (Cal.ys (yr + 1)) - clamp x y (Cal.ys yr)) * Cal.lp yr ∧ (0 ≤ clamp x y (Cal.ys yr) ∧ clamp x y (Cal.ys yr) ≤ clamp x y (Cal.ys (yr + 1)) ∧ clamp x y (Cal.ys (yr + 1)) ≤ 36524) := by
  have hs := Cal.ys_lt yr
  have e1 : max x (Cal.ys yr) = clamp x y (Cal.ys yr) := by unfold clamp; omega
  have e2 : min y (Cal.ys (yr + 1)) = clamp x y (Cal.ys (yr + 1)) := by unfold clamp; omega
  have b1 : 0 ≤ clamp x y (Cal.ys yr) ∧ clamp x y (Cal.ys yr) ≤ clamp x y (Cal.ys (yr + 1)) ∧ clamp x y (Cal.ys (yr + 1)) ≤ 36524 := by unfold clamp; omega
  refine ⟨e1, e2, L_year b1.1 (by omega) b1.2.1 ?_ ?_, b1⟩
  · unfold clamp; omega
  · unfold clamp; omega
theorem clamp_first {x y : Int} (h : x ≤ y) (h0 : Cal.ys (Cal.Y x) ≤ x) : clamp x y (Cal.ys (Cal.Y x)) = x := by unfold clamp; omega
theorem clamp_last {x y n : Int} (_ : x ≤ y) (h0 : y < n) : clamp x y n = y := by unfold clamp; omega
/-- The days of the kind in which all months have 30 days. -/
noncomputable def d1 (x : Int) : Int := min (Cal.D x) 30
noncomputable def d2 (x y : Int) : Int := if min (Cal.D x) 30 = 30 then min (Cal.D y) 30 else Cal.D y
noncomputable def thirty (x y : Int) : Int := 360 * (Cal.Y y - Cal.Y x) + 30 * (Cal.M y - Cal.M x) + d2 x y - d1 x
noncomputable def num (k x y : Int) : Int := if k = 2 then thirty x y else if k = 3 then 365 * (L y - L x) + 366 * (y - x - (L y - L x)) else y - x
def den (k : Int) : Int := if k = 0 then 365 else if k = 3 then 133590 else 360
theorem den_bd (k : Int) : 360 ≤ den k ∧ den k ≤ 133590 := by unfold den; split <;> (try split) <;> omega
theorem ord {x y : Int} (h0 : 0 ≤ x) (h : x ≤ y) (h1 : y ≤ 36524) : Cal.Y x < Cal.Y y ∨ (Cal.Y x = Cal.Y y ∧ (Cal.M x < Cal.M y ∨ (Cal.M x = Cal.M y ∧ Cal.D x ≤ Cal.D y))) := by
  have hx := Cal.isDate h0 (by omega)
  have hy := Cal.isDate (n := y) (by omega) h1
  rcases Int.lt_trichotomy (Cal.Y x) (Cal.Y y) with a | a | a
  · exact .inl a
  · right
    refine ⟨a, ?_⟩
    rcases Int.lt_trichotomy (Cal.M x) (Cal.M y) with b | b | b
    · exact .inl b
    · right
      refine ⟨b, ?_⟩
      rw [hx.dd, hy.dd, a, b]; omega
    · exfalso
      have := Cal.ms_mono (Cal.Y x) (a := Cal.M y + 1) (b := Cal.M x) (by have := hy.m1; omega) (by omega) (by have := hx.m2; omega)
      have := hx.d1; have := hy.d2; rw [← a] at *; omega
  · exfalso
    have := Cal.ys_mono (show Cal.Y y + 1 ≤ Cal.Y x by omega)
    have := hx.y1; have := hy.y2; omega
theorem d_bd {x y : Int} (h0 : 0 ≤ x) (h : x ≤ y) (h1 : y ≤ 36524) : 1 ≤ d1 x ∧ d1 x ≤ 30 ∧ 1 ≤ d2 x y ∧ d2 x y ≤ 31 ∧ (Cal.D x ≤ Cal.D y → d1 x ≤ d2 x y) := by
  have a := Cal.D_bd h0 (by omega : x ≤ 36524)
  have b := Cal.D_bd (n := y) (by omega) h1
  unfold d1 d2
  split <;> omega
theorem thirty_bd {x y : Int} (h0 : 0 ≤ x) (h : x ≤ y) (h1 : y ≤ 36524) : 0 ≤ thirty x y ∧ thirty x y ≤ 40000 := by
  have a := Cal.M_bd h0 (by omega : x ≤ 36524)
  have b := Cal.M_bd (n := y) (by omega) h1
  have c := Cal.Y_bd h0 (by omega : x ≤ 36524)
  have d := Cal.Y_bd (n := y) (by omega) h1
  have e := d_bd h0 h h1
  have o := ord h0 h h1
  unfold thirty
  rcases o with o | ⟨o1, o2 | ⟨o2, o3⟩⟩
  · omega
  · omega
  · have := e.2.2.2.2 o3; omega
theorem num_bd {k x y : Int} (h0 : 0 ≤ x) (h : x ≤ y) (h1 : y ≤ 36524) (h2 : y ≤ x + 4000) : 0 ≤ num k x y ∧ num k x y ≤ 1464000 := by
  unfold num
  split
  · have := thirty_bd h0 h h1; omega
  · split
    · have := L_bd h0 h; omega
    · omega
end Yp
end Go.Proofs.YtgncgbaoijcinaaDoor
