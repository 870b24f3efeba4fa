/- Discounts: mathematics (ranges of growth). -/
import Derived.Test.YtkdooncfchmkfaaDoorRg
namespace Go.Proofs.YtkdooncfchmkfaaDoor
/-- Growth of a range's bounds: the low one rounded down, the high one up. -/
def Dc.lo (y p d : Int) : Nat → Int
  | 0 => 1000000 + y * (d - p) / d
  | i + 1 => Rg.fl (Dc.lo y p d i * (1000000 + y))
def Dc.hi (y p d : Int) : Nat → Int
  | 0 => 1000000 + -((-(y * (d - p))) / d)
  | i + 1 => Rg.cl (Dc.hi y p d i * (1000000 + y))
def Dc.ok (y p d n : Int) : Bool := decide ((0 ≤ y ∧ y ≤ 100000) ∧ (1 ≤ d ∧ d ≤ 4000) ∧ (0 ≤ p ∧ p ≤ d) ∧ (0 ≤ n ∧ n ≤ 40))
theorem Dc.ok_iff {y p d n : Int} : Dc.ok y p d n = true ↔ (0 ≤ y ∧ y ≤ 100000) ∧ (1 ≤ d ∧ d ≤ 4000) ∧ (0 ≤ p ∧ p ≤ d) ∧ (0 ≤ n ∧ n ≤ 40) := by unfold Dc.ok; simp
/-- How large growth can be at most. -/
def Dc.B : Nat → Int
  | 0 => 1100000
  | i + 1 => Dc.B i * 1100000 / 1000000 + 1
theorem Dc.B_bd : ∀ i : Nat, i ≤ 40 → Dc.B i ≤ 60000000 := by decide
theorem Dc.B_pos : ∀ i : Nat, 0 ≤ Dc.B i
  | 0 => by decide
  | i + 1 => by have := Dc.B_pos i; unfold Dc.B; omega
theorem Dc.due_bd {y p d : Int} (y0 : 0 ≤ y) (p0 : 0 ≤ p) (p1 : p ≤ d) : 0 ≤ y * (d - p) ∧ y * (d - p) ≤ y * d :=
  ⟨Int.mul_nonneg y0 (by omega), Int.mul_le_mul_of_nonneg_left (by omega) y0⟩
theorem Dc.fc {x d : Int} (d0 : 1 ≤ d) : x / d ≤ -((-x) / d) := by
  have h1 := Int.ediv_mul_le x (show d ≠ 0 by omega)
  have h2 := Rg.cl_mul_ge x d (by omega)
  have h3 : x / d * d ≤ (-((-x) / d)) * d := Int.le_trans h1 h2
  exact Int.le_of_mul_le_mul_right h3 (by omega)
theorem Dc.cl_le {x d u : Int} (d0 : 1 ≤ d) (h : x ≤ u * d) : -((-x) / d) ≤ u := by
  have h1 : -u ≤ (-x) / d := (Int.le_ediv_iff_mul_le (by omega)).2 (by rw [Int.neg_mul]; omega)
  omega
theorem Dc.le_cl {x d u : Int} (d0 : 1 ≤ d) (h : u * d ≤ x) : u ≤ -((-x) / d) :=
  Int.le_trans ((Int.le_ediv_iff_mul_le (by omega)).2 h) (Dc.fc d0)
theorem Dc.cl_mono {x z d : Int} (d0 : 1 ≤ d) (h : x ≤ z) : -((-x) / d) ≤ -((-z) / d) := by
  have := Int.ediv_le_ediv (show 0 < d by omega) (show -z ≤ -x by omega)
  omega
/-- The bounds of growth. -/
theorem Dc.bd {y p d : Int} (y0 : 0 ≤ y) (y1 : y ≤ 100000) (d0 : 1 ≤ d) (p0 : 0 ≤ p) (p1 : p ≤ d) : ∀ i : Nat, 1000000 ≤ Dc.lo y p d i ∧ Dc.lo y p d i ≤ Dc.hi y p d i ∧ Dc.hi y p d i ≤ Dc.B i
  | 0 => by
    obtain ⟨h1, h2⟩ := Dc.due_bd y0 p0 p1
    have h3 := Int.ediv_nonneg h1 (show 0 ≤ d by omega)
    have h4 := Dc.fc (x := y * (d - p)) d0
    have h5 := Dc.cl_le d0 h2
    unfold Dc.lo Dc.hi Dc.B
    omega
  | i + 1 => by
    obtain ⟨h1, h2, h3⟩ := Dc.bd y0 y1 d0 p0 p1 i
    have hB := Dc.B_pos i
    unfold Dc.lo Dc.hi Dc.B Rg.fl Rg.cl
    generalize Dc.lo y p d i = l at h1 h2
    generalize Dc.hi y p d i = h at h2 h3
    have m1 : l * (1000000 + y) ≤ h * (1000000 + y) := Int.mul_le_mul_of_nonneg_right h2 (by omega)
    have m2 : h * (1000000 + y) ≤ Dc.B i * 1100000 := Int.mul_le_mul h3 (by omega) (by omega) hB
    have m3 : l * 1000000 ≤ l * (1000000 + y) := Int.mul_le_mul_of_nonneg_left (by omega) (by omega)
    generalize l * (1000000 + y) = a at m1 m3 ⊢
    generalize h * (1000000 + y) = b at m1 m2 ⊢
    generalize Dc.B i * 1100000 = u at m2 ⊢
    omega
theorem Dc.bd40 {y p d n : Int} (h : Dc.ok y p d n = true) {i : Nat} (hi : i ≤ 40) : 1000000 ≤ Dc.lo y p d i ∧ Dc.lo y p d i ≤ Dc.hi y p d i ∧ Dc.hi y p d i ≤ 60000000 := by
  obtain ⟨⟨y0, y1⟩, ⟨d0, -⟩, ⟨p0, p1⟩, -⟩ := Dc.ok_iff.1 h
  have h1 := Dc.bd y0 y1 d0 p0 p1 i
  have h2 := Dc.B_bd i hi
  omega
/-- Growth in whole periods. -/
theorem Dc.up {y p d : Int} (y0 : 0 ≤ y) (y1 : y ≤ 100000) (d0 : 1 ≤ d) (p0 : 0 ≤ p) (p1 : p ≤ d) (i : Nat) : Dc.lo y p d i ≤ Dc.lo y p d (i + 1) ∧ Dc.hi y p d i ≤ Dc.hi y p d (i + 1) := by
  obtain ⟨h1, h2, h3⟩ := Dc.bd y0 y1 d0 p0 p1 i
  show Dc.lo y p d i ≤ Rg.fl (Dc.lo y p d i * (1000000 + y)) ∧ Dc.hi y p d i ≤ Rg.cl (Dc.hi y p d i * (1000000 + y))
  unfold Rg.fl Rg.cl
  generalize Dc.lo y p d i = l at h1 h2 ⊢
  generalize Dc.hi y p d i = h at h2 h3 ⊢
  have m1 : l * 1000000 ≤ l * (1000000 + y) := Int.mul_le_mul_of_nonneg_left (by omega) (by omega)
  have m2 : h * 1000000 ≤ h * (1000000 + y) := Int.mul_le_mul_of_nonneg_left (by omega) (by omega)
  generalize l * (1000000 + y) = a at m1 ⊢
  generalize h * (1000000 + y) = b at m2 ⊢
  omega
/-- More yield, more growth; later days, less. -/
theorem Dc.mono {y z p q d : Int} (y0 : 0 ≤ y) (z1 : z ≤ 100000) (d0 : 1 ≤ d) (p0 : 0 ≤ p) (p1 : q ≤ d) (hyz : y ≤ z) (hpq : p ≤ q) : ∀ i : Nat, Dc.lo y q d i ≤ Dc.lo z p d i ∧ Dc.hi y q d i ≤ Dc.hi z p d i
  | 0 => by
    have h : y * (d - q) ≤ z * (d - p) := Int.mul_le_mul hyz (by omega) (by omega) (by omega)
    have h1 := Int.ediv_le_ediv (show 0 < d by omega) h
    have h2 := Dc.cl_mono d0 h
    unfold Dc.lo Dc.hi
    omega
  | i + 1 => by
    obtain ⟨h1, h2⟩ := Dc.mono y0 z1 d0 p0 p1 hyz hpq i
    obtain ⟨a1, a2, a3⟩ := Dc.bd (y := y) (p := q) (d := d) y0 (by omega) d0 (by omega) p1 i
    have m1 : Dc.lo y q d i * (1000000 + y) ≤ Dc.lo z p d i * (1000000 + z) := Int.mul_le_mul h1 (by omega) (by omega) (by omega)
    have m2 : Dc.hi y q d i * (1000000 + y) ≤ Dc.hi z p d i * (1000000 + z) := Int.mul_le_mul h2 (by omega) (by omega) (by omega)
    unfold Dc.lo Dc.hi Rg.fl Rg.cl
    have := Dc.cl_mono (d := 1000000) (by decide) m2
    omega
theorem Dc.still {p d : Int} : ∀ i : Nat, Dc.lo 0 p d i = 1000000 ∧ Dc.hi 0 p d i = 1000000
  | 0 => by unfold Dc.lo Dc.hi; simp
  | i + 1 => by
    obtain ⟨h1, h2⟩ := Dc.still (p := p) (d := d) i
    unfold Dc.lo Dc.hi
    rw [h1, h2]
    decide
theorem Dc.end_ {y d e : Int} : ∀ i : Nat, Dc.lo y d d i = Dc.lo y e e i ∧ Dc.hi y d d i = Dc.hi y e e i
  | 0 => by unfold Dc.lo Dc.hi; simp
  | i + 1 => by
    obtain ⟨h1, h2⟩ := Dc.end_ (y := y) (d := d) (e := e) i
    unfold Dc.lo Dc.hi
    rw [h1, h2]
    exact ⟨rfl, rfl⟩
/-- The value of 1 when 1 has grown. -/
def Dc.dl (h : Int) : Int := 1000000 * 1000000 / h
def Dc.dh (l : Int) : Int := -((-(1000000 * 1000000)) / l)
theorem Dc.d_bd {l h : Int} (h1 : 1000000 ≤ l) (h2 : l ≤ h) (h3 : h ≤ 60000000) : 1 ≤ Dc.dl h ∧ Dc.dl h ≤ Dc.dh l ∧ Dc.dh l ≤ 1000000 := by
  unfold Dc.dl Dc.dh
  have a1 : 1 ≤ 1000000 * 1000000 / h := (Int.le_ediv_iff_mul_le (by omega)).2 (by omega)
  have a2 : -((-(1000000 * 1000000)) / l) ≤ 1000000 := Dc.cl_le (by omega) (by omega)
  have a3 : 1000000 * 1000000 / h ≤ -((-(1000000 * 1000000)) / l) := by
    refine Int.le_trans ?_ (Dc.fc (by omega))
    refine (Int.le_ediv_iff_mul_le (by omega)).2 ?_
    refine Int.le_trans (Int.mul_le_mul_of_nonneg_left h2 (by omega)) (Int.ediv_mul_le _ (by omega))
  exact ⟨a1, a3, a2⟩
theorem Dc.dl_mono {h k : Int} (h1 : 1 ≤ h) (hk : h ≤ k) : Dc.dl k ≤ Dc.dl h := by
  unfold Dc.dl
  refine (Int.le_ediv_iff_mul_le (by omega)).2 (Int.le_trans (Int.mul_le_mul_of_nonneg_left hk (Int.ediv_nonneg (by decide) (by omega))) (Int.ediv_mul_le _ (by omega)))
theorem Dc.dh_mono {l k : Int} (h1 : 1 ≤ l) (hk : l ≤ k) : Dc.dh k ≤ Dc.dh l := by
  unfold Dc.dh
  refine Dc.cl_le (by omega) (Int.le_trans (Rg.cl_mul_ge _ l (by omega)) (Int.mul_le_mul_of_nonneg_left hk ?_))
  exact Dc.le_cl (by omega) (by omega)
theorem Dc.div_is {l h : Int} (h1 : 1000000 ≤ l) (h2 : l ≤ h) (h3 : h ≤ 60000000) : Rg.div 1000000 1000000 l h = (Dc.dl h, Dc.dh l, true) := by
  obtain ⟨a, b, c⟩ := Dc.d_bd h1 h2 h3
  rw [Rg.div_yes ⟨by decide, Rg.vr_iff.2 ⟨by omega, h2, by omega⟩, by decide, by omega⟩]
  exact Rg.chk_eq (Rg.vr_iff.2 ⟨by show -2000000000 ≤ Dc.dl h; omega, b, by show Dc.dh l ≤ 2000000000; omega⟩)
theorem Dc.mul_is {l h c : Int} (h1 : 0 ≤ l) (h2 : l ≤ h) (h3 : h ≤ 60000000) (c0 : 1000000 ≤ c) (c1 : c ≤ 1100000) : Rg.mul l h c c = (Rg.fl (l * c), Rg.cl (h * c), true) ∧ Rg.pl l h c c = l * c ∧ Rg.ph l h c c = h * c := by
  have m : l * c ≤ h * c := Int.mul_le_mul_of_nonneg_right h2 (by omega)
  have e1 : Rg.pl l h c c = l * c := by unfold Rg.pl; omega
  have e2 : Rg.ph l h c c = h * c := by unfold Rg.ph; omega
  refine ⟨?_, e1, e2⟩
  unfold Rg.mul
  rw [if_pos ⟨Rg.vr_iff.2 ⟨by omega, h2, by omega⟩, Rg.vr_iff.2 ⟨by omega, Int.le_refl _, by omega⟩⟩, e1, e2]
  have m0 : 0 ≤ l * c := Int.mul_nonneg h1 (by omega)
  have m1 : h * c ≤ 60000000 * 1100000 := Int.mul_le_mul h3 c1 (by omega) (by decide)
  refine Rg.chk_eq (Rg.vr_iff.2 ?_)
  unfold Rg.fl Rg.cl
  generalize l * c = a at m m0 ⊢
  generalize h * c = b at m m1 ⊢
  omega
/-- A whole period is a factor. -/
theorem Dc.factor {l h c : Int} (h1 : 1000000 ≤ l) (h2 : l ≤ h) (c0 : 1000000 ≤ c) (hl : 1000000 ≤ Rg.fl (l * c)) (hh : 1000000 ≤ Rg.cl (h * c)) :
    Rg.fl (Dc.dl (Rg.cl (h * c)) * c) ≤ Dc.dh l ∧ Dc.dl h ≤ Rg.cl (Dc.dh (Rg.fl (l * c)) * c) := by
  constructor
  · generalize hH : Rg.cl (h * c) = H at hh
    have e1 : h * c ≤ H * 1000000 := by rw [← hH]; exact Rg.cl_mul_ge _ _ (by decide)
    have e2 : Dc.dl H * H ≤ 1000000 * 1000000 := Int.ediv_mul_le _ (by omega)
    have e3 : (1000000 * 1000000 : Int) ≤ Dc.dh l * l := Rg.cl_mul_ge _ l (by omega)
    have e0 : 0 ≤ Dc.dl H := Int.ediv_nonneg (by decide) (by omega)
    have f0 : 0 ≤ Dc.dh l := Dc.le_cl (by omega) (by omega)
    have e4 : Rg.fl (Dc.dl H * c) * 1000000 ≤ Dc.dl H * c := Int.ediv_mul_le _ (by decide)
    generalize Rg.fl (Dc.dl H * c) = m at e4 ⊢
    by_cases hm : Dc.dh l < m
    · exfalso
      have g1 : m * 1000000 * h ≤ Dc.dl H * c * h := Int.mul_le_mul_of_nonneg_right e4 (by omega)
      have g2 : Dc.dl H * c * h = Dc.dl H * (h * c) := by rw [Int.mul_assoc, Int.mul_comm c h]
      have g3 : Dc.dl H * (h * c) ≤ Dc.dl H * (H * 1000000) := Int.mul_le_mul_of_nonneg_left e1 e0
      have g4 : Dc.dl H * (H * 1000000) = Dc.dl H * H * 1000000 := by rw [Int.mul_assoc]
      have g5 : m * 1000000 * h = m * h * 1000000 := by rw [Int.mul_assoc, Int.mul_comm 1000000 h, Int.mul_assoc]
      have g6 : (Dc.dh l + 1) * h ≤ m * h := Int.mul_le_mul_of_nonneg_right (by omega) (by omega)
      have g7 : Dc.dh l * l ≤ Dc.dh l * h := Int.mul_le_mul_of_nonneg_left h2 f0
      have g8 : (Dc.dh l + 1) * h = Dc.dh l * h + h := by rw [Int.add_mul]; omega
      omega
    · omega
  · generalize hL : Rg.fl (l * c) = L at hl
    have e1 : L * 1000000 ≤ l * c := by rw [← hL]; exact Int.ediv_mul_le _ (by decide)
    have e2 : Dc.dl h * h ≤ 1000000 * 1000000 := Int.ediv_mul_le _ (by omega)
    have e3 : (1000000 * 1000000 : Int) ≤ Dc.dh L * L := Rg.cl_mul_ge _ L (by omega)
    have f0 : 0 ≤ Dc.dh L := Dc.le_cl (by omega) (by omega)
    have e4 : Dc.dh L * c ≤ Rg.cl (Dc.dh L * c) * 1000000 := Rg.cl_mul_ge _ _ (by decide)
    have e5 : 0 ≤ Rg.cl (Dc.dh L * c) := Dc.le_cl (by decide) (by have := Int.mul_nonneg f0 (show 0 ≤ c by omega); omega)
    generalize Rg.cl (Dc.dh L * c) = M at e4 e5 ⊢
    by_cases hm : M < Dc.dl h
    · exfalso
      have g1 : Dc.dh L * c * l ≤ M * 1000000 * l := Int.mul_le_mul_of_nonneg_right e4 (by omega)
      have g2 : Dc.dh L * c * l = Dc.dh L * (l * c) := by rw [Int.mul_assoc, Int.mul_comm c l]
      have g3 : Dc.dh L * (L * 1000000) ≤ Dc.dh L * (l * c) := Int.mul_le_mul_of_nonneg_left e1 f0
      have g4 : Dc.dh L * (L * 1000000) = Dc.dh L * L * 1000000 := by rw [Int.mul_assoc]
      have g5 : M * 1000000 * l = M * l * 1000000 := by rw [Int.mul_assoc, Int.mul_comm 1000000 l, Int.mul_assoc]
      have g6 : (M + 1) * h ≤ Dc.dl h * h := Int.mul_le_mul_of_nonneg_right (by omega) (by omega)
      have g7 : M * l ≤ M * h := Int.mul_le_mul_of_nonneg_left h2 e5
      have g8 : (M + 1) * h = M * h + h := by rw [Int.add_mul]; omega
      omega
    · omega
end Go.Proofs.YtkdooncfchmkfaaDoor
