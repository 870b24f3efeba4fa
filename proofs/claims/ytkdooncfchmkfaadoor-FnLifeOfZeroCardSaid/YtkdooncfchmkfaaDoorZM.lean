import Derived.Test.YtkdooncfchmkfaaDoorDc
/- Prices: mathematics. -/
namespace Go.Proofs.YtkdooncfchmkfaaDoor
/-- What the first k payments are worth, in millionths of a cent: the low one and the high one. -/
def Pc.lo (y p d : Int) (am : List Int) : Nat → Int
  | 0 => 0
  | k + 1 => Pc.lo y p d am k + am.getD k 0 * Dc.dl (Dc.hi y p d k)
def Pc.hi (y p d : Int) (am : List Int) : Nat → Int
  | 0 => 0
  | k + 1 => Pc.hi y p d am k + am.getD k 0 * Dc.dh (Dc.lo y p d k)
def Pc.sum (am : List Int) : Nat → Int
  | 0 => 0
  | k + 1 => Pc.sum am k + am.getD k 0
def Pc.val (y p d : Int) (am : List Int) : Int × Int := (Rg.fl (Pc.lo y p d am am.length), Rg.cl (Pc.hi y p d am am.length))
/-- The payments that are left of a bond. -/
structure Pc.Am (am : List Int) : Prop where
  n1 : 1 ≤ am.length
  n40 : am.length ≤ 40
  few : ∀ i, i + 1 < am.length → 0 ≤ am.getD i 0 ∧ am.getD i 0 ≤ 3000
  last : 10000 ≤ am.getD (am.length - 1) 0 ∧ am.getD (am.length - 1) 0 ≤ 13000
theorem Pc.Am.bd {am : List Int} (h : Pc.Am am) {i : Nat} (hi : i < am.length) : 0 ≤ am.getD i 0 ∧ am.getD i 0 ≤ 13000 := by
  rcases Nat.lt_or_ge (i + 1) am.length with c | c
  · have := h.few i c; omega
  · have e : i = am.length - 1 := by omega
    have := h.last
    rw [← e] at this
    omega
/-- What holds of a day's arguments. -/
def Pc.ok (y p d : Int) : Bool := Dc.ok y p d 0
theorem Pc.ok_iff {y p d : Int} : Pc.ok y p d = true ↔ (0 ≤ y ∧ y ≤ 100000) ∧ (1 ≤ d ∧ d ≤ 4000) ∧ (0 ≤ p ∧ p ≤ d) := by
  unfold Pc.ok
  rw [Dc.ok_iff]
  omega
theorem Pc.okN {y p d : Int} (h : Pc.ok y p d = true) {n : Nat} (hn : n ≤ 40) : Dc.ok y p d n = true := by
  obtain ⟨h1, h2, h3⟩ := Pc.ok_iff.1 h
  exact Dc.ok_iff.2 ⟨h1, h2, h3, by omega, by omega⟩
theorem Pc.d_bd {y p d : Int} (h : Pc.ok y p d = true) {i : Nat} (hi : i ≤ 40) : 16666 ≤ Dc.dl (Dc.hi y p d i) ∧ Dc.dl (Dc.hi y p d i) ≤ Dc.dh (Dc.lo y p d i) ∧ Dc.dh (Dc.lo y p d i) ≤ 1000000 := by
  obtain ⟨b0, b1, b2⟩ := Dc.bd40 h hi
  obtain ⟨c0, c1, c2⟩ := Dc.d_bd b0 b1 b2
  refine ⟨?_, c1, c2⟩
  unfold Dc.dl
  exact (Int.le_ediv_iff_mul_le (by omega)).2 (by omega)
theorem Pc.bd {y p d : Int} {am : List Int} (h : Pc.ok y p d = true) (ha : Pc.Am am) : ∀ k : Nat, k ≤ am.length → 0 ≤ Pc.lo y p d am k ∧ Pc.lo y p d am k ≤ Pc.hi y p d am k ∧ Pc.hi y p d am k ≤ k * 13000000000
  | 0, _ => by unfold Pc.lo Pc.hi; omega
  | k + 1, hk => by
    obtain ⟨h1, h2, h3⟩ := Pc.bd h ha k (by omega)
    obtain ⟨a0, a1⟩ := ha.bd (show k < am.length by omega)
    obtain ⟨c0, c1, c2⟩ := Pc.d_bd h (i := k) (by have := ha.n40; omega)
    unfold Pc.lo Pc.hi
    generalize am.getD k 0 = a at *
    generalize Dc.dl (Dc.hi y p d k) = L at *
    generalize Dc.dh (Dc.lo y p d k) = U at *
    have m0 : 0 ≤ a * L := Int.mul_nonneg a0 (by omega)
    have m1 : a * L ≤ a * U := Int.mul_le_mul_of_nonneg_left c1 a0
    have m2 : a * U ≤ 13000 * 1000000 := Int.mul_le_mul a1 c2 (by omega) (by decide)
    omega
/-- One more payment: the terms' bounds. -/
theorem Pc.term {y p d : Int} {am : List Int} (h : Pc.ok y p d = true) (ha : Pc.Am am) {k : Nat} (hk : k < am.length) : 0 ≤ am.getD k 0 * Dc.dl (Dc.hi y p d k) ∧ am.getD k 0 * Dc.dl (Dc.hi y p d k) ≤ am.getD k 0 * Dc.dh (Dc.lo y p d k) ∧ am.getD k 0 * Dc.dh (Dc.lo y p d k) ≤ 13000000000 := by
  obtain ⟨a0, a1⟩ := ha.bd hk
  obtain ⟨c0, c1, c2⟩ := Pc.d_bd h (i := k) (by have := ha.n40; omega)
  have m0 : 0 ≤ am.getD k 0 * Dc.dl (Dc.hi y p d k) := Int.mul_nonneg a0 (by omega)
  have m1 := Int.mul_le_mul_of_nonneg_left c1 a0
  have m2 : am.getD k 0 * Dc.dh (Dc.lo y p d k) ≤ 13000 * 1000000 := Int.mul_le_mul a1 c2 (by omega) (by decide)
  exact ⟨m0, m1, by omega⟩
theorem Pc.mono {y z p d : Int} {am : List Int} (h : Pc.ok y p d = true) (hz : Pc.ok z p d = true) (hyz : y ≤ z) (ha : Pc.Am am) : ∀ k : Nat, k ≤ am.length → Pc.lo z p d am k ≤ Pc.lo y p d am k ∧ Pc.hi z p d am k ≤ Pc.hi y p d am k
  | 0, _ => by unfold Pc.lo Pc.hi; omega
  | k + 1, hk => by
    obtain ⟨h1, h2⟩ := Pc.mono h hz hyz ha k (by omega)
    obtain ⟨a0, -⟩ := ha.bd (show k < am.length by omega)
    obtain ⟨⟨y0, y1⟩, ⟨d0, d1⟩, p0, p1⟩ := Pc.ok_iff.1 h
    obtain ⟨⟨z0, z1⟩, -, -⟩ := Pc.ok_iff.1 hz
    obtain ⟨u0, u1⟩ := Dc.mono y0 z1 d0 p0 p1 hyz (Int.le_refl p) k
    obtain ⟨b0, b1, -⟩ := Dc.bd40 h (i := k) (by have := ha.n40; omega)
    have e1 := Dc.dl_mono (by omega) u1
    have e2 := Dc.dh_mono (by omega) u0
    unfold Pc.lo Pc.hi
    have m1 := Int.mul_le_mul_of_nonneg_left e1 a0
    have m2 := Int.mul_le_mul_of_nonneg_left e2 a0
    omega
theorem Pc.fl_mono {a b : Int} (h : a ≤ b) : Rg.fl a ≤ Rg.fl b := Int.ediv_le_ediv (by decide) h
theorem Pc.cl_mono {a b : Int} (h : a ≤ b) : Rg.cl a ≤ Rg.cl b := by unfold Rg.cl; omega
theorem Pc.fl_cl {a b : Int} (h : a ≤ b) : Rg.fl a ≤ Rg.cl b := by unfold Rg.fl Rg.cl; omega
theorem Pc.val_mono {y z p d : Int} {am : List Int} (h : Pc.ok y p d = true) (hz : Pc.ok z p d = true) (hyz : y ≤ z) (ha : Pc.Am am) : (Pc.val z p d am).1 ≤ (Pc.val y p d am).1 ∧ (Pc.val z p d am).2 ≤ (Pc.val y p d am).2 := by
  obtain ⟨h1, h2⟩ := Pc.mono h hz hyz ha am.length (Nat.le_refl _)
  exact ⟨Pc.fl_mono h1, Pc.cl_mono h2⟩
theorem Pc.val_bd {y p d : Int} {am : List Int} (h : Pc.ok y p d = true) (ha : Pc.Am am) : 0 < (Pc.val y p d am).1 ∧ (Pc.val y p d am).1 ≤ (Pc.val y p d am).2 ∧ (Pc.val y p d am).2 ≤ 520000 := by
  have hn := ha.n1
  have hn2 := ha.n40
  obtain ⟨-, h2, h3⟩ := Pc.bd h ha am.length (Nat.le_refl _)
  refine ⟨?_, Pc.fl_cl h2, ?_⟩
  · obtain ⟨q0, -, -⟩ := Pc.bd h ha (am.length - 1) (by omega)
    obtain ⟨c0, -, -⟩ := Pc.d_bd h (i := am.length - 1) (by omega)
    obtain ⟨l0, l1⟩ := ha.last
    have e : Pc.lo y p d am am.length = Pc.lo y p d am (am.length - 1) + am.getD (am.length - 1) 0 * Dc.dl (Dc.hi y p d (am.length - 1)) := by
      obtain ⟨m, hm⟩ : ∃ m, am.length = m + 1 := ⟨am.length - 1, by omega⟩
      rw [hm]; rfl
    have m1 : 10000 * 16666 ≤ am.getD (am.length - 1) 0 * Dc.dl (Dc.hi y p d (am.length - 1)) := Int.mul_le_mul l0 c0 (by decide) (by omega)
    show 0 < Rg.fl (Pc.lo y p d am am.length)
    unfold Rg.fl
    omega
  · show Rg.cl (Pc.hi y p d am am.length) ≤ 520000
    have : (am.length : Int) * 13000000000 ≤ 40 * 13000000000 := Int.mul_le_mul_of_nonneg_right (by omega) (by decide)
    unfold Rg.cl
    omega
theorem Pc.still {p d : Int} {am : List Int} (h : Pc.ok 0 p d = true) (hn : am.length ≤ 40) : ∀ k : Nat, k ≤ am.length → Pc.lo 0 p d am k = Pc.sum am k * 1000000 ∧ Pc.hi 0 p d am k = Pc.sum am k * 1000000
  | 0, _ => by unfold Pc.lo Pc.hi Pc.sum; omega
  | k + 1, hk => by
    obtain ⟨h1, h2⟩ := Pc.still h hn k (by omega)
    obtain ⟨e1, e2⟩ := Dc.still (p := p) (d := d) k
    unfold Pc.lo Pc.hi Pc.sum
    rw [h1, h2, e1, e2, show Dc.dl 1000000 = 1000000 by decide, show Dc.dh 1000000 = 1000000 by decide, Int.add_mul]
    exact ⟨rfl, rfl⟩
theorem Pc.val_zero {p d : Int} {am : List Int} (h : Pc.ok 0 p d = true) (hn : am.length ≤ 40) : Pc.val 0 p d am = (Pc.sum am am.length, Pc.sum am am.length) := by
  obtain ⟨h1, h2⟩ := Pc.still h hn am.length (Nat.le_refl _)
  unfold Pc.val Rg.fl Rg.cl
  rw [h1, h2]
  generalize Pc.sum am am.length = s
  exact Prod.ext (by show s * 1000000 / 1000000 = s; omega) (by show -((-(s * 1000000)) / 1000000) = s; omega)
/-- How far growth's bounds are from each other. -/
theorem Pc.rel {y p d n : Int} (h : Dc.ok y p d n = true) : ∀ i : Nat, i ≤ 40 → 1000000 * (Dc.hi y p d i - Dc.lo y p d i) ≤ (2 * (i : Int) + 1) * Dc.hi y p d i
  | 0, _ => by
    obtain ⟨b0, b1, b2⟩ := Dc.bd40 h (i := 0) (by omega)
    obtain ⟨-, ⟨d0, d1⟩, -⟩ := Dc.ok_iff.1 h
    have e : Dc.hi y p d 0 - Dc.lo y p d 0 ≤ 1 := by
      unfold Dc.hi Dc.lo
      generalize y * (d - p) = x
      have h1 : x < (x / d + 1) * d := by
        have := Int.lt_ediv_add_one_mul_self x (show 0 < d by omega)
        exact this
      have h2 : -((-x) / d) ≤ x / d + 1 := Dc.cl_le d0 (by omega)
      omega
    omega
  | i + 1, hi => by
    have ih := Pc.rel h i (by omega)
    obtain ⟨b0, b1, b2⟩ := Dc.bd40 h (i := i) (by omega)
    obtain ⟨c0, c1, c2⟩ := Dc.bd40 h (i := i + 1) (by omega)
    obtain ⟨⟨y0, y1⟩, -⟩ := Dc.ok_iff.1 h
    have e1 : Dc.lo y p d (i + 1) = Rg.fl (Dc.lo y p d i * (1000000 + y)) := rfl
    have e2 : Dc.hi y p d (i + 1) = Rg.cl (Dc.hi y p d i * (1000000 + y)) := rfl
    generalize Dc.lo y p d i = l at *
    generalize Dc.hi y p d i = u at *
    generalize Dc.lo y p d (i + 1) = l' at *
    generalize Dc.hi y p d (i + 1) = u' at *
    have f1 : l * (1000000 + y) ≤ l' * 1000000 + 999999 := by rw [e1]; unfold Rg.fl; omega
    have f2 : u' * 1000000 ≤ u * (1000000 + y) + 999999 := by rw [e2]; unfold Rg.cl; omega
    have f3 : u * (1000000 + y) ≤ u' * 1000000 := by rw [e2]; unfold Rg.cl; omega
    have g1 : 1000000 * (u - l) * (1000000 + y) ≤ (2 * (i : Int) + 1) * u * (1000000 + y) := Int.mul_le_mul_of_nonneg_right ih (by omega)
    have g2 : 1000000 * (u - l) * (1000000 + y) = 1000000 * (u * (1000000 + y) - l * (1000000 + y)) := by rw [Int.mul_assoc, Int.sub_mul]
    have g3 : (2 * (i : Int) + 1) * u * (1000000 + y) ≤ (2 * (i : Int) + 1) * (u' * 1000000) := by
      rw [Int.mul_assoc]; exact Int.mul_le_mul_of_nonneg_left f3 (by omega)
    have g4 : (2 * (i : Int) + 1) * (u' * 1000000) = (2 * (i : Int) + 1) * u' * 1000000 := by rw [Int.mul_assoc]
    have g5 : (2 * (((i + 1 : Nat) : Int)) + 1) * u' = (2 * (i : Int) + 1) * u' + 2 * u' := by
      rw [show (2 * (((i + 1 : Nat) : Int)) + 1) = (2 * (i : Int) + 1) + 2 by omega, Int.add_mul]
    rw [g5]
    generalize (2 * (i : Int) + 1) * u' = v at *
    omega
theorem Pc.near {y p d : Int} (h : Pc.ok y p d = true) {i : Nat} (hi : i < 40) : Dc.dh (Dc.lo y p d i) ≤ Dc.dl (Dc.hi y p d i) + (2 * (i : Int) + 3) := by
  obtain ⟨b0, b1, b2⟩ := Dc.bd40 h (i := i) (by omega)
  have hr := Pc.rel h i (by omega)
  generalize Dc.lo y p d i = l at *
  generalize Dc.hi y p d i = u at *
  have e1 : 1000000 * 1000000 < (Dc.dl u + 1) * u := Int.lt_ediv_add_one_mul_self _ (by omega)
  have e2 : Dc.dl u * u ≤ 1000000 * 1000000 := Int.ediv_mul_le _ (by omega)
  have e0 : 0 ≤ Dc.dl u := Int.ediv_nonneg (by decide) (by omega)
  have e3 : (Dc.dl u + 1) * u = Dc.dl u * u + u := by rw [Int.add_mul]; omega
  generalize hx : Dc.dl u = x at *
  unfold Dc.dh
  refine Dc.cl_le (by omega) ?_
  have k1 : 1000000 * (u - l) * (x + 1) ≤ (2 * (i : Int) + 1) * u * (x + 1) := Int.mul_le_mul_of_nonneg_right hr (by omega)
  have k2 : (2 * (i : Int) + 1) * u * (x + 1) = (2 * (i : Int) + 1) * (x * u + u) := by rw [Int.mul_assoc, Int.mul_comm u (x + 1), e3]
  have k3 : (2 * (i : Int) + 1) * (x * u + u) ≤ (2 * (i : Int) + 1) * (1000000 * 1000000 + u) := Int.mul_le_mul_of_nonneg_left (by omega) (by omega)
  have k4 : (2 * (i : Int) + 1) * (1000000 * 1000000 + u) ≤ (2 * (i : Int) + 2) * (1000000 * 1000000) := by
    have q : (2 * (i : Int) + 1) * u ≤ 79 * 60000000 := Int.mul_le_mul (by omega) b2 (by omega) (by decide)
    rw [Int.mul_add]
    omega
  have k5 : 1000000 * (u - l) * (x + 1) = 1000000 * ((x + 1) * u - (x + 1) * l) := by
    rw [Int.mul_assoc, Int.mul_comm (u - l) (x + 1), Int.mul_sub]
  have k6 : (2 * (i : Int) + 2) * 1000000 ≤ (2 * (i : Int) + 2) * l := Int.mul_le_mul_of_nonneg_left b0 (by omega)
  have k7 : (x + (2 * (i : Int) + 3)) * l = (x + 1) * l + (2 * (i : Int) + 2) * l := by rw [← Int.add_mul]; congr 1; omega
  rw [k7]
  generalize (x + 1) * l = a at *
  generalize (x + 1) * u = b at *
  generalize (2 * (i : Int) + 2) * l = c at *
  omega
/-- The widths of the first k payments' ranges. -/
theorem Pc.width {y p d : Int} {am : List Int} (h : Pc.ok y p d = true) (ha : Pc.Am am) : ∀ k : Nat, k < am.length → Pc.hi y p d am k - Pc.lo y p d am k ≤ 3000 * ((k : Int) * (k : Int) + 2 * k)
  | 0, _ => by unfold Pc.lo Pc.hi; omega
  | k + 1, hk => by
    have ih := Pc.width h ha k (by omega)
    obtain ⟨a0, a1⟩ := ha.few k hk
    have hn := Pc.near h (i := k) (by have := ha.n40; omega)
    unfold Pc.lo Pc.hi
    generalize am.getD k 0 = a at *
    generalize Dc.dl (Dc.hi y p d k) = L at *
    generalize Dc.dh (Dc.lo y p d k) = U at *
    have m1 : a * U ≤ a * (L + (2 * (k : Int) + 3)) := Int.mul_le_mul_of_nonneg_left hn a0
    rw [Int.mul_add] at m1
    have m2 : a * (2 * (k : Int) + 3) ≤ 3000 * (2 * (k : Int) + 3) := Int.mul_le_mul_of_nonneg_right a1 (by omega)
    have e : ((k + 1 : Nat) : Int) * ((k + 1 : Nat) : Int) = (k : Int) * k + 2 * k + 1 := by
      rw [show ((k + 1 : Nat) : Int) = (k : Int) + 1 by omega, Int.add_mul, Int.mul_add]; omega
    rw [e]
    generalize (k : Int) * (k : Int) = kk at *
    omega
theorem Pc.val_narrow {y p d : Int} {am : List Int} (h : Pc.ok y p d = true) (ha : Pc.Am am) : (Pc.val y p d am).2 - (Pc.val y p d am).1 ≤ 10 := by
  have hn := ha.n1
  have hn2 := ha.n40
  obtain ⟨m, hm⟩ : ∃ m, am.length = m + 1 := ⟨am.length - 1, by omega⟩
  have hw := Pc.width h ha m (by omega)
  have hq := Pc.near h (i := m) (by omega)
  obtain ⟨l0, l1⟩ := ha.last
  rw [hm, Nat.add_sub_cancel] at l0 l1
  have e1 : Pc.lo y p d am (m + 1) = Pc.lo y p d am m + am.getD m 0 * Dc.dl (Dc.hi y p d m) := rfl
  have e2 : Pc.hi y p d am (m + 1) = Pc.hi y p d am m + am.getD m 0 * Dc.dh (Dc.lo y p d m) := rfl
  show Rg.cl (Pc.hi y p d am am.length) - Rg.fl (Pc.lo y p d am am.length) ≤ 10
  rw [hm, e1, e2]
  generalize am.getD m 0 = a at *
  generalize Dc.dl (Dc.hi y p d m) = L at *
  generalize Dc.dh (Dc.lo y p d m) = U at *
  have m1 : a * U ≤ a * (L + (2 * (m : Int) + 3)) := Int.mul_le_mul_of_nonneg_left hq (by omega)
  rw [Int.mul_add] at m1
  have m2 : a * (2 * (m : Int) + 3) ≤ 13000 * 81 := Int.mul_le_mul l1 (by omega) (by omega) (by decide)
  have m3 : (m : Int) * (m : Int) ≤ 39 * 39 := Int.mul_le_mul (by omega) (by omega) (by omega) (by decide)
  unfold Rg.cl Rg.fl
  generalize (m : Int) * (m : Int) = mm at *
  generalize a * L = x at *
  generalize a * U = z at *
  omega
/-- Greater payments. -/
theorem Pc.more {y p d : Int} {am bs : List Int} (h : Pc.ok y p d = true) (hn : am.length ≤ 40) (hab : ∀ i, i < am.length → am.getD i 0 ≤ bs.getD i 0) : ∀ k : Nat, k ≤ am.length → Pc.lo y p d am k ≤ Pc.lo y p d bs k ∧ Pc.hi y p d am k ≤ Pc.hi y p d bs k
  | 0, _ => by unfold Pc.lo Pc.hi; omega
  | k + 1, hk => by
    obtain ⟨h1, h2⟩ := Pc.more h hn hab k (by omega)
    obtain ⟨c0, c1, c2⟩ := Pc.d_bd h (i := k) (by omega)
    have m1 := Int.mul_le_mul_of_nonneg_right (hab k (by omega)) (show 0 ≤ Dc.dl (Dc.hi y p d k) by omega)
    have m2 := Int.mul_le_mul_of_nonneg_right (hab k (by omega)) (show 0 ≤ Dc.dh (Dc.lo y p d k) by omega)
    unfold Pc.lo Pc.hi
    omega
theorem Pc.val_more {y p d : Int} {am bs : List Int} (h : Pc.ok y p d = true) (hn : am.length ≤ 40) (hl : bs.length = am.length) (hab : ∀ i, i < am.length → am.getD i 0 ≤ bs.getD i 0) : (Pc.val y p d am).1 ≤ (Pc.val y p d bs).1 ∧ (Pc.val y p d am).2 ≤ (Pc.val y p d bs).2 := by
  obtain ⟨h1, h2⟩ := Pc.more h hn hab am.length (Nat.le_refl _)
  unfold Pc.val
  rw [hl]
  exact ⟨Pc.fl_mono h1, Pc.cl_mono h2⟩
/-- A greater yield's growth lies above, strictly. -/
theorem Pc.apart {y z p d n m : Int} (h : Dc.ok y p d n = true) (hz : Dc.ok z p d m = true) (hyz : y < z) (hp : p < d) : ∀ i : Nat, i ≤ 40 → Dc.lo y p d i < Dc.hi z p d i
  | 0, _ => by
    obtain ⟨-, ⟨d0, d1⟩, -⟩ := Dc.ok_iff.1 h
    unfold Dc.lo Dc.hi
    have h1 : y * (d - p) < z * (d - p) := Int.mul_lt_mul_of_pos_right hyz (by omega)
    generalize y * (d - p) = a at *
    generalize z * (d - p) = b at *
    have h2 : a / d * d ≤ a := Int.ediv_mul_le _ (by omega)
    have h3 := Rg.cl_mul_ge b d (by omega)
    rcases Int.lt_or_le (a / d) (-((-b) / d)) with c | c
    · omega
    · exfalso
      have := Int.mul_le_mul_of_nonneg_right c (show 0 ≤ d by omega)
      omega
  | i + 1, hi => by
    have ih := Pc.apart h hz hyz hp i (by omega)
    obtain ⟨b0, b1, b2⟩ := Dc.bd40 h (i := i) (by omega)
    obtain ⟨⟨y0, y1⟩, -⟩ := Dc.ok_iff.1 h
    show Rg.fl (Dc.lo y p d i * (1000000 + y)) < Rg.cl (Dc.hi z p d i * (1000000 + z))
    generalize Dc.lo y p d i = l at *
    generalize Dc.hi z p d i = u at *
    have h1 : l * (1000000 + y) < u * (1000000 + z) := by
      have k1 : l * (1000000 + y) ≤ l * (1000000 + z) := Int.mul_le_mul_of_nonneg_left (by omega) (by omega)
      have k2 : l * (1000000 + z) < u * (1000000 + z) := Int.mul_lt_mul_of_pos_right ih (by omega)
      omega
    unfold Rg.fl Rg.cl
    omega
theorem Pc.d_apart {y z p d : Int} (h : Pc.ok y p d = true) (hz : Pc.ok z p d = true) (hyz : y < z) (hp : p < d) {i : Nat} (hi : i ≤ 40) : Dc.dl (Dc.hi z p d i) < Dc.dh (Dc.lo y p d i) := by
  have ha := Pc.apart h hz hyz hp i hi
  obtain ⟨b0, b1, b2⟩ := Dc.bd40 h (i := i) (by omega)
  generalize Dc.lo y p d i = l at *
  generalize Dc.hi z p d i = u at *
  have e2 : Dc.dl u * u ≤ 1000000 * 1000000 := Int.ediv_mul_le _ (by omega)
  have e3 : (1000000 * 1000000 : Int) ≤ Dc.dh l * l := Rg.cl_mul_ge _ l (by omega)
  have f0 : 1 ≤ Dc.dh l := by
    rcases Int.lt_or_le (Dc.dh l) 1 with c | c
    · have := Int.mul_le_mul_of_nonneg_right (show Dc.dh l ≤ 0 by omega) (show 0 ≤ l by omega)
      omega
    · exact c
  rcases Int.lt_or_le (Dc.dl u) (Dc.dh l) with c | c
  · exact c
  · exfalso
    have k1 := Int.mul_le_mul_of_nonneg_right c (show 0 ≤ u by omega)
    have k2 : Dc.dh l * l < Dc.dh l * u := Int.mul_lt_mul_of_pos_left ha (by omega)
    omega
theorem Pc.lt {y z p d : Int} {am : List Int} (h : Pc.ok y p d = true) (hz : Pc.ok z p d = true) (hyz : y < z) (hp : p < d) (ha : Pc.Am am) : Pc.lo z p d am am.length < Pc.hi y p d am am.length := by
  have key : ∀ k : Nat, k ≤ am.length → Pc.lo z p d am k ≤ Pc.hi y p d am k := fun k hk => by
    obtain ⟨h1, -⟩ := Pc.mono h hz (by omega) ha k hk
    obtain ⟨-, h2, -⟩ := Pc.bd h ha k hk
    omega
  have hn := ha.n1
  have hn2 := ha.n40
  obtain ⟨m, hm⟩ : ∃ m, am.length = m + 1 := ⟨am.length - 1, by omega⟩
  obtain ⟨l0, l1⟩ := ha.last
  rw [hm, Nat.add_sub_cancel] at l0 l1
  have hk := key m (by omega)
  have hd := Pc.d_apart h hz hyz hp (i := m) (by omega)
  have e1 : Pc.lo z p d am (m + 1) = Pc.lo z p d am m + am.getD m 0 * Dc.dl (Dc.hi z p d m) := rfl
  have e2 : Pc.hi y p d am (m + 1) = Pc.hi y p d am m + am.getD m 0 * Dc.dh (Dc.lo y p d m) := rfl
  rw [hm, e1, e2]
  have := Int.mul_lt_mul_of_pos_left hd (show 0 < am.getD m 0 by omega)
  omega
/-- A price lies above that of a greater yield. -/
theorem Pc.val_lt {y z p d x : Int} {am : List Int} (h : Pc.ok y p d = true) (hz : Pc.ok z p d = true) (hyz : y < z) (hp : p < d) (ha : Pc.Am am) (h1 : (Pc.val y p d am).2 ≤ x) (h2 : x ≤ (Pc.val z p d am).1) : False := by
  have hl := Pc.lt h hz hyz hp ha
  have h1' : Rg.cl (Pc.hi y p d am am.length) ≤ x := h1
  have h2' : x ≤ Rg.fl (Pc.lo z p d am am.length) := h2
  unfold Rg.cl at h1'
  unfold Rg.fl at h2'
  omega
/-- Growth without rounding, times a power of ten. -/
def Pc.N (y p d : Int) : Nat → Int
  | 0 => 1000000 * d + y * (d - p)
  | i + 1 => Pc.N y p d i * (1000000 + y)
def Pc.D (d : Int) : Nat → Int
  | 0 => d
  | i + 1 => Pc.D d i * 1000000
theorem Pc.D_pos {d : Int} (d0 : 1 ≤ d) : ∀ i, 1 ≤ Pc.D d i
  | 0 => d0
  | i + 1 => by have := Pc.D_pos d0 i; show 1 ≤ Pc.D d i * 1000000; omega
theorem Pc.N_in {y p d n : Int} (h : Dc.ok y p d n = true) : ∀ i : Nat, i ≤ 40 → Dc.lo y p d i * Pc.D d i ≤ Pc.N y p d i ∧ Pc.N y p d i ≤ Dc.hi y p d i * Pc.D d i
  | 0, _ => by
    obtain ⟨-, ⟨d0, d1⟩, -⟩ := Dc.ok_iff.1 h
    show (1000000 + y * (d - p) / d) * d ≤ 1000000 * d + y * (d - p) ∧ 1000000 * d + y * (d - p) ≤ (1000000 + -((-(y * (d - p))) / d)) * d
    generalize y * (d - p) = a
    have h2 : a / d * d ≤ a := Int.ediv_mul_le _ (by omega)
    have h3 := Rg.cl_mul_ge a d (by omega)
    rw [Int.add_mul, Int.add_mul]
    omega
  | i + 1, hi => by
    obtain ⟨h1, h2⟩ := Pc.N_in h i (by omega)
    obtain ⟨⟨y0, y1⟩, ⟨d0, d1⟩, -⟩ := Dc.ok_iff.1 h
    have hD := Pc.D_pos d0 i
    show Rg.fl (Dc.lo y p d i * (1000000 + y)) * (Pc.D d i * 1000000) ≤ Pc.N y p d i * (1000000 + y) ∧ Pc.N y p d i * (1000000 + y) ≤ Rg.cl (Dc.hi y p d i * (1000000 + y)) * (Pc.D d i * 1000000)
    generalize Dc.lo y p d i = l at *
    generalize Dc.hi y p d i = u at *
    generalize Pc.D d i = D at *
    generalize Pc.N y p d i = N at *
    have g1 : Rg.fl (l * (1000000 + y)) * 1000000 ≤ l * (1000000 + y) := Int.ediv_mul_le _ (by decide)
    have g2 : u * (1000000 + y) ≤ Rg.cl (u * (1000000 + y)) * 1000000 := Rg.cl_mul_ge _ _ (by decide)
    have k1 := Int.mul_le_mul_of_nonneg_right g1 (show 0 ≤ D by omega)
    have k2 := Int.mul_le_mul_of_nonneg_right g2 (show 0 ≤ D by omega)
    have k3 := Int.mul_le_mul_of_nonneg_right h1 (show 0 ≤ 1000000 + y by omega)
    have k4 := Int.mul_le_mul_of_nonneg_right h2 (show 0 ≤ 1000000 + y by omega)
    have q1 : Rg.fl (l * (1000000 + y)) * (D * 1000000) = Rg.fl (l * (1000000 + y)) * 1000000 * D := by rw [Int.mul_comm D, Int.mul_assoc]
    have q2 : Rg.cl (u * (1000000 + y)) * (D * 1000000) = Rg.cl (u * (1000000 + y)) * 1000000 * D := by rw [Int.mul_comm D, Int.mul_assoc]
    have q3 : l * D * (1000000 + y) = l * (1000000 + y) * D := by rw [Int.mul_assoc, Int.mul_comm D, Int.mul_assoc]
    have q4 : u * D * (1000000 + y) = u * (1000000 + y) * D := by rw [Int.mul_assoc, Int.mul_comm D, Int.mul_assoc]
    rw [q1, q2]
    omega
theorem Pc.N_pos {y p d n : Int} (h : Dc.ok y p d n = true) {i : Nat} (hi : i ≤ 40) : 1 ≤ Pc.N y p d i := by
  obtain ⟨-, ⟨d0, d1⟩, -⟩ := Dc.ok_iff.1 h
  obtain ⟨h1, -⟩ := Pc.N_in h i hi
  obtain ⟨b0, -, -⟩ := Dc.bd40 h (i := i) hi
  have hD := Pc.D_pos d0 i
  have := Int.mul_le_mul b0 hD (by decide) (by omega)
  omega
theorem Pc.sq {u t : Int} : (u - t) * (u + t) ≤ u * u := by
  have : 0 ≤ t * t := by
    rcases Int.le_total 0 t with h | h
    · exact Int.mul_nonneg h h
    · exact Int.mul_nonneg_of_nonpos_of_nonpos h h
  rw [Int.sub_mul, Int.mul_add, Int.mul_add, Int.mul_comm t u]
  omega
theorem Pc.N_mid {y s p d : Int} (h0 : Pc.ok (y - s) p d = true) (h1 : Pc.ok y p d = true) (h2 : Pc.ok (y + s) p d = true) : ∀ i : Nat, i ≤ 40 → Pc.N (y - s) p d i * Pc.N (y + s) p d i ≤ Pc.N y p d i * Pc.N y p d i
  | 0, _ => by
    show (1000000 * d + (y - s) * (d - p)) * (1000000 * d + (y + s) * (d - p)) ≤ (1000000 * d + y * (d - p)) * (1000000 * d + y * (d - p))
    rw [Int.sub_mul, Int.add_mul y s, ← Int.add_sub_assoc, ← Int.add_assoc]
    exact Pc.sq
  | i + 1, hi => by
    have ih := Pc.N_mid h0 h1 h2 i (by omega)
    have p0 := Pc.N_pos h0 (i := i) (by omega)
    have p1 := Pc.N_pos h1 (i := i) (by omega)
    have p2 := Pc.N_pos h2 (i := i) (by omega)
    obtain ⟨⟨y0, y1⟩, -⟩ := Pc.ok_iff.1 h0
    obtain ⟨⟨z0, z1⟩, -⟩ := Pc.ok_iff.1 h2
    show Pc.N (y - s) p d i * (1000000 + (y - s)) * (Pc.N (y + s) p d i * (1000000 + (y + s))) ≤ Pc.N y p d i * (1000000 + y) * (Pc.N y p d i * (1000000 + y))
    generalize Pc.N (y - s) p d i = a at *
    generalize Pc.N (y + s) p d i = b at *
    generalize Pc.N y p d i = c at *
    have g : (1000000 + (y - s)) * (1000000 + (y + s)) ≤ (1000000 + y) * (1000000 + y) := by
      rw [← Int.add_sub_assoc, ← Int.add_assoc]; exact Pc.sq
    have q1 : a * (1000000 + (y - s)) * (b * (1000000 + (y + s))) = a * b * ((1000000 + (y - s)) * (1000000 + (y + s))) := by
      generalize 1000000 + (y - s) = e; generalize 1000000 + (y + s) = f
      rw [Int.mul_assoc, Int.mul_left_comm e b f, ← Int.mul_assoc]
    have q2 : c * (1000000 + y) * (c * (1000000 + y)) = c * c * ((1000000 + y) * (1000000 + y)) := by
      generalize 1000000 + y = e
      rw [Int.mul_assoc, Int.mul_left_comm e c e, ← Int.mul_assoc]
    rw [q1, q2]
    exact Int.mul_le_mul ih g (Int.mul_nonneg (by omega) (by omega)) (Int.mul_nonneg (by omega) (by omega))
/-- Of three numbers, the middle one is at most the mean of the others. -/
theorem Pc.mean {a b c C N0 N1 N2 : Int} (hb : 0 ≤ b) (hc : 0 ≤ c) (ha : 0 ≤ a) (n0 : 1 ≤ N0) (n1 : 1 ≤ N1) (n2 : 1 ≤ N2) (hN : N0 * N2 ≤ N1 * N1) (h1 : a * N1 ≤ C) (h0 : C ≤ b * N0) (h2 : C ≤ c * N2) (hC : 0 ≤ C) : 2 * a ≤ b + c := by
  have k1 : a * N1 * (a * N1) ≤ C * C := Int.mul_le_mul h1 h1 (Int.mul_nonneg ha (by omega)) hC
  have k2 : C * C ≤ b * N0 * (c * N2) := Int.mul_le_mul h0 h2 hC (Int.mul_nonneg hb (by omega))
  have e1 : a * N1 * (a * N1) = a * a * (N1 * N1) := by rw [Int.mul_assoc, Int.mul_left_comm N1 a N1, ← Int.mul_assoc]
  have e2 : b * N0 * (c * N2) = b * c * (N0 * N2) := by rw [Int.mul_assoc, Int.mul_left_comm N0 c N2, ← Int.mul_assoc]
  have haa : 0 ≤ a * a := Int.mul_nonneg ha ha
  have k3 : a * a * (N0 * N2) ≤ a * a * (N1 * N1) := Int.mul_le_mul_of_nonneg_left hN haa
  have hp : 0 < N0 * N2 := Int.mul_pos (by omega) (by omega)
  have k4 : a * a ≤ b * c := Int.le_of_mul_le_mul_right (show a * a * (N0 * N2) ≤ b * c * (N0 * N2) by omega) hp
  rcases Int.lt_or_le (b + c) (2 * a) with q | q
  · exfalso
    have s1 : (b + c) * (b + c) < 2 * a * (2 * a) := by
      have t1 : (b + c) * (b + c) ≤ (b + c) * (2 * a) := Int.mul_le_mul_of_nonneg_left (by omega) (by omega)
      have t2 : (b + c) * (2 * a) < 2 * a * (2 * a) := Int.mul_lt_mul_of_pos_right q (by omega)
      omega
    have s2 : 0 ≤ (b - c) * (b - c) := by
      rcases Int.le_total 0 (b - c) with t | t
      · exact Int.mul_nonneg t t
      · exact Int.mul_nonneg_of_nonpos_of_nonpos t t
    have s3 : (b - c) * (b - c) = b * b - 2 * (b * c) + c * c := by rw [Int.sub_mul, Int.mul_sub, Int.mul_sub, Int.mul_comm c b]; omega
    have s4 : (b + c) * (b + c) = b * b + 2 * (b * c) + c * c := by rw [Int.add_mul, Int.mul_add, Int.mul_add, Int.mul_comm c b]; omega
    have s5 : 2 * a * (2 * a) = 4 * (a * a) := by rw [Int.mul_assoc, Int.mul_left_comm a 2 a]; omega
    omega
  · exact q
theorem Pc.d_mid {y s p d : Int} (h0 : Pc.ok (y - s) p d = true) (h1 : Pc.ok y p d = true) (h2 : Pc.ok (y + s) p d = true) {i : Nat} (hi : i ≤ 40) : 2 * Dc.dl (Dc.hi y p d i) ≤ Dc.dh (Dc.lo (y - s) p d i) + Dc.dh (Dc.lo (y + s) p d i) := by
  obtain ⟨-, ⟨d0, d1⟩, -⟩ := Pc.ok_iff.1 h1
  have hD := Pc.D_pos d0 i
  have hm := Pc.N_mid h0 h1 h2 i hi
  have p0 := Pc.N_pos h0 hi
  have p1 := Pc.N_pos h1 hi
  have p2 := Pc.N_pos h2 hi
  obtain ⟨a0, -⟩ := Pc.N_in h0 i hi
  obtain ⟨-, a1⟩ := Pc.N_in h1 i hi
  obtain ⟨a2, -⟩ := Pc.N_in h2 i hi
  obtain ⟨b0, b0', -⟩ := Dc.bd40 h0 (i := i) hi
  obtain ⟨b1, b1', -⟩ := Dc.bd40 h1 (i := i) hi
  obtain ⟨b2, b2', -⟩ := Dc.bd40 h2 (i := i) hi
  obtain ⟨c0, c0', -⟩ := Pc.d_bd h0 (i := i) hi
  obtain ⟨c1, c1', -⟩ := Pc.d_bd h1 (i := i) hi
  obtain ⟨c2, c2', -⟩ := Pc.d_bd h2 (i := i) hi
  generalize Dc.lo (y - s) p d i = l0 at *
  generalize Dc.hi y p d i = u1 at *
  generalize Dc.lo (y + s) p d i = l2 at *
  have e1 : Dc.dl u1 * u1 ≤ 1000000 * 1000000 := Int.ediv_mul_le _ (by omega)
  have e0 : (1000000 * 1000000 : Int) ≤ Dc.dh l0 * l0 := Rg.cl_mul_ge _ l0 (by omega)
  have e2 : (1000000 * 1000000 : Int) ≤ Dc.dh l2 * l2 := Rg.cl_mul_ge _ l2 (by omega)
  refine Pc.mean (C := 1000000 * 1000000 * Pc.D d i) (by omega) (by omega) (by omega) p0 p1 p2 hm ?_ ?_ ?_ (by omega)
  · have k1 := Int.mul_le_mul_of_nonneg_left a1 (show 0 ≤ Dc.dl u1 by omega)
    have k2 := Int.mul_le_mul_of_nonneg_right e1 (show 0 ≤ Pc.D d i by omega)
    rw [Int.mul_assoc] at k2
    omega
  · have k1 := Int.mul_le_mul_of_nonneg_left a0 (show 0 ≤ Dc.dh l0 by omega)
    have k2 := Int.mul_le_mul_of_nonneg_right e0 (show 0 ≤ Pc.D d i by omega)
    rw [Int.mul_assoc (Dc.dh l0)] at k2
    omega
  · have k1 := Int.mul_le_mul_of_nonneg_left a2 (show 0 ≤ Dc.dh l2 by omega)
    have k2 := Int.mul_le_mul_of_nonneg_right e2 (show 0 ≤ Pc.D d i by omega)
    rw [Int.mul_assoc (Dc.dh l2)] at k2
    omega
theorem Pc.mid {y s p d : Int} {am : List Int} (h0 : Pc.ok (y - s) p d = true) (h1 : Pc.ok y p d = true) (h2 : Pc.ok (y + s) p d = true) (ha : Pc.Am am) : ∀ k : Nat, k ≤ am.length → 2 * Pc.lo y p d am k ≤ Pc.hi (y - s) p d am k + Pc.hi (y + s) p d am k
  | 0, _ => by unfold Pc.lo Pc.hi; omega
  | k + 1, hk => by
    have ih := Pc.mid h0 h1 h2 ha k (by omega)
    obtain ⟨a0, -⟩ := ha.bd (show k < am.length by omega)
    have hm := Int.mul_le_mul_of_nonneg_left (Pc.d_mid h0 h1 h2 (i := k) (by have := ha.n40; omega)) a0
    rw [Int.mul_add, Int.mul_left_comm] at hm
    unfold Pc.lo Pc.hi
    omega
theorem Pc.val_mid {y s p d : Int} {am : List Int} (h0 : Pc.ok (y - s) p d = true) (h1 : Pc.ok y p d = true) (h2 : Pc.ok (y + s) p d = true) (ha : Pc.Am am) : 2 * (Pc.val y p d am).1 ≤ (Pc.val (y - s) p d am).2 + (Pc.val (y + s) p d am).2 := by
  have h := Pc.mid h0 h1 h2 ha am.length (Nat.le_refl _)
  show 2 * Rg.fl (Pc.lo y p d am am.length) ≤ Rg.cl (Pc.hi (y - s) p d am am.length) + Rg.cl (Pc.hi (y + s) p d am am.length)
  unfold Rg.fl Rg.cl
  omega
/-- One day before a single payment. -/
theorem Pc.val_end {y p d a : Int} (h : Pc.ok y p d = true) (hp : d = p + 1) (a0 : 0 ≤ a) (a1 : a ≤ 13000) : (Pc.val y p d [a]).2 ≤ a ∧ a * 1000000 / (1000000 + y) - 1 ≤ (Pc.val y p d [a]).1 := by
  obtain ⟨⟨y0, y1⟩, ⟨d0, d1⟩, -⟩ := Pc.ok_iff.1 h
  obtain ⟨b0, b1, b2⟩ := Dc.bd40 h (i := 0) (by omega)
  obtain ⟨c0, c1, c2⟩ := Pc.d_bd h (i := 0) (by omega)
  have e : Dc.hi y p d 0 ≤ 1000000 + y := by
    unfold Dc.hi
    rw [show y * (d - p) = y by rw [hp, show p + 1 - p = 1 by omega, Int.mul_one]]
    have : -((-y) / d) ≤ y := Dc.cl_le d0 (by have := Int.mul_le_mul_of_nonneg_left d0 y0; omega)
    omega
  have e1 : (Pc.val y p d [a]).1 = Rg.fl (0 + a * Dc.dl (Dc.hi y p d 0)) := rfl
  have e2 : (Pc.val y p d [a]).2 = Rg.cl (0 + a * Dc.dh (Dc.lo y p d 0)) := rfl
  rw [e1, e2]
  generalize Dc.lo y p d 0 = l at *
  generalize Dc.hi y p d 0 = u at *
  have e3 : 1000000 * 1000000 < (Dc.dl u + 1) * u := Int.lt_ediv_add_one_mul_self _ (by omega)
  generalize Dc.dl u = x at *
  generalize Dc.dh l = z at *
  constructor
  · have := Int.mul_le_mul_of_nonneg_left c2 a0
    unfold Rg.cl
    omega
  · have q := Int.ediv_mul_le (a * 1000000) (show 1000000 + y ≠ 0 by omega)
    generalize a * 1000000 / (1000000 + y) = Q at *
    unfold Rg.fl
    have k1 : (x + 1) * u ≤ (x + 1) * (1000000 + y) := Int.mul_le_mul_of_nonneg_left e (by omega)
    have k2 : a * (1000000 * 1000000) ≤ a * ((x + 1) * (1000000 + y)) := Int.mul_le_mul_of_nonneg_left (by omega) a0
    have k3 : a * ((x + 1) * (1000000 + y)) = (a * x + a) * (1000000 + y) := by rw [← Int.mul_assoc, show a * (x + 1) = a * x + a by rw [Int.mul_add, Int.mul_one]]
    have k4 : Q * 1000000 * (1000000 + y) ≤ (a * x + a) * (1000000 + y) := by
      have : Q * 1000000 * (1000000 + y) = Q * (1000000 + y) * 1000000 := by rw [Int.mul_assoc, Int.mul_comm 1000000, Int.mul_assoc]
      omega
    have k5 : Q * 1000000 ≤ a * x + a := Int.le_of_mul_le_mul_right k4 (by omega)
    omega
end Go.Proofs.YtkdooncfchmkfaaDoor

/- Yields: mathematics. -/
namespace Go.Proofs.YtkdooncfchmkfaaDoor
/-- The first index below n at which P holds, n if there is none. -/
def Yd.first (P : Nat → Bool) : Nat → Nat
  | 0 => 0
  | n + 1 => if Yd.first P n < n then Yd.first P n else if P n = true then n else n + 1
theorem Yd.first_le (P : Nat → Bool) : ∀ n, Yd.first P n ≤ n
  | 0 => Nat.le_refl _
  | n + 1 => by have := Yd.first_le P n; unfold Yd.first; split <;> try split <;> omega
                omega
theorem Yd.first_no (P : Nat → Bool) : ∀ n i, i < Yd.first P n → P i = false
  | 0, i, h => by unfold Yd.first at h; omega
  | n + 1, i, h => by
    have ih := Yd.first_no P n
    have hl := Yd.first_le P n
    unfold Yd.first at h
    split at h
    · exact ih i h
    · split at h
      · exact ih i (by omega)
      · rename_i c
        rcases Nat.lt_or_ge i n with q | q
        · exact ih i (by omega)
        · obtain rfl : i = n := by omega
          simpa using c
theorem Yd.first_yes (P : Nat → Bool) : ∀ n, Yd.first P n < n → P (Yd.first P n) = true
  | 0, h => by omega
  | n + 1, h => by
    have ih := Yd.first_yes P n
    unfold Yd.first at h ⊢
    split
    · rename_i c; exact ih c
    · split
      · rename_i c; exact c
      · rename_i c d; rw [if_neg c, if_neg d] at h; omega
theorem Yd.first_is {P : Nat → Bool} {n k : Nat} (hk : k ≤ n) (h1 : ∀ i, i < k → P i = false) (h2 : k < n → P k = true) : Yd.first P n = k := by
  rcases Nat.lt_trichotomy (Yd.first P n) k with c | c | c
  · have := Yd.first_yes P n (by omega)
    rw [h1 _ c] at this; cases this
  · exact c
  · have := Yd.first_no P n k c
    have hl := Yd.first_le P n
    rw [h2 (by omega)] at this; cases this
/-- The bounds of a price at a number of steps. -/
def Yd.L (p d : Int) (am : List Int) (i : Nat) : Int := (Pc.val (2500 * (i : Int)) p d am).1
def Yd.H (p d : Int) (am : List Int) (i : Nat) : Int := (Pc.val (2500 * (i : Int)) p d am).2
def Yd.PL (p d : Int) (am : List Int) (x : Int) (i : Nat) : Bool := decide (Yd.L p d am i < x)
def Yd.PH (p d : Int) (am : List Int) (x : Int) (i : Nat) : Bool := decide (Yd.H p d am i ≤ x)
def Yd.kl (p d : Int) (am : List Int) (x : Int) : Nat := Yd.first (Yd.PL p d am x) 41
def Yd.km (p d : Int) (am : List Int) (x : Int) : Nat := Yd.first (Yd.PH p d am x) 41
def Yd.least (k : Nat) : Int := if k = 0 then -1 else 2500 * ((k : Int) - 1)
def Yd.most (k n : Nat) : Int := if k < n then 2500 * (k : Int) else -1
theorem Yd.ok {p d : Int} (h : Pc.ok 0 p d = true) {i : Nat} (hi : i ≤ 40) : Pc.ok (2500 * (i : Int)) p d = true := by
  obtain ⟨-, h2, h3⟩ := Pc.ok_iff.1 h
  exact Pc.ok_iff.2 ⟨⟨by omega, by omega⟩, h2, h3⟩
theorem Yd.down {p d : Int} {am : List Int} (h : Pc.ok 0 p d = true) (ha : Pc.Am am) {i j : Nat} (hij : i ≤ j) (hj : j ≤ 40) : Yd.L p d am j ≤ Yd.L p d am i ∧ Yd.H p d am j ≤ Yd.H p d am i :=
  Pc.val_mono (Yd.ok h (by omega)) (Yd.ok h hj) (by omega) ha
/-- One more step of the model. -/
theorem Yd.least_step {p d x : Int} {am : List Int} (h : Pc.ok 0 p d = true) (ha : Pc.Am am) {k : Nat} (hk : k ≤ 40) :
    Yd.least (Yd.first (Yd.PL p d am x) (k + 1)) = if x ≤ Yd.L p d am k then 2500 * (k : Int) else Yd.least (Yd.first (Yd.PL p d am x) k) := by
  have hl := Yd.first_le (Yd.PL p d am x) k
  have hy := Yd.first_yes (Yd.PL p d am x) k
  by_cases c : x ≤ Yd.L p d am k
  · rw [if_pos c]
    have hf : Yd.first (Yd.PL p d am x) k = k := by
      rcases Nat.lt_or_ge (Yd.first (Yd.PL p d am x) k) k with q | q
      · have h1 := of_decide_eq_true (hy q)
        have h2 := (Yd.down h ha (i := Yd.first (Yd.PL p d am x) k) (j := k) (by omega) hk).1
        omega
      · omega
    have e : Yd.first (Yd.PL p d am x) (k + 1) = k + 1 := by
      show (if Yd.first (Yd.PL p d am x) k < k then _ else _) = k + 1
      rw [if_neg (by omega), if_neg (by unfold Yd.PL; simp; omega)]
    rw [e]
    unfold Yd.least
    rw [if_neg (by omega)]
    omega
  · rw [if_neg c]
    have e : Yd.first (Yd.PL p d am x) (k + 1) = Yd.first (Yd.PL p d am x) k := by
      show (if Yd.first (Yd.PL p d am x) k < k then _ else _) = _
      by_cases q : Yd.first (Yd.PL p d am x) k < k
      · rw [if_pos q]
      · rw [if_neg q, if_pos (by unfold Yd.PL; simp; omega)]; omega
    rw [e]
theorem Yd.most_step {p d x : Int} {am : List Int} {k : Nat} :
    Yd.most (Yd.first (Yd.PH p d am x) (k + 1)) (k + 1) = if Yd.H p d am k ≤ x ∧ Yd.most (Yd.first (Yd.PH p d am x) k) k < 0 then 2500 * (k : Int) else Yd.most (Yd.first (Yd.PH p d am x) k) k := by
  have hl := Yd.first_le (Yd.PH p d am x) k
  have e : Yd.first (Yd.PH p d am x) (k + 1) = if Yd.first (Yd.PH p d am x) k < k then Yd.first (Yd.PH p d am x) k else if Yd.PH p d am x k = true then k else k + 1 := rfl
  by_cases q : Yd.first (Yd.PH p d am x) k < k
  · rw [if_pos q] at e
    rw [e]
    have e2 : Yd.most (Yd.first (Yd.PH p d am x) k) k = 2500 * ((Yd.first (Yd.PH p d am x) k : Nat) : Int) := if_pos q
    rw [if_neg (fun c => by have := c.2; omega), e2]
    unfold Yd.most
    rw [if_pos (by omega)]
  · rw [if_neg q] at e
    have e2 : Yd.most (Yd.first (Yd.PH p d am x) k) k = -1 := if_neg q
    rw [e2]
    by_cases c : Yd.H p d am k ≤ x
    · rw [if_pos (by unfold Yd.PH; exact decide_eq_true c)] at e
      rw [e, if_pos ⟨c, by omega⟩]
      unfold Yd.most
      rw [if_pos (by omega)]
    · rw [if_neg (by unfold Yd.PH; simp; omega)] at e
      rw [e, if_neg (fun k => c k.1)]
      unfold Yd.most
      rw [if_neg (by omega)]
theorem Yd.least_says {p d x : Int} {am : List Int} {k : Nat} (hk : k = Yd.kl p d am x) : (Yd.least k = -1 ∧ k = 0) ∨ ∃ i : Nat, i ≤ 40 ∧ k = i + 1 ∧ Yd.least k = 2500 * (i : Int) ∧ x ≤ Yd.L p d am i ∧ (i < 40 → Yd.L p d am (i + 1) < x) := by
  have hl := Yd.first_le (Yd.PL p d am x) 41
  have hn := Yd.first_no (Yd.PL p d am x) 41
  have hy := Yd.first_yes (Yd.PL p d am x) 41
  have hk' : k = Yd.first (Yd.PL p d am x) 41 := hk
  rw [← hk'] at hl hn hy
  rcases Nat.eq_zero_or_pos k with c | c
  · exact .inl ⟨by rw [c]; rfl, c⟩
  · refine .inr ⟨k - 1, by omega, by omega, ?_, ?_, fun q => ?_⟩
    · unfold Yd.least; rw [if_neg (by omega)]; omega
    · have := of_decide_eq_false (hn (k - 1) (by omega)); omega
    · rw [show k - 1 + 1 = k by omega]; exact of_decide_eq_true (hy (by omega))
theorem Yd.most_says {p d x : Int} {am : List Int} {k : Nat} (hk : k = Yd.km p d am x) : (Yd.most k 41 = -1 ∧ k = 41) ∨ (k ≤ 40 ∧ Yd.most k 41 = 2500 * (k : Int) ∧ Yd.H p d am k ≤ x ∧ (0 < k → x < Yd.H p d am (k - 1))) := by
  have hl := Yd.first_le (Yd.PH p d am x) 41
  have hn := Yd.first_no (Yd.PH p d am x) 41
  have hy := Yd.first_yes (Yd.PH p d am x) 41
  have hk' : k = Yd.first (Yd.PH p d am x) 41 := hk
  rw [← hk'] at hl hn hy
  rcases Nat.lt_or_ge k 41 with c | c
  · refine .inr ⟨by omega, if_pos c, of_decide_eq_true (hy c), fun q => ?_⟩
    have := of_decide_eq_false (hn (k - 1) (by omega))
    omega
  · exact .inl ⟨if_neg (by omega), by omega⟩
/-- The first yield isn't greater than the second one. -/
theorem Yd.order {p d x : Int} {am : List Int} (h : Pc.ok 0 p d = true) (hp : p < d) (ha : Pc.Am am) {i k : Nat} (hi : i ≤ 40) (hk : k ≤ 40) (h1 : x ≤ Yd.L p d am i) (h2 : Yd.H p d am k ≤ x) : 2500 * (i : Int) ≤ 2500 * (k : Int) := by
  rcases Nat.lt_or_ge k i with c | c
  · exact (Pc.val_lt (Yd.ok h hk) (Yd.ok h hi) (by omega) hp ha h2 h1).elim
  · omega
theorem Yd.zeroL {p d : Int} {am : List Int} (h : Pc.ok 0 p d = true) (ha : Pc.Am am) : Yd.L p d am 0 = Pc.sum am am.length ∧ Yd.H p d am 0 = Pc.sum am am.length := by
  have e := Pc.val_zero (am := am) h ha.n40
  constructor
  · show (Pc.val (2500 * ((0 : Nat) : Int)) p d am).1 = _
    rw [show 2500 * ((0 : Nat) : Int) = 0 by decide, e]
  · show (Pc.val (2500 * ((0 : Nat) : Int)) p d am).2 = _
    rw [show 2500 * ((0 : Nat) : Int) = 0 by decide, e]
/-- The sum of all payments am the price. -/
theorem Yd.at_sum {p d : Int} {am : List Int} (h : Pc.ok 0 p d = true) (ha : Pc.Am am) : 0 < Yd.kl p d am (Pc.sum am am.length) ∧ Yd.km p d am (Pc.sum am am.length) = 0 ∧ Yd.kl p d am (Pc.sum am am.length + 1) = 0 := by
  obtain ⟨e1, e2⟩ := Yd.zeroL h ha
  refine ⟨?_, ?_, ?_⟩
  · rcases Nat.eq_zero_or_pos (Yd.kl p d am (Pc.sum am am.length)) with c | c
    · have := Yd.first_yes (Yd.PL p d am (Pc.sum am am.length)) 41 (by unfold Yd.kl at c; omega)
      unfold Yd.kl at c
      rw [c] at this
      have := of_decide_eq_true this
      omega
    · exact c
  · exact Yd.first_is (by omega) (fun i hi => by omega) (fun _ => by unfold Yd.PH; exact decide_eq_true (by omega))
  · exact Yd.first_is (by omega) (fun i hi => by omega) (fun _ => by unfold Yd.PL; exact decide_eq_true (by omega))
end Go.Proofs.YtkdooncfchmkfaaDoor
