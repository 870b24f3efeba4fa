/- Plain mathematics: ranges of numbers in millionths. -/
namespace Go.Proofs.YtkdooncfchmkfaaDoor
namespace Rg
abbrev R := Int × Int × Bool
def vr (l h : Int) : Bool := decide (-2000000000 ≤ l ∧ l ≤ h ∧ h ≤ 2000000000)
theorem vr_iff {l h : Int} : vr l h = true ↔ -2000000000 ≤ l ∧ l ≤ h ∧ h ≤ 2000000000 := by unfold vr; simp
theorem vr_f {l h : Int} (n : ¬ (-2000000000 ≤ l ∧ l ≤ h ∧ h ≤ 2000000000)) : vr l h = false := by unfold vr; exact decide_eq_false n
def no : R := (0, 0, false)
def chk (p q : Int) : R := if vr p q = true then (p, q, true) else no
def add (a b c d : Int) : R := if vr a b = true ∧ vr c d = true then chk (a + c) (b + d) else no
def pl (a b c d : Int) : Int := min (min (min (a * c) (a * d)) (b * c)) (b * d)
def ph (a b c d : Int) : Int := max (max (max (a * c) (a * d)) (b * c)) (b * d)
def fl (x : Int) : Int := x / 1000000
def cl (x : Int) : Int := -((-x) / 1000000)
def mul (a b c d : Int) : R := if vr a b = true ∧ vr c d = true then chk (fl (pl a b c d)) (cl (ph a b c d)) else no
def dok (a b c d : Int) : Bool := decide (vr a b = true ∧ vr c d = true ∧ 0 ≤ a ∧ 0 < c)
theorem dok_iff {a b c d : Int} : dok a b c d = true ↔ vr a b = true ∧ vr c d = true ∧ 0 ≤ a ∧ 0 < c := by unfold dok; simp
def div (a b c d : Int) : R := if dok a b c d = true then chk (a * 1000000 / d) (-((-(b * 1000000)) / c)) else no
def pw (a b : Int) : Nat → R
  | 0 => (1000000, 1000000, true)
  | n + 1 => if (pw a b n).2.2 = true then mul (pw a b n).1 (pw a b n).2.1 a b else no
def pok (a b n : Int) : Bool := decide (vr a b = true ∧ 0 ≤ a ∧ 0 ≤ n ∧ n ≤ 40)
theorem pok_iff {a b n : Int} : pok a b n = true ↔ vr a b = true ∧ 0 ≤ a ∧ 0 ≤ n ∧ n ≤ 40 := by unfold pok; simp
def pow (a b n : Int) : R := if pok a b n = true then pw a b n.toNat else no
theorem chk_eq {p q : Int} (h : vr p q = true) : chk p q = (p, q, true) := by unfold chk; rw [if_pos h]
theorem chk_no {p q : Int} (h : vr p q = false) : chk p q = no := by unfold chk; rw [if_neg (by rw [h]; decide)]
theorem chk_two (p q : Int) : (chk p q = (p, q, true) ∧ vr p q = true) ∨ chk p q = no := by
  cases h : vr p q with
  | true => exact .inl ⟨chk_eq h, rfl⟩
  | false => exact .inr (chk_no h)
/-- What a valid answer is. -/
def Good (r : R) : Prop := (r.2.2 = true ∧ vr r.1 r.2.1 = true) ∨ r = no
theorem good_chk (p q : Int) : Good (chk p q) := by
  rcases chk_two p q with ⟨h, k⟩ | h
  · left; rw [h]; exact ⟨rfl, k⟩
  · right; exact h
theorem good_no : Good no := .inr rfl
theorem good_add (a b c d : Int) : Good (add a b c d) := by unfold add; split; exact good_chk _ _; exact good_no
theorem good_mul (a b c d : Int) : Good (mul a b c d) := by unfold mul; split; exact good_chk _ _; exact good_no
theorem good_div (a b c d : Int) : Good (div a b c d) := by unfold div; split; exact good_chk _ _; exact good_no
theorem good_pw (a b : Int) : ∀ n, Good (pw a b n)
  | 0 => .inl ⟨rfl, show vr 1000000 1000000 = true by decide⟩
  | n + 1 => by unfold pw; split; exact good_mul _ _ _ _; exact good_no
theorem good_pow (a b n : Int) : Good (pow a b n) := by unfold pow; split; exact good_pw _ _ _; exact good_no
theorem add_two {a b c d p q : Int} (h : add a b c d = (p, q, true)) : vr a b = true ∧ vr c d = true ∧ p = a + c ∧ q = b + d ∧ vr p q = true := by
  unfold add at h
  split at h
  · next k =>
    rcases chk_two (a + c) (b + d) with ⟨e, v⟩ | e
    · rw [e] at h; injection h with h1 h2; injection h2 with h2 _; subst h1 h2; exact ⟨k.1, k.2, rfl, rfl, v⟩
    · rw [e] at h; unfold no at h; injection h with _ h2; injection h2 with _ h3; cases h3
  · unfold no at h; injection h with _ h2; injection h2 with _ h3; cases h3
theorem mul_two {a b c d p q : Int} (h : mul a b c d = (p, q, true)) : vr a b = true ∧ vr c d = true ∧ p = fl (pl a b c d) ∧ q = cl (ph a b c d) ∧ vr p q = true := by
  unfold mul at h
  split at h
  · next k =>
    rcases chk_two (fl (pl a b c d)) (cl (ph a b c d)) with ⟨e, v⟩ | e
    · rw [e] at h; injection h with h1 h2; injection h2 with h2 _; subst h1 h2; exact ⟨k.1, k.2, rfl, rfl, v⟩
    · rw [e] at h; unfold no at h; injection h with _ h2; injection h2 with _ h3; cases h3
  · unfold no at h; injection h with _ h2; injection h2 with _ h3; cases h3
theorem div_two {a b c d p q : Int} (h : div a b c d = (p, q, true)) : dok a b c d = true ∧ p = a * 1000000 / d ∧ q = -((-(b * 1000000)) / c) ∧ vr p q = true := by
  unfold div at h
  split at h
  · next k =>
    rcases chk_two (a * 1000000 / d) (-((-(b * 1000000)) / c)) with ⟨e, v⟩ | e
    · rw [e] at h; injection h with h1 h2; injection h2 with h2 _; subst h1 h2; exact ⟨k, rfl, rfl, v⟩
    · rw [e] at h; unfold no at h; injection h with _ h2; injection h2 with _ h3; cases h3
  · unfold no at h; injection h with _ h2; injection h2 with _ h3; cases h3
theorem ab_bd {a b A : Int} (h1 : -A ≤ a) (h2 : a ≤ A) (h3 : -A ≤ b) (h4 : b ≤ A) : -(A * A) ≤ a * b ∧ a * b ≤ A * A := by
  have h : (a * b).natAbs ≤ A.natAbs * A.natAbs := by
    rw [Int.natAbs_mul]; exact Nat.mul_le_mul (by omega) (by omega)
  have e : ((A.natAbs * A.natAbs : Nat) : Int) = A * A := by rw [← Int.natAbs_mul]; exact Int.natAbs_of_nonneg (by have := Int.mul_nonneg (show 0 ≤ A by omega) (show 0 ≤ A by omega); exact this)
  omega
theorem prod_bd {a b : Int} (h1 : -2000000000 ≤ a) (h2 : a ≤ 2000000000) (h3 : -2000000000 ≤ b) (h4 : b ≤ 2000000000) : -4000000000000000000 ≤ a * b ∧ a * b ≤ 4000000000000000000 := by
  have := ab_bd (A := 2000000000) h1 h2 h3 h4
  omega
theorem div_no {a b c d : Int} (h : ¬ (vr a b = true ∧ vr c d = true ∧ 0 ≤ a ∧ 0 < c)) : div a b c d = no := by
  unfold div; rw [if_neg (fun k => h (dok_iff.1 k))]
theorem div_yes {a b c d : Int} (h : vr a b = true ∧ vr c d = true ∧ 0 ≤ a ∧ 0 < c) : div a b c d = chk (a * 1000000 / d) (-((-(b * 1000000)) / c)) := by
  unfold div; rw [if_pos (dok_iff.2 h)]
theorem pl_le {a b c d : Int} : pl a b c d ≤ a * c ∧ pl a b c d ≤ a * d ∧ pl a b c d ≤ b * c ∧ pl a b c d ≤ b * d := by unfold pl; omega
theorem ph_ge {a b c d : Int} : a * c ≤ ph a b c d ∧ a * d ≤ ph a b c d ∧ b * c ≤ ph a b c d ∧ b * d ≤ ph a b c d := by unfold ph; omega
theorem pl_comm (a b c d : Int) : pl c d a b = pl a b c d := by
  unfold pl; rw [Int.mul_comm c a, Int.mul_comm c b, Int.mul_comm d a, Int.mul_comm d b]; omega
theorem ph_comm (a b c d : Int) : ph c d a b = ph a b c d := by
  unfold ph; rw [Int.mul_comm c a, Int.mul_comm c b, Int.mul_comm d a, Int.mul_comm d b]; omega
theorem mul_comm (a b c d : Int) : mul c d a b = mul a b c d := by
  unfold mul; rw [pl_comm, ph_comm]
  by_cases h : vr a b = true ∧ vr c d = true
  · rw [if_pos h, if_pos ⟨h.2, h.1⟩]
  · rw [if_neg h, if_neg (fun k => h ⟨k.2, k.1⟩)]
theorem add_comm (a b c d : Int) : add c d a b = add a b c d := by
  unfold add; rw [Int.add_comm c a, Int.add_comm d b]
  by_cases h : vr a b = true ∧ vr c d = true
  · rw [if_pos h, if_pos ⟨h.2, h.1⟩]
  · rw [if_neg h, if_neg (fun k => h ⟨k.2, k.1⟩)]
theorem mul_one {a b : Int} (h : vr a b = true) : mul a b 1000000 1000000 = (a, b, true) := by
  have k := vr_iff.1 h
  unfold mul
  rw [if_pos ⟨h, by decide⟩]
  have e1 : fl (pl a b 1000000 1000000) = a := by unfold fl pl; omega
  have e2 : cl (ph a b 1000000 1000000) = b := by unfold cl ph; omega
  rw [e1, e2, chk_eq h]
theorem one_mul {a b : Int} (h : vr a b = true) : mul 1000000 1000000 a b = (a, b, true) := by rw [mul_comm]; exact mul_one h
theorem div_one {a b : Int} (h : vr a b = true) (h0 : 0 ≤ a) : div a b 1000000 1000000 = (a, b, true) := by
  unfold div
  rw [if_pos (dok_iff.2 ⟨h, by decide, h0, by decide⟩)]
  have e1 : a * 1000000 / 1000000 = a := by omega
  have e2 : -((-(b * 1000000)) / 1000000) = b := by omega
  rw [e1, e2, chk_eq h]
theorem mul_has {a b c d p q : Int} (h : mul a b c d = (p, q, true)) :
    (p * 1000000 ≤ a * c ∧ p * 1000000 ≤ a * d ∧ p * 1000000 ≤ b * c ∧ p * 1000000 ≤ b * d) ∧ (a * c ≤ q * 1000000 ∧ a * d ≤ q * 1000000 ∧ b * c ≤ q * 1000000 ∧ b * d ≤ q * 1000000) := by
  obtain ⟨-, -, rfl, rfl, -⟩ := mul_two h
  have k1 := pl_le (a := a) (b := b) (c := c) (d := d)
  have k2 := ph_ge (a := a) (b := b) (c := c) (d := d)
  unfold fl cl
  generalize pl a b c d = x at *
  generalize ph a b c d = y at *
  omega
theorem mul_inside {a b c d p q : Int} (h : mul a b c d = (p, q, true)) : ∃ x y, mul a a c d = (x, y, true) ∧ p ≤ x ∧ y ≤ q := by
  obtain ⟨va, vc, rfl, rfl, v⟩ := mul_two h
  have ka := vr_iff.1 va
  have kc := vr_iff.1 vc
  have kv := vr_iff.1 v
  have hx : fl (pl a b c d) ≤ fl (pl a a c d) := by unfold fl pl; omega
  have hy : cl (ph a a c d) ≤ cl (ph a b c d) := by unfold cl ph; omega
  have hxy : fl (pl a a c d) ≤ cl (ph a a c d) := by unfold fl cl pl ph; omega
  refine ⟨_, _, ?_, hx, hy⟩
  unfold mul
  rw [if_pos ⟨vr_iff.2 (by omega), vc⟩, chk_eq (vr_iff.2 (by omega))]
theorem div_nn {a b c d p q : Int} (h : div a b c d = (p, q, true)) : 0 ≤ p := by
  obtain ⟨k, rfl, -, -⟩ := div_two h
  obtain ⟨va, vc, h0, h1⟩ := dok_iff.1 k
  have kc := vr_iff.1 vc
  exact Int.ediv_nonneg (by omega) (by omega)
theorem fl_mul_le (x d : Int) (hd : 0 < d) : x / d * d ≤ x := Int.ediv_mul_le x (by omega)
theorem cl_mul_ge (x d : Int) (hd : 0 < d) : x ≤ (-((-x) / d)) * d := by
  have := fl_mul_le (-x) d hd
  rw [Int.neg_mul]; omega
theorem div_mul {a b c d p q x y : Int} (h : div a b c d = (p, q, true)) (h2 : mul p q c d = (x, y, true)) : x ≤ a ∧ b ≤ y := by
  have hp := div_nn h
  obtain ⟨k, hp1, hq1, -⟩ := div_two h
  obtain ⟨va, vc, h0, h1⟩ := dok_iff.1 k
  have kc := vr_iff.1 vc
  have ka := vr_iff.1 va
  obtain ⟨⟨m1, m2, m3, m4⟩, n1, n2, n3, n4⟩ := mul_has h2
  have e1 := fl_mul_le (a * 1000000) d (by omega)
  have e2 := cl_mul_ge (b * 1000000) c h1
  rw [← hp1] at e1
  rw [← hq1] at e2
  omega
theorem div_self {c d p q : Int} (h : div c d c d = (p, q, true)) : p ≤ 1000000 ∧ 1000000 ≤ q ∧ vr p q = true := by
  obtain ⟨k, hp1, hq1, v⟩ := div_two h
  obtain ⟨va, vc, h0, h1⟩ := dok_iff.1 k
  have kc := vr_iff.1 vc
  have e1 := fl_mul_le (c * 1000000) d (by omega)
  have e2 := cl_mul_ge (d * 1000000) c h1
  rw [← hp1] at e1
  rw [← hq1] at e2
  refine ⟨?_, ?_, v⟩
  · rcases Int.lt_or_le 1000000 p with g | g
    · have := Int.mul_le_mul_of_nonneg_right (show 1000001 ≤ p by omega) (show 0 ≤ d by omega)
      omega
    · exact g
  · rcases Int.lt_or_le q 1000000 with g | g
    · have := Int.mul_le_mul_of_nonneg_right (show q ≤ 999999 by omega) (show 0 ≤ c by omega)
      omega
    · exact g
theorem pw_next {a b : Int} {n : Nat} {x y : Int} (h : pw a b n = (x, y, true)) : pw a b (n + 1) = mul x y a b := by
  rw [pw, h, if_pos rfl]
theorem pw_stop {a b : Int} {n : Nat} (h : pw a b n = no) : ∀ k, pw a b (n + k) = no
  | 0 => h
  | k + 1 => by
    show pw a b (n + k + 1) = no
    rw [pw, pw_stop h k, if_neg (by decide)]
theorem pow_yes' {a b n : Int} (h : pok a b n = true) : pow a b n = pw a b n.toNat := by unfold pow; rw [if_pos h]
theorem pow_no {a b n : Int} (h : pok a b n = false) : pow a b n = no := by unfold pow; rw [if_neg (by rw [h]; decide)]
theorem pok_f {a b n : Int} (h : ¬ (vr a b = true ∧ 0 ≤ a ∧ 0 ≤ n ∧ n ≤ 40)) : pok a b n = false := by unfold pok; exact decide_eq_false h
theorem pw_nn {a b : Int} (h0 : 0 ≤ a) (hv : vr a b = true) : ∀ n, 0 ≤ (pw a b n).1 ∧ 0 ≤ (pw a b n).2.1
  | 0 => by simp [pw]
  | n + 1 => by
    have ih := pw_nn h0 hv n
    have kv := vr_iff.1 hv
    unfold pw
    split
    · generalize (pw a b n).1 = x at *
      generalize (pw a b n).2.1 = y at *
      rcases good_mul x y a b with ⟨g, v⟩ | g
      · obtain ⟨p, q, t, e⟩ : ∃ p q t, mul x y a b = (p, q, t) := ⟨_, _, _, rfl⟩
        rw [e] at g
        simp at g
        subst g
        obtain ⟨-, -, rfl, rfl, -⟩ := mul_two e
        rw [e]
        have m1 := Int.mul_nonneg ih.1 h0
        have m2 := Int.mul_nonneg ih.1 (show 0 ≤ b by omega)
        have m3 := Int.mul_nonneg ih.2 h0
        have m4 := Int.mul_nonneg ih.2 (show 0 ≤ b by omega)
        constructor
        · show 0 ≤ fl (pl x y a b)
          unfold fl pl; omega
        · show 0 ≤ cl (ph x y a b)
          unfold cl ph; omega
      · rw [g]; simp [no]
    · simp [no]
/-- Between the powers of the bounds. -/
theorem pw_real {a b : Int} (h0 : 0 ≤ a) (hv : vr a b = true) : ∀ n, (pw a b n).2.2 = true → (pw a b n).1 * 1000000 ^ n ≤ 1000000 * a ^ n ∧ 1000000 * a ^ n ≤ (pw a b n).2.1 * 1000000 ^ n
  | 0, _ => by simp [pw]
  | n + 1, ht => by
    have ih := pw_real h0 hv n
    have hn := pw_nn h0 hv n
    have kv := vr_iff.1 hv
    unfold pw at ht ⊢
    split at ht
    · next k =>
      rw [if_pos k]
      have ih := ih k
      generalize (pw a b n).1 = x at *
      generalize (pw a b n).2.1 = y at *
      obtain ⟨p, q, t, e⟩ : ∃ p q t, mul x y a b = (p, q, t) := ⟨_, _, _, rfl⟩
      rw [e] at ht ⊢
      simp at ht
      subst ht
      obtain ⟨⟨m1, m2, m3, m4⟩, n1, n2, n3, n4⟩ := mul_has e
      show p * 1000000 ^ (n + 1) ≤ 1000000 * a ^ (n + 1) ∧ 1000000 * a ^ (n + 1) ≤ q * 1000000 ^ (n + 1)
      have hM : (0:Int) ≤ 1000000 ^ n := Int.pow_nonneg (by decide)
      rw [Int.pow_succ, Int.pow_succ]
      constructor
      · have s1 := Int.mul_le_mul_of_nonneg_right m1 hM
        have s2 := Int.mul_le_mul_of_nonneg_right ih.1 h0
        calc p * (1000000 ^ n * 1000000) = p * 1000000 * 1000000 ^ n := by rw [Int.mul_comm (1000000 ^ n), Int.mul_assoc]
          _ ≤ x * a * 1000000 ^ n := s1
          _ = x * 1000000 ^ n * a := by rw [Int.mul_assoc, Int.mul_comm a, ← Int.mul_assoc]
          _ ≤ 1000000 * a ^ n * a := s2
          _ = 1000000 * (a ^ n * a) := Int.mul_assoc _ _ _
      · have s1 := Int.mul_le_mul_of_nonneg_right n3 hM
        have s2 := Int.mul_le_mul_of_nonneg_right ih.2 h0
        calc 1000000 * (a ^ n * a) = 1000000 * a ^ n * a := (Int.mul_assoc _ _ _).symm
          _ ≤ y * 1000000 ^ n * a := s2
          _ = y * a * 1000000 ^ n := by rw [Int.mul_assoc, Int.mul_comm (1000000 ^ n), ← Int.mul_assoc]
          _ ≤ q * 1000000 * 1000000 ^ n := s1
          _ = q * (1000000 ^ n * 1000000) := by rw [Int.mul_assoc, Int.mul_comm 1000000 (1000000 ^ n)]
    · simp [no] at ht
theorem pw_sum {a b : Int} (h0 : 0 ≤ a) (hv : vr a b = true) (n : Nat) {x1 x2 y1 y2 z1 z2 c1 c2 : Int}
    (hx : pw a b n = (x1, x2, true)) (hy : pw a b 2 = (y1, y2, true)) (hz : mul x1 x2 y1 y2 = (z1, z2, true)) (hc : pw a b (n + 2) = (c1, c2, true)) : z1 ≤ c2 ∧ c1 ≤ z2 := by
  have rx := pw_real h0 hv n (by rw [hx])
  have ry := pw_real h0 hv 2 (by rw [hy])
  have rc := pw_real h0 hv (n + 2) (by rw [hc])
  have nx := pw_nn h0 hv n
  have ny := pw_nn h0 hv 2
  rw [hx] at rx nx
  rw [hy] at ry ny
  rw [hc] at rc
  obtain ⟨⟨m1, m2, m3, m4⟩, n1, n2, n3, n4⟩ := mul_has hz
  simp only at rx ry rc nx ny
  have hM : (0:Int) < 1000000 ^ (n + 2) := Int.pow_pos (by decide)
  have hMn : (0:Int) ≤ 1000000 ^ n := Int.pow_nonneg (by decide)
  have ha : (0:Int) ≤ a ^ n := Int.pow_nonneg h0
  have e2 : (1000000:Int) ^ (n + 2) = 1000000 ^ n * 1000000 ^ 2 := Int.pow_add _ _ _
  have e3 : a ^ (n + 2) = a ^ n * a ^ 2 := Int.pow_add _ _ _
  have ha2 : (0:Int) ≤ a ^ 2 := Int.pow_nonneg h0
  have hM2 : (0:Int) ≤ 1000000 ^ 2 := by decide
  generalize (1000000:Int) ^ n = Mn at *
  generalize (1000000:Int) ^ 2 = M2 at *
  generalize a ^ n = an at *
  generalize a ^ 2 = a2 at *
  rw [e2] at hM rc
  rw [e3] at rc
  have lo : x1 * y1 * (Mn * M2) ≤ (1000000 * an) * (1000000 * a2) := by
    have := Int.mul_le_mul rx.1 ry.1 (Int.mul_nonneg ny.1 hM2) (Int.mul_nonneg (by decide) ha)
    calc x1 * y1 * (Mn * M2) = x1 * Mn * (y1 * M2) := by rw [Int.mul_assoc, Int.mul_left_comm y1, ← Int.mul_assoc]
      _ ≤ _ := this
  have hi : (1000000 * an) * (1000000 * a2) ≤ x2 * y2 * (Mn * M2) := by
    have := Int.mul_le_mul rx.2 ry.2 (Int.mul_nonneg (by decide) ha2) (Int.mul_nonneg nx.2 hMn)
    calc _ ≤ x2 * Mn * (y2 * M2) := this
      _ = x2 * y2 * (Mn * M2) := by rw [Int.mul_assoc, Int.mul_left_comm Mn, ← Int.mul_assoc]
  have ee : (1000000 * an) * (1000000 * a2) = 1000000 * (1000000 * (an * a2)) := by rw [Int.mul_assoc, Int.mul_left_comm an]
  rw [ee] at lo hi
  constructor
  · apply Int.le_of_mul_le_mul_right _ hM
    have s := Int.mul_le_mul_of_nonneg_right m1 (Int.le_of_lt hM)
    have s' : z1 * 1000000 * (Mn * M2) = 1000000 * (z1 * (Mn * M2)) := by rw [Int.mul_comm z1, Int.mul_assoc]
    rw [s'] at s
    generalize z1 * (Mn * M2) = u at *
    generalize c2 * (Mn * M2) = v at *
    generalize x1 * y1 * (Mn * M2) = t at *
    generalize an * a2 = g at *
    omega
  · apply Int.le_of_mul_le_mul_right _ hM
    have s := Int.mul_le_mul_of_nonneg_right n4 (Int.le_of_lt hM)
    have s' : z2 * 1000000 * (Mn * M2) = 1000000 * (z2 * (Mn * M2)) := by rw [Int.mul_comm z2, Int.mul_assoc]
    rw [s'] at s
    generalize z2 * (Mn * M2) = u at *
    generalize c1 * (Mn * M2) = v at *
    generalize x2 * y2 * (Mn * M2) = t at *
    generalize an * a2 = g at *
    omega
theorem add_three {a b c d p q l1 l2 r1 r2 : Int} (h : add a b c d = (p, q, true)) (hl : add p q a b = (l1, l2, true)) (hr : add c d a b = (r1, r2, true)) :
    add a b r1 r2 = (l1, l2, true) := by
  obtain ⟨va, vc, rfl, rfl, vp⟩ := add_two h
  obtain ⟨-, -, rfl, rfl, vl⟩ := add_two hl
  obtain ⟨-, -, rfl, rfl, vr'⟩ := add_two hr
  unfold add
  rw [if_pos ⟨va, vr'⟩]
  have e1 : a + (c + a) = a + c + a := by omega
  have e2 : b + (d + b) = b + d + b := by omega
  rw [e1, e2, chk_eq vl]
theorem pow_next {a b n p q : Int} (h : pow a b n = (p, q, true)) (hn : n < 40) : pow a b (n + 1) = mul p q a b := by
  unfold pow at h ⊢
  split at h
  · next k =>
    obtain ⟨v, h0, n0, n1⟩ := pok_iff.1 k
    rw [if_pos (pok_iff.2 ⟨v, h0, by omega, by omega⟩)]
    have e : (n + 1).toNat = n.toNat + 1 := by omega
    rw [e, pw, h, if_pos rfl]
  · unfold no at h; injection h with _ h2; injection h2 with _ h3; cases h3
theorem pow_yes {a b n p q : Int} (h : pow a b n = (p, q, true)) : pok a b n = true := by
  unfold pow at h
  split at h
  · next k => exact k
  · unfold no at h; injection h with _ h2; injection h2 with _ h3; cases h3
theorem pow_zero {a b n p q : Int} (h : pow a b n = (p, q, true)) : pow a b 0 = (1000000, 1000000, true) := by
  obtain ⟨v, h0, n0, n1⟩ := pok_iff.1 (pow_yes h)
  unfold pow
  rw [if_pos (pok_iff.2 ⟨v, h0, by omega, by omega⟩)]
  rfl
theorem pow_sum {a b n x1 x2 y1 y2 z1 z2 c1 c2 : Int} (hc : pow a b n = (c1, c2, true)) (h2 : 2 ≤ n)
    (hx : pow a b (n - 2) = (x1, x2, true)) (hy : pow a b 2 = (y1, y2, true)) (hz : mul x1 x2 y1 y2 = (z1, z2, true)) : z1 ≤ c2 ∧ c1 ≤ z2 := by
  obtain ⟨v, h0, n0, n1⟩ := pok_iff.1 (pow_yes hc)
  unfold pow at hc hx hy
  rw [if_pos (pok_iff.2 ⟨v, h0, by omega, by omega⟩)] at hc hx hy
  have e : n.toNat = (n - 2).toNat + 2 := by omega
  rw [e] at hc
  exact pw_sum h0 v _ hx hy hz hc
end Rg
end Go.Proofs.YtkdooncfchmkfaaDoor
