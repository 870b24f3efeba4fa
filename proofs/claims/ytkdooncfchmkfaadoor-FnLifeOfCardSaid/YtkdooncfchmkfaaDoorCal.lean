/- Plain mathematics: the calendar. -/
namespace Go.Proofs.YtkdooncfchmkfaaDoor
namespace Cal
/-- 1 in leap years. -/
def lp (y : Int) : Int := if y % 4 = 0 ∧ (y % 100 ≠ 0 ∨ y % 400 = 0) then 1 else 0
def lb (y : Int) : Int := (y - 1) / 4 - (y - 1) / 100 + (y - 1) / 400
def ys (y : Int) : Int := 365 * (y - 1990) + lb y - 482
def cum (m : Int) : Int :=
  if m ≤ 1 then 0 else if m ≤ 2 then 31 else if m ≤ 3 then 59 else if m ≤ 4 then 90 else if m ≤ 5 then 120 else if m ≤ 6 then 151
  else if m ≤ 7 then 181 else if m ≤ 8 then 212 else if m ≤ 9 then 243 else if m ≤ 10 then 273 else if m ≤ 11 then 304 else if m ≤ 12 then 334 else 365
def ms (y m : Int) : Int := cum m + if 2 < m then lp y else 0
def dim (y m : Int) : Int := ms y (m + 1) - ms y m
theorem lp_01 (y : Int) : 0 ≤ lp y ∧ lp y ≤ 1 := by unfold lp; split <;> omega
theorem ys_succ (y : Int) : ys (y + 1) = ys y + 365 + lp y := by
  unfold ys lb lp
  split <;> omega
theorem ys_1990 : ys 1990 = 0 := by decide
theorem ys_2090 : ys 2090 = 36525 := by decide
theorem ys_lt (y : Int) : ys y < ys (y + 1) := by have := ys_succ y; have := lp_01 y; omega
theorem ys_mono {a b : Int} (h : a ≤ b) : ys a ≤ ys b := by unfold ys lb; omega
theorem ys_inj {n a b : Int} (h1 : ys a ≤ n) (h2 : n < ys (a + 1)) (h3 : ys b ≤ n) (h4 : n < ys (b + 1)) : a = b := by
  rcases Int.lt_trichotomy a b with h | h | h
  · have := ys_mono (show a + 1 ≤ b by omega); omega
  · exact h
  · have := ys_mono (show b + 1 ≤ a by omega); omega
theorem mcases {m : Int} (h1 : 1 ≤ m) (h2 : m ≤ 12) : m = 1 ∨ m = 2 ∨ m = 3 ∨ m = 4 ∨ m = 5 ∨ m = 6 ∨ m = 7 ∨ m = 8 ∨ m = 9 ∨ m = 10 ∨ m = 11 ∨ m = 12 := by omega
theorem ms_1 (y : Int) : ms y 1 = 0 := by simp [ms, cum]
theorem ms_13 (y : Int) : ms y 13 = 365 + lp y := by simp [ms, cum]
def dm (y m : Int) : Int := if m = 2 then 28 + lp y else if m = 4 ∨ m = 6 ∨ m = 9 ∨ m = 11 then 30 else 31
theorem ms_succ (y : Int) {m : Int} (h1 : 1 ≤ m) (h2 : m ≤ 12) : ms y (m + 1) = ms y m + dm y m := by
  rcases mcases h1 h2 with h | h | h | h | h | h | h | h | h | h | h | h <;> subst h <;> simp [ms, cum, dm] <;> omega
theorem dim_eq (y : Int) {m : Int} (h1 : 1 ≤ m) (h2 : m ≤ 12) : dim y m = dm y m := by unfold dim; rw [ms_succ y h1 h2]; omega
theorem dm_bd (y m : Int) : 28 ≤ dm y m ∧ dm y m ≤ 31 := by have := lp_01 y; unfold dm; split <;> (try split) <;> omega
theorem ms_mono (y : Int) {a b : Int} (h0 : 1 ≤ a) (h : a ≤ b) (h2 : b ≤ 13) : ms y a ≤ ms y b := by
  obtain ⟨k, rfl⟩ : ∃ k : Nat, b = a + k := ⟨(b - a).toNat, by omega⟩
  clear h
  induction k with
  | zero => simp
  | succ k ih =>
    have := ih (by omega)
    have e : a + ((k + 1 : Nat) : Int) = a + (k : Int) + 1 := by omega
    have := ms_succ y (m := a + k) (by omega) (by omega)
    have := dm_bd y (a + k)
    rw [e]; omega
theorem ms_bd (y : Int) {m : Int} (h1 : 1 ≤ m) (h2 : m ≤ 13) : 0 ≤ ms y m ∧ ms y m ≤ 366 := by
  have a := ms_mono y (a := 1) (b := m) (by omega) h1 h2
  have b := ms_mono y (a := m) (b := 13) h1 h2 (by omega)
  rw [ms_1] at a; rw [ms_13] at b; have := lp_01 y; omega
theorem ms_inj (y : Int) {n a b : Int} (ha : 1 ≤ a) (ha' : a ≤ 12) (hb : 1 ≤ b) (hb' : b ≤ 12) (h1 : ms y a ≤ n) (h2 : n < ms y (a + 1)) (h3 : ms y b ≤ n) (h4 : n < ms y (b + 1)) : a = b := by
  rcases Int.lt_trichotomy a b with h | h | h
  · have := ms_mono y (a := a + 1) (b := b) (by omega) (by omega) (by omega); omega
  · exact h
  · have := ms_mono y (a := b + 1) (b := a) (by omega) (by omega) (by omega); omega

/-- The year, month and day of a day's number. -/
structure IsDate (n y m d : Int) : Prop where
  y1 : ys y ≤ n
  y2 : n < ys (y + 1)
  m1 : 1 ≤ m
  m2 : m ≤ 12
  d1 : ms y m ≤ n - ys y
  d2 : n - ys y < ms y (m + 1)
  dd : d = n - ys y - ms y m + 1
theorem IsDate.uniq {n y m d y' m' d' : Int} (h : IsDate n y m d) (k : IsDate n y' m' d') : y = y' ∧ m = m' ∧ d = d' := by
  obtain rfl := ys_inj h.y1 h.y2 k.y1 k.y2
  obtain rfl := ms_inj y h.m1 h.m2 k.m1 k.m2 h.d1 h.d2 k.d1 k.d2
  exact ⟨rfl, rfl, h.dd.trans k.dd.symm⟩
theorem year_ex {n : Int} (h0 : 0 ≤ n) (h1 : n ≤ 36524) : ∃ y, 1990 ≤ y ∧ y ≤ 2089 ∧ ys y ≤ n ∧ n < ys (y + 1) := by
  have key : ∀ k : Nat, ys (1990 + k) ≤ n ∨ ∃ y : Int, 1990 ≤ y ∧ y < 1990 + k ∧ ys y ≤ n ∧ n < ys (y + 1) := by
    intro k
    induction k with
    | zero => left; rw [show (1990 : Int) + (0 : Nat) = 1990 from rfl, ys_1990]; exact h0
    | succ k ih =>
      rcases ih with h | ⟨y, a, b, c, d⟩
      · by_cases g : ys (1990 + (k + 1 : Nat)) ≤ n
        · exact .inl g
        · exact .inr ⟨1990 + k, by omega, by omega, h, by rw [show (1990 : Int) + (k : Int) + 1 = 1990 + ((k + 1 : Nat) : Int) by omega]; omega⟩
      · exact .inr ⟨y, a, by omega, c, d⟩
  rcases key 100 with h | ⟨y, a, b, c, d⟩
  · rw [show (1990 : Int) + (100 : Nat) = 2090 from rfl, ys_2090] at h; omega
  · exact ⟨y, a, by omega, c, d⟩
theorem mon_ex {y r : Int} (h0 : 0 ≤ r) (h1 : r < 365 + lp y) : ∃ m, 1 ≤ m ∧ m ≤ 12 ∧ ms y m ≤ r ∧ r < ms y (m + 1) := by
  have key : ∀ k : Nat, k ≤ 12 → ms y (1 + k) ≤ r ∨ ∃ m : Int, 1 ≤ m ∧ m < 1 + k ∧ ms y m ≤ r ∧ r < ms y (m + 1) := by
    intro k
    induction k with
    | zero => intro _; left; rw [show (1 : Int) + (0 : Nat) = 1 from rfl, ms_1]; exact h0
    | succ k ih =>
      intro hk
      rcases ih (by omega) with h | ⟨m, a, b, c, d⟩
      · by_cases g : ms y (1 + (k + 1 : Nat)) ≤ r
        · exact .inl g
        · exact .inr ⟨1 + k, by omega, by omega, h, by rw [show (1 : Int) + (k : Int) + 1 = 1 + ((k + 1 : Nat) : Int) by omega]; omega⟩
      · exact .inr ⟨m, a, by omega, c, d⟩
  rcases key 12 (by omega) with h | ⟨m, a, b, c, d⟩
  · rw [show (1 : Int) + (12 : Nat) = 13 from rfl, ms_13] at h; omega
  · exact ⟨m, a, by omega, c, d⟩
theorem date_ex {n : Int} (h0 : 0 ≤ n) (h1 : n ≤ 36524) : ∃ y m d, IsDate n y m d := by
  obtain ⟨y, _, _, c, d⟩ := year_ex h0 h1
  obtain ⟨m, a', b', c', d'⟩ := mon_ex (y := y) (r := n - ys y) (by omega) (by rw [ys_succ] at d; omega)
  exact ⟨y, m, _, c, d, a', b', c', d', rfl⟩
open Classical in
noncomputable def dt (n : Int) : Int × Int × Int := if h : ∃ p : Int × Int × Int, IsDate n p.1 p.2.1 p.2.2 then choose h else (0, 0, 0)
noncomputable def Y (n : Int) : Int := (dt n).1
noncomputable def M (n : Int) : Int := (dt n).2.1
noncomputable def D (n : Int) : Int := (dt n).2.2
theorem isDate {n : Int} (h0 : 0 ≤ n) (h1 : n ≤ 36524) : IsDate n (Y n) (M n) (D n) := by
  obtain ⟨y, m, d, h⟩ := date_ex h0 h1
  have hx : ∃ p : Int × Int × Int, IsDate n p.1 p.2.1 p.2.2 := ⟨(y, m, d), h⟩
  unfold Y M D dt
  rw [dif_pos hx]
  exact Classical.choose_spec hx
theorem dt_eq {n y m d : Int} (h0 : 0 ≤ n) (h1 : n ≤ 36524) (h : IsDate n y m d) : Y n = y ∧ M n = m ∧ D n = d := (isDate h0 h1).uniq h
theorem Y_bd {n : Int} (h0 : 0 ≤ n) (h1 : n ≤ 36524) : 1990 ≤ Y n ∧ Y n ≤ 2089 := by
  have h := isDate h0 h1
  obtain ⟨y, a, b, c, d⟩ := year_ex h0 h1
  have := ys_inj h.y1 h.y2 c d
  omega
theorem M_bd {n : Int} (h0 : 0 ≤ n) (h1 : n ≤ 36524) : 1 ≤ M n ∧ M n ≤ 12 := ⟨(isDate h0 h1).m1, (isDate h0 h1).m2⟩
theorem D_bd {n : Int} (h0 : 0 ≤ n) (h1 : n ≤ 36524) : 1 ≤ D n ∧ D n ≤ dm (Y n) (M n) ∧ D n ≤ 31 := by
  have h := isDate h0 h1
  have h2 := h.d2
  rw [ms_succ _ h.m1 h.m2] at h2
  have := h.dd; have := h.d1; have := dm_bd (Y n) (M n)
  omega
/-- The number of a valid date. -/
def num (y m d : Int) : Int := ys y + ms y m + d - 1
def vld (y m d : Int) : Prop := 1990 ≤ y ∧ y ≤ 2089 ∧ 1 ≤ m ∧ m ≤ 12 ∧ 1 ≤ d ∧ d ≤ dm y m
theorem num_isDate {y m d : Int} (h : vld y m d) : IsDate (num y m d) y m d := by
  obtain ⟨a, b, c, e, f, g⟩ := h
  have := ms_succ y c e
  have := ms_bd y c (by omega)
  have h13 := ms_mono y (a := m + 1) (b := 13) (by omega) (by omega) (by omega)
  rw [ms_13] at h13
  have := ys_succ y
  constructor <;> (try unfold num) <;> omega
theorem num_bd {y m d : Int} (h : vld y m d) : 0 ≤ num y m d ∧ num y m d ≤ 36524 := by
  have k := num_isDate h
  obtain ⟨a, b, _⟩ := h
  have := ys_mono a; have := ys_mono (show y + 1 ≤ 2090 by omega)
  rw [ys_1990] at *; rw [ys_2090] at *
  have := k.y1; have := k.y2; omega
theorem num_dt {n : Int} (h0 : 0 ≤ n) (h1 : n ≤ 36524) : num (Y n) (M n) (D n) = n := by
  have h := (isDate h0 h1).dd
  unfold num; omega
theorem vld_dt {n : Int} (h0 : 0 ≤ n) (h1 : n ≤ 36524) : vld (Y n) (M n) (D n) := by
  have := Y_bd h0 h1; have := M_bd h0 h1; have := D_bd h0 h1
  exact ⟨by omega, by omega, by omega, by omega, by omega, by omega⟩
theorem dt_num {y m d : Int} (h : vld y m d) : Y (num y m d) = y ∧ M (num y m d) = m ∧ D (num y m d) = d :=
  dt_eq (num_bd h).1 (num_bd h).2 (num_isDate h)
theorem ys_guess {n : Int} (h0 : 0 ≤ n) (h1 : n ≤ 36524) : ys (1990 + n / 366) ≤ n := by unfold ys lb; omega
end Cal
end Go.Proofs.YtkdooncfchmkfaaDoor
