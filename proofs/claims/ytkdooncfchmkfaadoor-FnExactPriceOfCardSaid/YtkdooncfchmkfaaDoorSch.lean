/- Plain mathematics of schedules. -/
import Derived.Test.YtkdooncfchmkfaaDoorMath1
namespace Go.Proofs.YtkdooncfchmkfaaDoor
theorem num_lt {y m d y' m' d' : Int} (h : Cal.vld y m d) (h' : Cal.vld y' m' d') (ht : 12 * y + m < 12 * y' + m') : Cal.num y m d < Cal.num y' m' d' := by
  have a := Cal.num_isDate h
  have b := Cal.num_isDate h'
  obtain ⟨_, _, v3, v4, v5, v6⟩ := h
  obtain ⟨_, _, u3, u4, u5, u6⟩ := h'
  by_cases c : y < y'
  · have := Cal.ys_mono (show y + 1 ≤ y' by omega)
    have := a.y2; have := b.y1; omega
  · obtain rfl : y = y' := by omega
    have h1 := Cal.ms_succ y v3 v4
    have h2 := Cal.ms_mono y (a := m + 1) (b := m') (by omega) (by omega) (by omega)
    unfold Cal.num
    omega
namespace Sc
/-- The day k periods of m months before e; -1 if there is none. -/
noncomputable def S (e m : Int) (k : Nat) : Int := addV e (-((k : Int) * m))
theorem S_bd (e m : Int) (k : Nat) : -1 ≤ S e m k ∧ S e m k ≤ 36524 := addV_bd _ _
theorem S_zero {e m : Int} (h0 : 0 ≤ e) (h1 : e ≤ 36524) : S e m 0 = e := by unfold S; simp [addV_zero h0 h1]
theorem S_down {e m : Int} {j k : Nat} (hm : 1 ≤ m) (hjk : j < k) (h : 0 ≤ S e m k) (hj : (j : Int) * m ≤ 600) : 0 ≤ S e m j ∧ S e m k < S e m j := by
  obtain ⟨y, mo, d, a, ek⟩ := addV_nonneg h
  have hjm : (j : Int) * m < (k : Int) * m := Int.mul_lt_mul_of_pos_right (by omega) (by omega)
  have hj0 : 0 ≤ (j : Int) * m := Int.mul_nonneg (by omega) (by omega)
  have hv := Cal.vld_dt a.hn0 a.hn1
  obtain ⟨w1, w2, w3, w4, _, _⟩ := hv
  obtain ⟨v1, v2, v3, v4, v5, v6⟩ := a.v
  have ht := a.t
  obtain ⟨b, eb⟩ := added_of (n := e) (k := -((j : Int) * m)) (y := (12 * Cal.Y e + Cal.M e - (j : Int) * m - 1) / 12) (m := (12 * Cal.Y e + Cal.M e - (j : Int) * m - 1) % 12 + 1) a.hn0 a.hn1 (by omega) (by omega) (by omega) (by omega) (by omega) (by omega) (by omega)
  have hb := Cal.num_bd b.v
  have ht' := b.t
  have := num_lt a.v b.v (by omega)
  have e1 : S e m j = addV e (-((j : Int) * m)) := rfl
  have e2 : S e m k = addV e (-((k : Int) * m)) := rfl
  rw [e1, e2, eb, ek]
  omega
theorem S_lt {e m : Int} {j k : Nat} (hm : 1 ≤ m) (hjk : j < k) (h : 0 ≤ S e m j) (hj : (j : Int) * m ≤ 600) : S e m k < S e m j := by
  rcases Int.lt_or_le (S e m k) 0 with q | q
  · omega
  · exact (S_down hm hjk q hj).2
/-- Numbers of months that periods may have. -/
def monB (m : Int) : Bool := decide (m = 1 ∨ m = 3 ∨ m = 6 ∨ m = 12)
theorem monB_iff {m : Int} : monB m = true ↔ m = 1 ∨ m = 3 ∨ m = 6 ∨ m = 12 := by unfold monB; simp
theorem mon_bd {m : Int} (h : monB m = true) : 1 ≤ m ∧ m ≤ 12 := by have := monB_iff.1 h; omega
theorem km_bd {m : Int} (h : monB m = true) {k : Nat} (hk : k ≤ 42) : 0 ≤ (k : Int) * m ∧ (k : Int) * m ≤ 504 := by
  have hm := monB_iff.1 h
  rcases hm with rfl | rfl | rfl | rfl <;> omega
/-- A schedule's arguments. -/
def okB (s e m : Int) : Bool := decide (0 ≤ s ∧ s < e ∧ e ≤ 36524) && monB m
theorem okB_iff {s e m : Int} : okB s e m = true ↔ (0 ≤ s ∧ s < e ∧ e ≤ 36524) ∧ monB m = true := by unfold okB; simp
/-- The number of periods, 41 if there are more than 40. -/
structure IsN (s e m : Int) (n : Nat) : Prop where
  n1 : 1 ≤ n
  n2 : n ≤ 41
  gt : ∀ j, j < n → s < S e m j
  le : n < 41 → S e m n ≤ s
theorem IsN.uniq {s e m : Int} {a b : Nat} (h : IsN s e m a) (k : IsN s e m b) : a = b := by
  rcases Nat.lt_trichotomy a b with c | c | c
  · have := k.gt a c; have := h.le (by have := k.n2; omega); omega
  · exact c
  · have := h.gt b c; have := k.le (by have := h.n2; omega); omega
theorem isN_ex {s e m : Int} (h : okB s e m = true) : ∃ n, IsN s e m n := by
  obtain ⟨⟨h0, h1, h2⟩, hm⟩ := okB_iff.1 h
  have key : ∀ k : Nat, 1 ≤ k → k ≤ 41 → (∀ j, j < k → s < S e m j) ∨ ∃ n, IsN s e m n := by
    intro k
    induction k with
    | zero => intro a; omega
    | succ k ih =>
      intro _ hk
      by_cases k0 : k = 0
      · subst k0
        exact .inl fun j hj => by obtain rfl : j = 0 := by omega
                                  rw [S_zero (by omega) h2]; exact h1
      · rcases ih (by omega) (by omega) with q | q
        · by_cases c : s < S e m k
          · exact .inl fun j hj => by
              rcases Nat.lt_or_ge j k with a | a
              · exact q j a
              · obtain rfl : j = k := by omega
                exact c
          · exact .inr ⟨k, by omega, by omega, q, fun _ => by omega⟩
        · exact .inr q
  rcases key 41 (by omega) (by omega) with q | q
  · exact ⟨41, by omega, by omega, q, fun a => by omega⟩
  · exact q
open Classical in
noncomputable def N (s e m : Int) : Nat := if h : ∃ n, IsN s e m n then Classical.choose h else 0
theorem isN {s e m : Int} (h : okB s e m = true) : IsN s e m (N s e m) := by
  have hx := isN_ex h
  unfold N
  rw [dif_pos hx]
  exact Classical.choose_spec hx
theorem N_eq {s e m : Int} {n : Nat} (h : okB s e m = true) (k : IsN s e m n) : N s e m = n := (isN h).uniq k
/-- The k-th period from the end. -/
noncomputable def P (s e m : Int) (k : Nat) : Int × Int × Bool := (max (S e m k) s, S e m (k - 1), decide (s ≤ S e m k))
/-- All periods, whatever their number, the first one first. -/
noncomputable def all (s e m : Int) : List (Int × Int × Bool) := (List.range (N s e m)).map fun i => P s e m (N s e m - i)
/-- The periods of a schedule. -/
noncomputable def sch (s e m : Int) : List (Int × Int × Bool) := if okB s e m = true ∧ N s e m ≤ 40 then all s e m else []
theorem all_len (s e m : Int) : (all s e m).length = N s e m := by simp [all]
theorem all_get {s e m : Int} {i : Nat} (hi : i < N s e m) : (all s e m).getD i (0, 0, false) = P s e m (N s e m - i) := by
  unfold all
  rw [List.getD_eq_getElem?_getD, List.getElem?_map, List.getElem?_range hi]
  rfl
theorem sch_yes {s e m : Int} (h : okB s e m = true) (hn : N s e m ≤ 40) : sch s e m = all s e m := if_pos ⟨h, hn⟩
theorem sch_no1 {s e m : Int} (h : okB s e m = false) : sch s e m = [] := if_neg (by simp [h])
theorem sch_no2 {s e m : Int} (hn : 40 < N s e m) : sch s e m = [] := if_neg (fun h => by omega)
theorem sch_len (s e m : Int) : (sch s e m).length ≤ 40 := by
  unfold sch
  split
  · rename_i h; rw [all_len]; exact h.2
  · simp
/-- The first periods from the end. -/
noncomputable def back (s e m : Int) (n : Nat) : List (Int × Int × Bool) := (List.range n).map fun i => P s e m (i + 1)
theorem back_len (s e m : Int) (n : Nat) : (back s e m n).length = n := by simp [back]
theorem back_succ (s e m : Int) (n : Nat) : back s e m (n + 1) = back s e m n ++ [P s e m (n + 1)] := by simp [back, List.range_succ]
theorem N_ge {s e m : Int} {j : Nat} (h : okB s e m = true) (hj : j ≤ 41) (hg : ∀ i, i < j → s < S e m i) : j ≤ N s e m := by
  have k := isN h
  rcases Nat.lt_or_ge (N s e m) j with a | a
  · have := hg _ a
    have := k.le (by omega)
    omega
  · exact a
theorem back_pre (s e m : Int) {a b : Nat} (h : a ≤ b) : back s e m a <+: back s e m b := by
  obtain ⟨c, rfl⟩ := Nat.exists_eq_add_of_le h
  refine ⟨(List.range c).map fun i => P s e m (a + i + 1), ?_⟩
  simp [back, List.range_add]
theorem back_rev (s e m : Int) : (back s e m (N s e m)).reverse = all s e m := by
  apply List.ext_getElem
  · simp [back, all]
  · intro i h1 h2
    simp [back, all] at h1 h2 ⊢
    congr 1
    omega
end Sc
end Go.Proofs.YtkdooncfchmkfaaDoor
