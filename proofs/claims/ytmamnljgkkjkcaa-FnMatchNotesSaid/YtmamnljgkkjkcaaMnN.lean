/- Notes matched: what the laws say, as mathematics. -/
import Derived.Test.YtmamnljgkkjkcaaMnM
namespace Go.Proofs.Ytmamnljgkkjkcaa
open Go.RowKit
theorem Mn.at_facts (x : Tri) (b : List Tri) (used : List Int) (tol : Int) (n : Nat) :
    (Mn.at x b used tol n = -1 ∧ ∀ i, i < n → Mn.same x (b.getD i t0) = true → (i : Int) ∉ used → tol < Mn.ds x (b.getD i t0)) ∨
    ∃ i, i < n ∧ Mn.at x b used tol n = (i : Int) ∧ Mn.same x (b.getD i t0) = true ∧ Mn.ds x (b.getD i t0) ≤ tol ∧ (i : Int) ∉ used := by
  rcases Mn.pick_is x b tol (Mn.is b x used n) with ⟨h1, -, h3⟩ | ⟨i, hi, h1, -, h3⟩
  · exact .inl ⟨h1, fun i a c d => h3 i (Mn.is_mem.2 ⟨a, c, d⟩)⟩
  · obtain ⟨a, c, d⟩ := Mn.is_mem.1 hi
    exact .inr ⟨i, a, h1, c, h3, d⟩
theorem Mn.run_take (b : List Tri) (tol : Int) (a : List Tri) : ∀ i, i ≤ a.length → (Mn.run b tol a).take i = Mn.run b tol (a.take i) := by
  refine Mn.snocInd (P := fun a => ∀ i, i ≤ a.length → (Mn.run b tol a).take i = Mn.run b tol (a.take i)) (fun i _ => by simp [Mn.run]) (fun a x ih i hi => ?_) a
  by_cases c : i ≤ a.length
  · rw [Mn.run_snoc, List.take_append_of_le_length (by rw [Mn.run_len]; exact c), List.take_append_of_le_length c]
    exact ih i c
  · have : i = (a ++ [x]).length := by rw [List.length_append] at hi ⊢; simp at hi ⊢; omega
    rw [this, List.take_length, List.take_of_length_le (by rw [Mn.run_len]; exact Nat.le_refl _)]
theorem Mn.run_at (b : List Tri) (tol : Int) (a : List Tri) {i : Nat} (hi : i < a.length) : (Mn.run b tol a).getD i 0 = Mn.at (a.getD i t0) b (Mn.run b tol (a.take i)) tol b.length := by
  have e : a.take (i + 1) = a.take i ++ [a.getD i t0] := by
    rw [List.take_add_one, List.getD_eq_getElem?_getD, List.getElem?_eq_getElem hi]; rfl
  have h := Mn.run_take b tol a (i + 1) hi
  rw [e, Mn.run_snoc] at h
  have hl : (Mn.run b tol (a.take i)).length = i := by rw [Mn.run_len, List.length_take]; omega
  have h2 : ((Mn.run b tol a).take (i + 1)).getD i 0 = (Mn.run b tol a).getD i 0 := by
    rw [List.getD_eq_getElem?_getD, List.getElem?_take_of_lt (by omega), ← List.getD_eq_getElem?_getD]
  rw [← h2, h, List.getD_eq_getElem?_getD, List.getElem?_append_right (by omega), hl]
  simp
/-- The notes that are left over. -/
def Mn.left (used : List Int) (n : Nat) : List Nat := (List.range n).filter fun i => !(used.contains (i : Int))
theorem Mn.left_mem {used : List Int} {n i : Nat} : i ∈ Mn.left used n ↔ i < n ∧ (i : Int) ∉ used := by
  unfold Mn.left
  rw [List.mem_filter, List.mem_range]
  simp
theorem Mn.filter_less {P Q : Nat → Bool} {j : Nat} : ∀ l : List Nat, l.Nodup → j ∈ l → P j = true → (∀ i ∈ l, Q i = (P i && (i != j))) → (l.filter Q).length + 1 = (l.filter P).length
  | [], _, hj, _, _ => by cases hj
  | x :: l, hn, hj, hP, hQ => by
    obtain ⟨hx, hn⟩ := List.nodup_cons.1 hn
    by_cases c : x = j
    · subst c
      have hq : Q x = false := by rw [hQ x List.mem_cons_self]; simp
      rw [List.filter_cons, hq, if_neg (by simp), List.filter_cons, hP, if_pos rfl, List.length_cons]
      congr 2
      refine List.filter_congr fun i hi => ?_
      rw [hQ i (List.mem_cons_of_mem _ hi)]
      have : i ≠ x := fun e => hx (e ▸ hi)
      simp [this]
    · have hj2 : j ∈ l := by rcases List.mem_cons.1 hj with h | h; exact absurd h.symm c; exact h
      have ih := Mn.filter_less l hn hj2 hP (fun i hi => hQ i (List.mem_cons_of_mem _ hi))
      have hq : Q x = P x := by rw [hQ x List.mem_cons_self]; simp [c]
      rw [List.filter_cons, List.filter_cons, hq]
      cases P x
      · simpa using ih
      · simp only [if_true, List.length_cons]; omega
theorem Mn.contains_snoc {used : List Int} {j : Int} {i : Int} : (used ++ [j]).contains i = (used.contains i || (i == j)) := by
  rw [Bool.eq_iff_iff]; simp
/-- One that was not used is used. -/
theorem Mn.left_use {used : List Int} {n j : Nat} (hj : j < n) (hu : (j : Int) ∉ used) : (Mn.left (used ++ [(j : Int)]) n).length + 1 = (Mn.left used n).length := by
  unfold Mn.left
  refine Mn.filter_less (j := j) _ List.nodup_range (List.mem_range.2 hj) (by simpa using hu) (fun i _ => ?_)
  rw [Mn.contains_snoc, Bool.not_or]
  congr 1
  rw [Bool.eq_iff_iff]
  simp only [bne_iff_ne, ne_eq, Bool.not_eq_true', beq_eq_false_iff_ne]
  omega
theorem Mn.left_none {used : List Int} {n : Nat} {j : Int} (hj : j < 0) : Mn.left (used ++ [j]) n = Mn.left used n := by
  unfold Mn.left
  refine List.filter_congr fun i _ => ?_
  rw [Mn.contains_snoc]
  have : ((i : Int) == j) = false := by simp; omega
  rw [this, Bool.or_false]
/-- How many are matched. -/
def Mn.num (l : List Int) : Nat := (l.filter fun k => decide (0 ≤ k)).length
theorem Mn.num_snoc (l : List Int) (k : Int) : Mn.num (l ++ [k]) = Mn.num l + if 0 ≤ k then 1 else 0 := by
  unfold Mn.num
  rw [List.filter_append, List.length_append]
  congr 1
  by_cases c : 0 ≤ k <;> simp [c]
/-- Each purchase is matched or left. -/
theorem Mn.all (b : List Tri) (tol : Int) (a : List Tri) : Mn.num (Mn.run b tol a) + (Mn.left (Mn.run b tol a) b.length).length = b.length := by
  refine Mn.snocInd (P := fun a => Mn.num (Mn.run b tol a) + (Mn.left (Mn.run b tol a) b.length).length = b.length) ?_ (fun a x ih => ?_) a
  · show 0 + (Mn.left [] b.length).length = b.length
    have e : Mn.left [] b.length = List.range b.length := List.filter_eq_self.2 fun _ _ => rfl
    rw [e, List.length_range, Nat.zero_add]
  · rw [Mn.run_snoc, Mn.num_snoc]
    rcases Mn.at_facts x b (Mn.run b tol a) tol b.length with ⟨h1, -⟩ | ⟨i, hi, h1, -, -, hu⟩
    · rw [h1, Mn.left_none (by decide), if_neg (by decide)]; omega
    · rw [h1, if_pos (by omega)]
      have := Mn.left_use hi hu
      omega
/-- The notes equal to t that are left over. -/
def Mn.leftOf (b : List Tri) (t : Tri) (used : List Int) : List Nat := (List.range b.length).filter fun i => !(used.contains (i : Int)) && (b.getD i t0 == t)
theorem Mn.leftOf_use {b : List Tri} {t : Tri} {used : List Int} {j : Nat} (hj : j < b.length) (hu : (j : Int) ∉ used) : (Mn.leftOf b t (used ++ [(j : Int)])).length + (if b.getD j t0 = t then 1 else 0) = (Mn.leftOf b t used).length := by
  unfold Mn.leftOf
  by_cases c : b.getD j t0 = t
  · rw [if_pos c]
    refine Mn.filter_less (j := j) _ List.nodup_range (List.mem_range.2 hj) (by simp only [c, beq_self_eq_true, Bool.and_true]; simpa using hu) (fun i _ => ?_)
    rw [Mn.contains_snoc, Bool.not_or, Bool.and_assoc, Bool.and_assoc]
    congr 1
    rw [Bool.and_comm]
    congr 1
    rw [Bool.eq_iff_iff]
    simp only [bne_iff_ne, ne_eq, Bool.not_eq_true', beq_eq_false_iff_ne]
    omega
  · rw [if_neg c, Nat.add_zero]
    congr 1
    refine List.filter_congr fun i _ => ?_
    rw [Mn.contains_snoc, Bool.not_or]
    by_cases e : i = j
    · subst e
      have : (b.getD i t0 == t) = false := by simpa using c
      rw [this, Bool.and_false, Bool.and_false]
    · have : ((i : Int) == (j : Int)) = false := by simp only [beq_eq_false_iff_ne, ne_eq]; omega
      rw [this, Bool.not_false, Bool.and_true]
theorem Mn.leftOf_nil (t : Tri) : ∀ b : List Tri, (Mn.leftOf b t []).length = b.count t := by
  refine Mn.snocInd (by rfl) (fun b x ih => ?_)
  rw [List.count_append, ← ih]
  unfold Mn.leftOf
  rw [List.length_append, List.length_singleton, List.range_succ, List.filter_append, List.length_append]
  congr 1
  · congr 1
    refine List.filter_congr fun i hi => ?_
    have hi2 := List.mem_range.1 hi
    rw [List.getD_eq_getElem?_getD, List.getElem?_append_left hi2, ← List.getD_eq_getElem?_getD]
  · have e : (b ++ [x]).getD b.length t0 = x := by
      rw [List.getD_eq_getElem?_getD, List.getElem?_append_right (Nat.le_refl _)]; simp
    rw [List.filter_cons, e, List.filter_nil, List.count_singleton]
    cases h : x == t <;> simp
theorem Mn.eq_of {x y : Tri} (h : Mn.same x y = true) (hd : Mn.ds x y ≤ 0) : y = x := by
  obtain ⟨a, b, c⟩ := x
  obtain ⟨d, e, f⟩ := y
  unfold Mn.same at h
  rw [Bool.and_eq_true] at h
  have h1 : a = d := by simpa using h.1
  have h2 : b = e := by simpa using h.2
  unfold Mn.ds Mn.ab at hd
  simp only at hd
  have h3 : c = f := by split at hd <;> omega
  rw [h1, h2, h3]
theorem Mn.same_refl (x : Tri) : Mn.same x x = true ∧ Mn.ds x x = 0 := by
  unfold Mn.same Mn.ds Mn.ab
  simp
/-- Notes matched with themselves: each one is matched. -/
theorem Mn.self (b : List Tri) : ∀ k, k ≤ b.length → (∀ i, i < k → 0 ≤ (Mn.run b 0 (b.take k)).getD i 0) ∧ ∀ t, (Mn.leftOf b t (Mn.run b 0 (b.take k))).length + (b.take k).count t = b.count t
  | 0, _ => ⟨fun i hi => by omega, fun t => by
      show (Mn.leftOf b t []).length + 0 = _
      rw [Mn.leftOf_nil]; rfl⟩
  | k + 1, hk => by
    obtain ⟨i1, i2⟩ := Mn.self b k (by omega)
    have e : b.take (k + 1) = b.take k ++ [b.getD k t0] := by
      rw [List.take_add_one, List.getD_eq_getElem?_getD, List.getElem?_eq_getElem (by omega)]; rfl
    have hl : (Mn.run b 0 (b.take k)).length = k := by rw [Mn.run_len, List.length_take]; omega
    rw [e, Mn.run_snoc]
    generalize Mn.run b 0 (b.take k) = used at i1 i2 hl
    have hx : ∃ j, j < b.length ∧ (j : Int) ∉ used ∧ b.getD j t0 = b.getD k t0 := by
      have h := i2 (b.getD k t0)
      have hc : (b.take (k + 1)).count (b.getD k t0) ≤ b.count (b.getD k t0) := List.Sublist.count_le _ (List.take_sublist _ _)
      rw [e, List.count_append, List.count_singleton, if_pos (by simp)] at hc
      have hp : 0 < (Mn.leftOf b (b.getD k t0) used).length := by omega
      obtain ⟨j, hj⟩ := List.exists_mem_of_length_pos hp
      unfold Mn.leftOf at hj
      rw [List.mem_filter, List.mem_range, Bool.and_eq_true] at hj
      exact ⟨j, hj.1, by simpa using hj.2.1, by simpa using hj.2.2⟩
    obtain ⟨j, hj, hu, hje⟩ := hx
    rcases Mn.at_facts (b.getD k t0) b used 0 b.length with ⟨-, h2⟩ | ⟨i, hi, h1, h2, h3, h4⟩
    · exfalso
      obtain ⟨r1, r2⟩ := Mn.same_refl (b.getD k t0)
      have := h2 j hj (by rw [hje]; exact r1) hu
      rw [hje, r2] at this
      omega
    · rw [h1]
      have hq := Mn.eq_of h2 h3
      refine ⟨fun m hm => ?_, fun t => ?_⟩
      · by_cases c : m < k
        · rw [List.getD_eq_getElem?_getD, List.getElem?_append_left (by omega), ← List.getD_eq_getElem?_getD]
          exact i1 m c
        · rw [List.getD_eq_getElem?_getD, List.getElem?_append_right (by omega), hl, show m - k = 0 by omega]
          simp
      · have h5 := Mn.leftOf_use (t := t) hi h4
        have h6 := i2 t
        rw [List.count_append, List.count_singleton]
        rw [hq] at h5
        by_cases c : b.getD k t0 = t
        · rw [if_pos c] at h5
          rw [if_pos (by simpa using c)]; omega
        · rw [if_neg c] at h5
          rw [if_neg (by simpa using c)]; omega
end Go.Proofs.Ytmamnljgkkjkcaa
