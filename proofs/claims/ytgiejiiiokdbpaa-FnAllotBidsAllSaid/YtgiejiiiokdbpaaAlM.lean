/- What bids get: plain mathematics. -/
import Derived.Test.YtgiejiiiokdbpaaAl
import Derived.Test.YtgiejiiiokdbpaaBdL
namespace Go.Proofs.Ytgiejiiiokdbpaa
open Go.RowKit
def Al.less (ps : List Pr) (s : Int) : List Int := Al.want (fun p => decide (p.1 < s)) ps
def Al.last (ps : List Pr) (s : Int) : List Int := Al.want (fun p => p.1 == s) ps
def Al.all (ps : List Pr) : List Int := Al.want (fun _ => true) ps
def Al.left (ps : List Pr) (n : Int) : Int := n - (Al.less ps (Bd.stop ps n)).sum
def Al.shr (ps : List Pr) (n : Int) : List Int := Pr.out (Al.left ps n) (Al.last ps (Bd.stop ps n))
def Al.out (ps : List Pr) (n : Int) : List Int := List.zipWith (· + ·) (Al.less ps (Bd.stop ps n)) (Al.shr ps n)
def Al.res (ps : List Pr) (n : Int) : List Int := if Bd.stop ps n < 0 then Al.all ps else Al.out ps n
def Al.val (ps : List Pr) (n : Int) : List Int := if Bd.auc ps n = true then Al.res ps n else []
theorem Al.val_yes {ps : List Pr} {n : Int} (h : Bd.auc ps n = true) : Al.val ps n = Al.res ps n := if_pos h
theorem Al.val_no {ps : List Pr} {n : Int} (h : Bd.auc ps n = false) : Al.val ps n = [] := if_neg (by rw [h]; simp)
theorem Al.sum_less (s : Int) : ∀ ps : List Pr, (Al.less ps s).sum = Bd.below ps (s - 1)
  | [] => rfl
  | p :: ps => by
    have ih := Al.sum_less s ps
    unfold Al.less Al.want Bd.below at *
    simp only [List.map_cons, List.sum_cons, ih]
    unfold Bd.add
    by_cases c : p.1 < s
    · rw [if_pos (decide_eq_true c), if_pos (by omega)]
    · rw [if_neg (by simpa using c), if_neg (by omega)]
theorem Al.sum_last (s : Int) : ∀ ps : List Pr, (Al.less ps s).sum + (Al.last ps s).sum = Bd.below ps s
  | [] => rfl
  | p :: ps => by
    have ih := Al.sum_last s ps
    unfold Al.less Al.last Al.want Bd.below at *
    simp only [List.map_cons, List.sum_cons, ← ih]
    unfold Bd.add
    by_cases c : p.1 < s
    · rw [if_pos (decide_eq_true c), if_neg (by simp; omega), if_pos (by omega)]; omega
    · rw [if_neg (by simpa using c)]
      by_cases d : p.1 = s
      · rw [if_pos (by simpa using d), if_pos (by omega)]; omega
      · rw [if_neg (by simpa using d), if_neg (by omega)]; omega
theorem Al.sum_all (ps : List Pr) : (Al.all ps).sum = Bd.sum ps := by
  unfold Al.all Al.want Bd.sum
  simp
theorem Al.zip_sum : ∀ (a b : List Int), a.length = b.length → (List.zipWith (· + ·) a b).sum = a.sum + b.sum
  | [], [], _ => rfl
  | x :: a, y :: b, h => by
    have ih := Al.zip_sum a b (by simpa using h)
    simp only [List.zipWith_cons_cons, List.sum_cons, ih]; omega
  | [], _ :: _, h => by simp at h
  | _ :: _, [], h => by simp at h
theorem Al.zip_at {a b : List Int} {i : Nat} (ha : i < a.length) (hb : i < b.length) : (List.zipWith (· + ·) a b).getD i 0 = a.getD i 0 + b.getD i 0 := by
  rw [Sr.getD_get (by simp; omega), Sr.getD_get ha, Sr.getD_get hb, List.getElem_zipWith]
/-- What is known where an auction stops. -/
structure Al.Ok (ps : List Pr) (n : Int) : Prop where
  n0 : 1 ≤ n ∧ n ≤ 1000000000
  len : ps.length ≤ 8
  all : ps.all Bd.one = true
  s0 : 0 ≤ Bd.stop ps n
theorem Al.ok_of {ps : List Pr} {n : Int} (h : Bd.auc ps n = true) (hs : 0 ≤ Bd.stop ps n) : Al.Ok ps n := by
  obtain ⟨hok, hn⟩ := (Bool.and_eq_true _ _).mp (show (Bd.ok ps && btw n 1 1000000000) = true from h)
  obtain ⟨hl, hall⟩ := Bd.parts hok
  exact ⟨btw_iff.1 hn, hl, hall, hs⟩
theorem Al.shr_len (ps : List Pr) (n : Int) : (Al.shr ps n).length = ps.length := (Pr.out_len _ _).trans (Al.want_len _ _)
theorem Al.out_len (ps : List Pr) (n : Int) : (Al.out ps n).length = ps.length := by
  unfold Al.out
  rw [List.length_zipWith, Al.shr_len ps n, show (Al.less ps (Bd.stop ps n)).length = ps.length from Al.want_len _ _, Nat.min_self]
theorem Al.out_at {ps : List Pr} {n : Int} {i : Nat} (hi : i < ps.length) : (Al.out ps n).getD i 0 = (Al.less ps (Bd.stop ps n)).getD i 0 + (Al.shr ps n).getD i 0 :=
  Al.zip_at (by rw [show (Al.less ps (Bd.stop ps n)).length = ps.length from Al.want_len _ _]; exact hi) (by rw [Al.shr_len ps n]; exact hi)
section
variable {ps : List Pr} {n : Int} (h : Al.Ok ps n)
include h
theorem Al.Ok.yields : ∀ p ∈ ps, 0 ≤ p.1 := fun p hp => (Bd.one_iff.1 (List.all_eq_true.1 h.all p hp)).1.1
theorem Al.Ok.nn : ∀ p ∈ ps, 0 ≤ p.2 := fun p hp => by have := Bd.one_iff.1 (List.all_eq_true.1 h.all p hp); omega
theorem Al.Ok.left_bd : 1 ≤ Al.left ps n ∧ Al.left ps n ≤ n ∧ Al.left ps n ≤ (Al.last ps (Bd.stop ps n)).sum := by
  obtain ⟨g1, g2⟩ := Bd.stop_less h.yields h.n0.1 h.s0
  have e1 := Al.sum_less (Bd.stop ps n) ps
  have e2 := Al.sum_last (Bd.stop ps n) ps
  have e3 := (Bd.below_nn (y := Bd.stop ps n - 1) ps h.nn).1
  unfold Al.left
  omega
theorem Al.Ok.pr : Pr.okB (Al.left ps n) (Al.last ps (Bd.stop ps n)) = true := by
  obtain ⟨a, b, c⟩ := h.left_bd
  have hn := h.n0.2
  have hm := Al.want_mem (f := fun p => p.1 == Bd.stop ps n) h.all
  have hl : 1 ≤ ps.length := by
    cases hp : ps with
    | nil => rw [hp] at c a; simp [Al.last, Al.want] at c; omega
    | cons => simp
  unfold Pr.okB Ho.ok
  rw [btw_t (by omega) (by omega), show (Al.last ps (Bd.stop ps n)).length = ps.length from Al.want_len _ _, btw_t (by omega) (by have := h.len; omega)]
  rw [show (Al.last ps (Bd.stop ps n)).all holdB = true from hm]
  have : ((Al.last ps (Bd.stop ps n)).sum != 0) = true := by simp; omega
  rw [this]; rfl
theorem Al.Ok.shr_bd {i : Nat} (hi : i < ps.length) : 0 ≤ (Al.shr ps n).getD i 0 ∧ (Al.shr ps n).getD i 0 ≤ (Al.last ps (Bd.stop ps n)).getD i 0 := by
  have ok := (Pr.okB_ok h.pr).2.2
  have hl : i < (Al.last ps (Bd.stop ps n)).length := by rw [show (Al.last ps (Bd.stop ps n)).length = ps.length from Al.want_len _ _]; exact hi
  exact ⟨Pr.out_nn ok hl, Pr.out_w ok h.left_bd.2.2 hl⟩
theorem Al.Ok.out_sum : (Al.out ps n).sum = n := by
  have ok := (Pr.okB_ok h.pr).2.2
  unfold Al.out
  rw [Al.zip_sum _ _ (by rw [Al.shr_len ps n]; exact Al.want_len _ _)]
  unfold Al.shr
  rw [Pr.out_sum ok]
  unfold Al.left
  omega
/-- What one bid gets: all of it, a share, or nothing. -/
theorem Al.Ok.one {i : Nat} (hi : i < ps.length) : 0 ≤ (Al.out ps n).getD i 0 ∧ (Al.out ps n).getD i 0 ≤ (ps.getD i pr0).2 ∧ ((ps.getD i pr0).1 < Bd.stop ps n → (Al.out ps n).getD i 0 = (ps.getD i pr0).2) ∧ (Bd.stop ps n < (ps.getD i pr0).1 → (Al.out ps n).getD i 0 = 0) := by
  obtain ⟨s0, s1⟩ := h.shr_bd hi
  have hp := Bd.one_iff.1 (allB_at pr0 h.all hi)
  rw [Al.out_at hi]
  unfold Al.last at s1
  unfold Al.less
  rw [Al.want_at hi] at s1
  rw [Al.want_at hi]
  generalize ps.getD i pr0 = p at *
  generalize (Al.shr ps n).getD i 0 = q at *
  generalize Bd.stop ps n = s at *
  by_cases c : p.1 < s
  · rw [if_neg (by simp; omega)] at s1
    rw [if_pos (decide_eq_true c)]
    omega
  · rw [if_neg (by simpa using c)]
    by_cases d : p.1 = s
    · rw [if_pos (by simpa using d)] at s1; omega
    · rw [if_neg (by simpa using d)] at s1; omega
end
theorem Al.all_at {ps : List Pr} {i : Nat} (hi : i < ps.length) : (Al.all ps).getD i 0 = (ps.getD i pr0).2 := by unfold Al.all; rw [Al.want_at hi]; rfl
theorem Al.res_len {ps : List Pr} {n : Int} (_ : Bd.auc ps n = true) : (Al.res ps n).length = ps.length := by
  unfold Al.res
  split
  · exact Al.want_len _ _
  · exact Al.out_len ps n
/-- No bid gets more than it wants. -/
theorem Al.res_bd {ps : List Pr} {n : Int} (h : Bd.auc ps n = true) {i : Nat} (hi : i < ps.length) : 0 ≤ (Al.res ps n).getD i 0 ∧ (Al.res ps n).getD i 0 ≤ (ps.getD i pr0).2 := by
  have hok := (Bool.and_eq_true _ _).mp (show (Bd.ok ps && btw n 1 1000000000) = true from h)
  have hp := Bd.one_iff.1 (allB_at pr0 (Bd.parts hok.1).2 hi)
  unfold Al.res
  split
  · rw [Al.all_at hi]; omega
  · rename_i c
    obtain ⟨a, b, -, -⟩ := (Al.ok_of h (by omega)).one hi
    exact ⟨a, b⟩
theorem Bd.below_top {ps : List Pr} (h0 : ∀ p ∈ ps, 0 ≤ p.1 ∧ p.1 ≤ 3000) : Bd.below ps 3000 = Bd.sum ps := Bd.below_all ps (fun p hp => (h0 p hp).2)
/-- All bonds are allotted, or all bids are served. -/
theorem Al.res_sum {ps : List Pr} {n : Int} (h : Bd.auc ps n = true) : (Al.res ps n).sum = min n (Bd.sum ps) := by
  have hok := (Bool.and_eq_true _ _).mp (show (Bd.ok ps && btw n 1 1000000000) = true from h)
  have hall := (Bd.parts hok.1).2
  have hn := btw_iff.1 hok.2
  have hy : ∀ p ∈ ps, 0 ≤ p.1 ∧ p.1 ≤ 3000 := fun p hp => (Bd.one_iff.1 (List.all_eq_true.1 hall p hp)).1
  have hnn : ∀ p ∈ ps, 0 ≤ p.2 := fun p hp => by have := Bd.one_iff.1 (List.all_eq_true.1 hall p hp); omega
  unfold Al.res
  split
  · rename_i c
    rw [Al.sum_all]
    rcases Bd.stop_is (fun p hp => (hy p hp).1) n with ⟨e, a⟩ | ⟨a0, _⟩
    · have : Bd.sum ps < n := by
        rw [← Bd.below_top hy]
        rcases Int.lt_or_le (Bd.below ps 3000) n with d | d
        · exact d
        · obtain ⟨p, hp, _, h2⟩ := Bd.below_some (fun p hp => (hy p hp).1) 3000 (by have : ((3000 : Nat) : Int) = 3000 := rfl; rw [this]; omega)
          have := a p hp
          rw [h2] at this
          have e3 : ((3000 : Nat) : Int) = 3000 := rfl
          rw [e3] at this
          omega
      omega
    · omega
  · rename_i c
    have ok := Al.ok_of h (by omega)
    rw [ok.out_sum]
    obtain ⟨g1, -⟩ := Bd.stop_less ok.yields hn.1 ok.s0
    have := (Bd.below_nn (y := Bd.stop ps n) ps hnn).2
    omega
/-- Better bids are served first. -/
theorem Al.res_order {ps : List Pr} {n : Int} (h : Bd.auc ps n = true) {i k : Nat} (hi : i < ps.length) (hk : k < ps.length) (h1 : (Al.res ps n).getD i 0 < (ps.getD i pr0).2) (h2 : (ps.getD i pr0).1 < (ps.getD k pr0).1) : (Al.res ps n).getD k 0 = 0 := by
  unfold Al.res at *
  split at h1
  · rw [Al.all_at hi] at h1; omega
  · rename_i c
    rw [if_neg c]
    have ok := Al.ok_of h (by omega)
    obtain ⟨-, -, g1, -⟩ := ok.one hi
    obtain ⟨-, -, -, g2⟩ := ok.one hk
    refine g2 ?_
    rcases Int.lt_or_le (ps.getD i pr0).1 (Bd.stop ps n) with d | d
    · have := g1 d; omega
    · omega
theorem Al.eq_of_sum : ∀ (a b : List Int), a.length = b.length → (∀ i, i < b.length → a.getD i 0 ≤ b.getD i 0) → b.sum ≤ a.sum → a = b
  | [], [], _, _, _ => rfl
  | x :: a, y :: b, hl, h, hs => by
    have h0 := h 0 (by simp)
    simp only [List.getD_cons_zero] at h0
    have ht : ∀ i, i < b.length → a.getD i 0 ≤ b.getD i 0 := fun i hi => by have := h (i + 1) (by simpa using hi); simpa using this
    have hle : ∀ (a b : List Int), a.length = b.length → (∀ i, i < b.length → a.getD i 0 ≤ b.getD i 0) → a.sum ≤ b.sum := by
      intro a
      induction a with
      | nil => intro b hl _; cases b with
        | nil => exact Int.le_refl _
        | cons => simp at hl
      | cons x a ih => intro b hl h; cases b with
        | nil => simp at hl
        | cons y b =>
          have h0 := h 0 (by simp)
          have := ih b (by simpa using hl) (fun i hi => by have := h (i + 1) (by simpa using hi); simpa using this)
          simp only [List.getD_cons_zero] at h0
          simp only [List.sum_cons]; omega
    have hab := hle a b (by simpa using hl) ht
    simp only [List.sum_cons] at hs
    have e := Al.eq_of_sum a b (by simpa using hl) ht (by omega)
    rw [e, show x = y by omega]
  | [], _ :: _, h, _, _ => by simp at h
  | _ :: _, [], h, _, _ => by simp at h
/-- As many bonds as all want, or more: each gets what it wants. -/
theorem Al.res_all {ps : List Pr} {n : Int} (h : Bd.auc ps n = true) (hn : Bd.sum ps ≤ n) : Al.res ps n = Al.all ps := by
  refine Al.eq_of_sum _ _ (by rw [Al.res_len h]; exact (Al.want_len _ _).symm) (fun i hi => ?_) ?_
  · have hi2 : i < ps.length := by rw [show (Al.all ps).length = ps.length from Al.want_len _ _] at hi; exact hi
    rw [Al.all_at hi2]
    exact (Al.res_bd h hi2).2
  · rw [Al.sum_all, Al.res_sum h]; omega
/-- The first ones are those of one row, the others those of another one. -/
def Al.mix (z a : List Int) (j : Nat) : List Int := z.take j ++ a.drop j
theorem Al.mix_len {z a : List Int} (h : z.length = a.length) {j : Nat} (hj : j ≤ a.length) : (Al.mix z a j).length = a.length := by
  unfold Al.mix; rw [List.length_append, List.length_take, List.length_drop]; omega
theorem Al.mix_at {z a : List Int} (h : z.length = a.length) {j : Nat} (hj : j < a.length) : (Al.mix z a j).getD j 0 = a.getD j 0 := by
  unfold Al.mix
  rw [List.getD_eq_getElem?_getD, List.getElem?_append_right (by rw [List.length_take]; omega), List.length_take, show j - min j z.length = 0 by omega, List.getElem?_drop, List.getD_eq_getElem?_getD, Nat.add_zero]
theorem Al.mix_set {z a : List Int} (h : z.length = a.length) {j : Nat} (hj : j < a.length) : (Al.mix z a j).set j (z.getD j 0) = Al.mix z a (j + 1) := by
  unfold Al.mix
  rw [take_snoc1 (by omega), List.append_assoc, List.set_append_right _ _ (by rw [List.length_take]; omega), List.length_take, show j - min j z.length = 0 by omega, List.drop_eq_getElem_cons hj]
  rfl
theorem Al.mix_end {z a : List Int} (h : z.length = a.length) : Al.mix z a a.length = z := by
  unfold Al.mix; rw [List.drop_length, List.append_nil, List.take_of_length_le (by omega)]
theorem Al.mix_zero (z a : List Int) : Al.mix z a 0 = a := by unfold Al.mix; simp
end Go.Proofs.Ytgiejiiiokdbpaa
