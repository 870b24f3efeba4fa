/- The law of payments and rates. -/
import Derived.Test.YtkdooncfchmkfaaDoorLFlow
namespace Go.Proofs.YtkdooncfchmkfaaDoor
open Go.RowKit
theorem near_up {a b d : Int} (hd : 1 ≤ d) (h : a ≤ b) : Rt.near a d ≤ Rt.near b d := by unfold Rt.near; exact Int.ediv_le_ediv (by omega) (by omega)
theorem near_0 {d : Int} (hd : 1 ≤ d) : Rt.near 0 d = 0 := by unfold Rt.near; exact Int.ediv_eq_zero_of_lt (by omega) (by omega)
theorem whole_up {m r : Int} (m0 : 1 ≤ m) : wholeV m r ≤ wholeV m (r + 1) := by
  unfold wholeV
  refine near_up (by decide) ?_
  rw [Int.mul_add, Int.add_mul]
  omega
theorem cpn_up {m r f t : Int} (z : Bool) (m0 : 1 ≤ m) (f1 : f < t) (hA : addV t (-m) < t) : cpnV m r f t z ≤ cpnV m (r + 1) f t z := by
  unfold cpnV
  have hw := whole_up (r := r) m0
  split
  · exact hw
  · have h1 : fullF m f t < t := by unfold fullF; split <;> omega
    exact near_up (by omega) (Int.mul_le_mul_of_nonneg_right hw (by omega))
theorem cpn_0 {m f t : Int} (z : Bool) (f1 : f < t) (hA : addV t (-m) < t) : cpnV m 0 f t z = 0 := by
  have hw : wholeV m 0 = 0 := by unfold wholeV; rw [show 10000 * (0 : Int) * m = 0 by simp]; exact near_0 (by decide)
  unfold cpnV
  rw [hw]
  split
  · rfl
  · have h1 : fullF m f t < t := by unfold fullF; split <;> omega
    rw [Int.zero_mul]; exact near_0 (by omega)
theorem perL_rate {s e m r r' : Int} (h : btw r 0 3000 = true) (h' : btw r' 0 3000 = true) : perL s e m r = perL s e m r' := by unfold perL; rw [if_pos h, if_pos h']
theorem flo_at {s e m r : Int} {i : Nat} (hi : i < (perL s e m r).length) : (floL s e m r).getD i f0 = (((perL s e m r).getD i p0).2.1, cpnV m r ((perL s e m r).getD i p0).1 ((perL s e m r).getD i p0).2.1 ((perL s e m r).getD i p0).2.2 + (if i = (perL s e m r).length - 1 then 10000 else 0)) := by
  have hcl := cpnL_len s e m r
  have hg : ∀ j, j < (perL s e m r).length → (cpnL s e m r).getD j f0 = (((perL s e m r).getD j p0).2.1, cpnV m r ((perL s e m r).getD j p0).1 ((perL s e m r).getD j p0).2.1 ((perL s e m r).getD j p0).2.2) := fun j hj => by
    rw [show cpnL s e m r = (perL s e m r).map fun p => (p.2.1, cpnV m r p.1 p.2.1 p.2.2) from rfl, map_at _ (perL s e m r) p0 f0 hj]
  unfold floL faced
  rw [set_at _ _ _ _ (by omega), hcl]
  by_cases c : i = (perL s e m r).length - 1
  · rw [if_pos c, if_pos c, ← c, hg i hi]
  · rw [if_neg c, if_neg c, hg i hi, Int.add_zero]
theorem per_ne {s e m r : Int} (h : floL s e m r ≠ []) : perL s e m r ≠ [] := fun k => by
  have hl := floL_len s e m r
  rw [k] at hl
  exact h (List.eq_nil_of_length_eq_zero hl)
theorem flo_rate {s e m r : Int} (h : floL s e m r ≠ []) : (0 ≤ r ∧ r ≤ 3000) ∧ (r ≠ 3000 → (floL s e m (r + 1)).length = (floL s e m r).length ∧ ∀ i, i < (floL s e m r).length → ((floL s e m r).getD i f0).2 ≤ ((floL s e m (r + 1)).getD i f0).2 ∧ ((floL s e m (r + 1)).getD i f0).1 = ((floL s e m r).getD i f0).1) := by
  obtain ⟨⟨m0, m1⟩, ⟨r0, r1⟩, -, hpf⟩ := per_facts (per_ne h)
  refine ⟨⟨r0, r1⟩, fun h3 => ?_⟩
  have hp : perL s e m (r + 1) = perL s e m r := perL_rate (btw_t (by omega) (by omega)) (btw_t r0 r1)
  have hl := floL_len s e m r
  have hl2 := floL_len s e m (r + 1)
  rw [hp] at hl2
  refine ⟨by omega, fun i hi => ?_⟩
  rw [flo_at (r := r) (by omega), flo_at (r := r + 1) (by rw [hp]; omega), hp]
  obtain ⟨f, t, z, hg, a0, a1, a2, hA⟩ := hpf i (by omega)
  rw [hg]
  dsimp only
  have := cpn_up (r := r) z m0 a1 hA
  exact ⟨by omega, rfl⟩
theorem sum_0 {fs : List Flo} {n : Nat} (h : ∀ i, i < n → (fs.getD i f0).2 = if i = n - 1 then 10000 else 0) : ∀ i, i < n → sumTo fs i = 0
  | 0, _ => rfl
  | i + 1, hi => by
    simp only [sumTo]
    rw [sum_0 h i (by omega), h i (by omega), if_neg (by omega)]
    rfl
theorem flo_zero {s e m r : Int} (h : floL s e m r ≠ []) : totV s e m 0 = 10000 := by
  obtain ⟨⟨m0, m1⟩, ⟨r0, r1⟩, -, hpf⟩ := per_facts (per_ne h)
  have hp : perL s e m 0 = perL s e m r := perL_rate (by decide) (btw_t r0 r1)
  have hl := floL_len s e m r
  have hl2 := floL_len s e m 0
  rw [hp] at hl2
  have hn : (floL s e m r).length ≠ 0 := fun k => h (List.eq_nil_of_length_eq_zero k)
  unfold totV
  rw [if_neg (by omega)]
  obtain ⟨k, hk⟩ : ∃ k, (floL s e m 0).length = k + 1 := ⟨(floL s e m 0).length - 1, by omega⟩
  have hv : ∀ i, i < k + 1 → ((floL s e m 0).getD i f0).2 = if i = k + 1 - 1 then 10000 else 0 := fun i hi => by
    rw [flo_at (r := 0) (by rw [hp]; omega), hp, show (perL s e m r).length = k + 1 by omega]
    obtain ⟨f, t, z, hg, a0, a1, a2, hA⟩ := hpf i (by omega)
    rw [hg]
    dsimp only
    rw [cpn_0 z a1 hA, Int.zero_add]
  rw [hk]
  simp only [sumTo]
  rw [sum_0 hv k (by omega), hv k (by omega)]
  simp
end Go.Proofs.YtkdooncfchmkfaaDoor
