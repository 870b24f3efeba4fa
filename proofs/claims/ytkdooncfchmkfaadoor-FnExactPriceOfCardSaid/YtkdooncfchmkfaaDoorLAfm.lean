/- The laws of the payments behind a day: draws, what the model leaves. -/
import Derived.Test.YtkdooncfchmkfaaDoorPay
import Derived.Test.YtkdooncfchmkfaaDoorDrawDay
import Derived.Test.YtkdooncfchmkfaaDoorLFlow
namespace Go.Proofs.YtkdooncfchmkfaaDoor
open Go.RowKit
theorem aft_tail (d : Int) : ∀ (fs : List Flo), (∀ i, 0 < i → i < fs.length → (fs.getD (i - 1) f0).1 < (fs.getD i f0).1) →
    ∃ k, k ≤ fs.length ∧ aftL fs d = fs.drop k ∧ (∀ i, i < k → (fs.getD i f0).1 ≤ d) ∧ (∀ i, k ≤ i → i < fs.length → d < (fs.getD i f0).1)
  | [], _ => ⟨0, by simp, by simp [aftL], by intro i h; omega, by intro i _ h; simp at h⟩
  | p :: fs, hs => by
    obtain ⟨k, h1, h2, h3, h4⟩ := aft_tail d fs (fun i i0 hi => by
      have := hs (i + 1) (by omega) (by simpa using hi)
      obtain ⟨j, rfl⟩ : ∃ j, i = j + 1 := ⟨i - 1, by omega⟩
      simpa using this)
    by_cases c : d < p.1
    · have hk : k = 0 := by
        rcases Nat.eq_zero_or_pos k with h | h
        · exact h
        · have q := h3 0 h
          have q2 := hs 1 (by omega) (by simp; omega)
          simp only [List.getD_cons_succ, Nat.sub_self, List.getD_cons_zero] at q2
          omega
      subst hk
      refine ⟨0, by simp, ?_, fun i h => by omega, fun i _ hi => ?_⟩
      · unfold aftL at h2 ⊢
        rw [List.filter_cons, if_pos (by simpa using c), h2]; rfl
      · rcases i with _ | i
        · simpa using c
        · simpa using h4 i (by omega) (by simpa using hi)
    · refine ⟨k + 1, by simpa using h1, ?_, fun i h => ?_, fun i hk hi => ?_⟩
      · unfold aftL at h2 ⊢
        rw [List.filter_cons, if_neg (by simpa using c), h2]; rfl
      · rcases i with _ | i
        · simpa using c
        · simpa using h3 i (by omega)
      · rcases i with _ | i
        · omega
        · simpa using h4 i (by omega) (by simpa using hi)
theorem flo_from {s e m r : Int} (n : Nat) (hn : n = (floL s e m r).length) (h1 : 1 ≤ n) : s < ((floL s e m r).getD 0 f0).1 := by
  have hl := floL_len s e m r
  have hz : perL s e m r ≠ [] := fun h => by rw [h] at hl; have hl0 : (floL s e m r).length = 0 := hl; omega
  have hp : perL s e m r = Sc.sch s e m := by
    unfold perL at hz ⊢
    by_cases c : btw r 0 3000 = true
    · rw [if_pos c]
    · rw [if_neg c] at hz; exact absurd rfl hz
  have hz2 := hz
  rw [hp] at hz2
  obtain ⟨ok, hN, hall⟩ := Sc.sch_pos hz2
  have hlen : (perL s e m r).length = Sc.N s e m := by rw [hp, hall, Sc.all_len]
  have hf := fun i hi => @Sc.all_facts s e m ok hN i hi
  rw [← hall, ← hp] at hf
  rw [flo_day s e m r (by omega)]
  obtain ⟨f, t, b, hg, hlt, -, -, -, h0, -⟩ := hf 0 (by omega)
  rw [show (perL s e m r).getD 0 p0 = (f, t, b) from hg]
  have := h0 rfl
  show s < t
  omega
/-- Sorted days. -/
theorem flo_sorted {s e m r : Int} (i : Nat) (i0 : 0 < i) (hi : i < (floL s e m r).length) : ((floL s e m r).getD (i - 1) f0).1 < ((floL s e m r).getD i f0).1 := (flo_order _ rfl (by omega)).1 i i0 hi
theorem flo_le {s e m r : Int} : ∀ (i : Nat), i < (floL s e m r).length → s < ((floL s e m r).getD i f0).1
  | 0, h => flo_from _ rfl (by omega)
  | i + 1, h => by
    have h1 := flo_le (s := s) (e := e) (m := m) (r := r) i (by omega)
    have h2 := flo_sorted (i + 1) (by omega) h
    simp only [Nat.add_sub_cancel] at h2
    omega
theorem flo_ge {s e m r : Int} : ∀ (j : Nat), j < (floL s e m r).length → ((floL s e m r).getD ((floL s e m r).length - 1 - j) f0).1 ≤ e
  | 0, h => by have := (flo_order (s := s) (e := e) (m := m) (r := r) _ rfl (by omega)).2.1; simp only [Nat.sub_zero]; omega
  | j + 1, h => by
    have h1 := flo_ge (s := s) (e := e) (m := m) (r := r) j (by omega)
    have h2 := flo_sorted (s := s) (e := e) (m := m) (r := r) ((floL s e m r).length - 1 - j) (by omega) (by omega)
    rw [show (floL s e m r).length - 1 - j - 1 = (floL s e m r).length - 1 - (j + 1) by omega] at h2
    omega
theorem aft_end (s e m r : Int) : aftL (floL s e m r) e = [] := by
  unfold aftL
  rw [List.filter_eq_nil_iff]
  intro p hp
  obtain ⟨i, hi, rfl⟩ := List.getElem_of_mem hp
  have h := flo_ge (s := s) (e := e) (m := m) (r := r) ((floL s e m r).length - 1 - i) (by omega)
  rw [show (floL s e m r).length - 1 - ((floL s e m r).length - 1 - i) = i by omega, List.getD_eq_getElem?_getD, List.getElem?_eq_getElem hi] at h
  simpa using h
theorem aft_start (s e m r : Int) : aftL (floL s e m r) (s - 1) = floL s e m r := by
  unfold aftL
  rw [List.filter_eq_self]
  intro p hp
  obtain ⟨i, hi, rfl⟩ := List.getElem_of_mem hp
  have h := flo_le (s := s) (e := e) (m := m) (r := r) i hi
  rw [List.getD_eq_getElem?_getD, List.getElem?_eq_getElem hi] at h
  simp at h ⊢
  omega
end Go.Proofs.YtkdooncfchmkfaaDoor
