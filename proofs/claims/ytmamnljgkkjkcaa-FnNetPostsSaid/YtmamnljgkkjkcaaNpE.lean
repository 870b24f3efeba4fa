/- Netting: what the law says, as mathematics. -/
import Derived.Test.YtmamnljgkkjkcaaNq
namespace Go.Proofs.Ytmamnljgkkjkcaa
open Go.RowKit
theorem Np.val_len (ps : List Tri) : (Np.val ps).1.length ≤ 25 := by
  unfold Np.val
  split
  · show (Np.net _).length ≤ 25
    rw [← Np.all_net]
    exact Np.all_len _ 5 (by omega)
  · simp
theorem Np.key_cases {p q : Tri} (hp : Np.key p ≠ Np.key q) : ¬ (p.1 = q.1 ∧ p.2.1 = q.2.1) ∧ ¬ (p.1 = q.2.1 ∧ p.2.1 = q.1) := by
  obtain ⟨a, b, c⟩ := p
  obtain ⟨x, y, z⟩ := q
  simp only [Np.key] at hp ⊢
  constructor
  · rintro ⟨rfl, rfl⟩
    exact hp rfl
  · rintro ⟨rfl, rfl⟩
    apply hp
    by_cases c1 : a < b
    · rw [if_pos c1, if_neg (by omega)]
    · rw [if_neg c1]
      by_cases c2 : b < a
      · rw [if_pos c2]
      · rw [if_neg c2]
        have : a = b := by omega
        rw [this]
theorem Np.good {ps : List Tri} (h : (Np.val ps).2 = true) :
    (∀ x : Int, Bl.val (Np.val ps).1 x = Bl.val ps x) ∧ (∀ i k : Nat, i < (Np.val ps).1.length → k < i → ¬ (((Np.val ps).1.getD i t0).1 = ((Np.val ps).1.getD k t0).1 ∧ ((Np.val ps).1.getD i t0).2.1 = ((Np.val ps).1.getD k t0).2.1) ∧ ¬ (((Np.val ps).1.getD i t0).1 = ((Np.val ps).1.getD k t0).2.1 ∧ ((Np.val ps).1.getD i t0).2.1 = ((Np.val ps).1.getD k t0).1)) ∧
      Np.val (Np.val ps).1 = ((Np.val ps).1, true) := by
  have hc : Ps.ok ps = true ∧ Np.fit (Np.d ps) = true := by
    by_cases c : Ps.ok ps = true ∧ Np.fit (Np.d ps) = true
    · exact c
    · exfalso
      unfold Np.val at h
      rw [if_neg c] at h
      exact absurd h (by simp)
  have e : Np.val ps = (Np.net (Np.d ps), true) := if_pos hc
  rw [e]
  simp only
  have hok : Ps.ok (Np.net (Np.d ps)) = true := by rw [Np.net_ok]; exact hc.2
  refine ⟨fun x => ?_, fun i k hi hk => ?_, ?_⟩
  · unfold Bl.val
    rw [if_pos hok, if_pos hc.1, Np.bal_net]
    have hall : ∀ p ∈ ps, Ps.one p = true := by
      have := hc.1
      unfold Ps.ok at this
      rw [Bool.and_eq_true] at this
      exact List.all_eq_true.1 this.2
    exact Np.T_d hall x
  · refine Np.key_cases ?_
    have hn := Np.keys (Np.d ps)
    generalize Np.net (Np.d ps) = L at hi hn ⊢
    have hk' : k < L.length := by omega
    rw [List.getD_eq_getElem?_getD, List.getD_eq_getElem?_getD, List.getElem?_eq_getElem hi, List.getElem?_eq_getElem hk']
    simp only [Option.getD_some]
    intro hE
    have := List.pairwise_iff_getElem.1 hn k i (by rw [List.length_map]; exact hk') (by rw [List.length_map]; exact hi) hk
    exact this (by simpa using hE.symm)
  · have hf : Np.fit (Np.d (Np.net (Np.d ps))) = true := by
      have := hok
      rw [← Np.twice, Np.net_ok] at this
      exact this
    show (if Ps.ok (Np.net (Np.d ps)) = true ∧ Np.fit (Np.d (Np.net (Np.d ps))) = true then _ else _) = _
    rw [if_pos ⟨hok, hf⟩, Np.twice]
end Go.Proofs.Ytmamnljgkkjkcaa
