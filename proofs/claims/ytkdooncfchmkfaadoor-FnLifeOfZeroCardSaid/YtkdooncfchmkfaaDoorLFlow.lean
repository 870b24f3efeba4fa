/- The law of payments. -/
import Derived.Test.YtkdooncfchmkfaaDoorLBond
import Derived.Outline
namespace Go.Proofs.YtkdooncfchmkfaaDoor
open Go.RowKit
theorem flo_day (s e m r : Int) {i : Nat} (hi : i < (perL s e m r).length) : ((floL s e m r).getD i f0).1 = ((perL s e m r).getD i p0).2.1 := by
  have hcl := cpnL_len s e m r
  have hg : ∀ j, j < (perL s e m r).length → ((cpnL s e m r).getD j f0).1 = ((perL s e m r).getD j p0).2.1 := fun j hj => by
    rw [show cpnL s e m r = (perL s e m r).map fun p => (p.2.1, cpnV m r p.1 p.2.1 p.2.2) from rfl, map_at _ (perL s e m r) p0 f0 hj]
  unfold floL faced
  rw [set_at _ _ _ _ (by omega)]
  by_cases c : i = (cpnL s e m r).length - 1
  · rw [if_pos c]; dsimp only; rw [← c]; exact hg i hi
  · rw [if_neg c]; exact hg i hi
theorem flo_order {s e m r : Int} (n : Nat) (hn : n = (floL s e m r).length) (h1 : 1 ≤ n) :
    (∀ i, 0 < i → i < n → ((floL s e m r).getD (i - 1) f0).1 < ((floL s e m r).getD i f0).1) ∧ ((floL s e m r).getD (n - 1) f0).1 = e ∧ 10000 ≤ ((floL s e m r).getD (n - 1) f0).2 := by
  have hl := floL_len s e m r
  have hz : perL s e m r ≠ [] := fun h => by rw [h] at hl; have hl0 : (floL s e m r).length = 0 := hl; omega
  have hp : perL s e m r = Sc.sch s e m := by
    unfold perL at hz ⊢
    by_cases c : btw r 0 3000 = true
    · rw [if_pos c]
    · rw [if_neg c] at hz; exact absurd rfl hz
  have hz2 := hz
  rw [hp] at hz2
  obtain ⟨ok, hN, hall⟩ := Sc.sch_pos hz2
  have hlen : (perL s e m r).length = Sc.N s e m := by rw [hp, hall, Sc.all_len]
  have hf := fun i hi => @Sc.all_facts s e m ok hN i hi
  rw [← hall, ← hp] at hf
  refine ⟨fun i i0 hi => ?_, ?_, ?_⟩
  · rw [flo_day s e m r (by omega), flo_day s e m r (by omega)]
    obtain ⟨f, t, b, hg, hlt, -, -, -, -, -, hpre⟩ := hf i (by omega)
    obtain ⟨-, hq⟩ := hpre i0
    rw [show (perL s e m r).getD i p0 = (f, t, b) from hg]
    show ((perL s e m r).getD (i - 1) (0, 0, false)).2.1 < t
    omega
  · rw [flo_day s e m r (by omega)]
    obtain ⟨f, t, b, hg, -, -, -, -, -, he, -⟩ := hf (n - 1) (by omega)
    rw [show (perL s e m r).getD (n - 1) p0 = (f, t, b) from hg]
    exact he (by omega)
  · obtain ⟨⟨m0, m1⟩, ⟨r0, r1⟩, -, hpf⟩ := per_facts hz
    have hcl := cpnL_len s e m r
    unfold floL faced
    rw [set_at _ _ _ _ (by omega), if_pos (by omega)]
    obtain ⟨f, t, z, hg, h0, h1', h2, hA⟩ := hpf ((cpnL s e m r).length - 1) (by omega)
    dsimp only
    have : ((cpnL s e m r).getD ((cpnL s e m r).length - 1) f0).2 = cpnV m r f t z := by
      rw [show cpnL s e m r = (perL s e m r).map fun p => (p.2.1, cpnV m r p.1 p.2.1 p.2.2) from rfl, List.length_map, map_at _ (perL s e m r) p0 f0 (by omega), show (perL s e m r).length - 1 = (cpnL s e m r).length - 1 by omega, hg]
    rw [this]
    have := cpn_bd z m0 m1 r0 r1 h0 h1' h2 hA
    omega
end Go.Proofs.YtkdooncfchmkfaaDoor
