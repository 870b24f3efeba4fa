/- Totals, on both sides; the exact law. -/
import Derived.Test.YtojhiclkaedplaaDoorFlowX
namespace Go.Proofs.YtojhiclkaedplaaDoor
open Go.RowKit
/-- The sum of the first i amounts. -/
def sumTo (fs : List Flo) : Nat → Int
  | 0 => 0
  | i + 1 => sumTo fs i + (fs.getD i f0).2
noncomputable def totV (s e m r : Int) : Int := if (floL s e m r).length = 0 then -1 else sumTo (floL s e m r) (floL s e m r).length
theorem flo_bd (s e m r : Int) {i : Nat} (hi : i < (floL s e m r).length) : 0 ≤ ((floL s e m r).getD i f0).2 ∧ ((floL s e m r).getD i f0).2 ≤ 130000000 := by
  have hl := floL_len s e m r
  have hz : perL s e m r ≠ [] := fun h => by rw [h] at hl; have hl0 : (floL s e m r).length = 0 := hl; omega
  obtain ⟨⟨m0, m1⟩, ⟨r0, r1⟩, -, hpf⟩ := per_facts hz
  have hc : ∀ j, j < (perL s e m r).length → 0 ≤ ((cpnL s e m r).getD j f0).2 ∧ ((cpnL s e m r).getD j f0).2 ≤ 120000000 := fun j hj => by
    obtain ⟨f, t, z, hg, h0, h1, h2, hA⟩ := hpf j hj
    rw [show cpnL s e m r = (perL s e m r).map fun p => (p.2.1, cpnV m r p.1 p.2.1 p.2.2) from rfl, map_at _ (perL s e m r) p0 f0 hj, hg]
    exact cpn_bd z m0 m1 r0 r1 h0 h1 h2 hA
  unfold floL faced
  have hcl := cpnL_len s e m r
  rw [set_at _ _ _ _ (by omega)]
  by_cases c : i = (cpnL s e m r).length - 1
  · rw [if_pos c]
    have := hc ((cpnL s e m r).length - 1) (by omega)
    dsimp only
    omega
  · rw [if_neg c]
    have := hc i (by omega)
    omega
theorem sumTo_bd {fs : List Flo} {n : Nat} (h : ∀ i, i < n → 0 ≤ (fs.getD i f0).2 ∧ (fs.getD i f0).2 ≤ 130000000) : ∀ i, i ≤ n → 0 ≤ sumTo fs i ∧ sumTo fs i ≤ 130000000 * i
  | 0, _ => by simp [sumTo]
  | i + 1, hi => by
    have := sumTo_bd h i (by omega)
    have := h i (by omega)
    simp only [sumTo]
    omega
end Go.Proofs.YtojhiclkaedplaaDoor
