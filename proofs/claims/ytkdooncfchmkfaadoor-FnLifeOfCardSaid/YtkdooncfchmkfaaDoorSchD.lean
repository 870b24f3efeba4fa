/- Draws of schedules; comparing schedules. -/
import Derived.Test.YtkdooncfchmkfaaDoorSchT
namespace Go.Proofs.YtkdooncfchmkfaaDoor
open Go.RowKit
theorem isRow_below' {k : IntKind} {w w' : World} {a : Option Addr} {len cap : Nat} {zs : List Int} (h : IsRow k w a len cap zs) (hb : Below w.heap.size w w') : IsRow k w' a len cap zs := by
  rcases h with h | ⟨x, e, h1, h2, h3, h4, h5⟩
  · exact .inl h
  · exact .inr ⟨x, e, h1, h2, h3, fun i hi => (hb.cell (p := x.add i) (World.block_lt_of_cell? w _ (h4 i hi))).trans (h4 i hi), h5⟩
/-- Three numbers drawn. -/
def DSc (w : World) (x : Ending) (w' : World) : Prop :=
  ∃ s e m : Int, x = .returned (.tuple #[.int .i64 s, .int .i64 e, .int .i64 m]) ∧ (-1 ≤ s ∧ s ≤ 36525) ∧ (-2 ≤ e ∧ e ≤ 60000) ∧ (0 ≤ m ∧ m ≤ 12) ∧ Below w.heap.size w w'
namespace Sc
theorem sch_pos {s e m : Int} (h : sch s e m ≠ []) : okB s e m = true ∧ N s e m ≤ 40 ∧ sch s e m = all s e m := by
  unfold sch at h ⊢
  by_cases c : okB s e m = true ∧ N s e m ≤ 40
  · exact ⟨c.1, c.2, if_pos c⟩
  · rw [if_neg c] at h; exact absurd rfl h
/-- What is known of the periods of a schedule. -/
theorem all_facts {s e m : Int} (h : okB s e m = true) (hn : N s e m ≤ 40) {i : Nat} (hi : i < N s e m) :
    ∃ f t : Int, ∃ b : Bool, (all s e m).getD i (0, 0, false) = (f, t, b) ∧ f < t ∧ (-1 ≤ f ∧ f ≤ 36524) ∧ (-1 ≤ t ∧ t ≤ 36524) ∧ t = S e m (N s e m - 1 - i) ∧ (i = 0 → f = s) ∧ (i + 1 = N s e m → t = e) ∧
      (0 < i → b = true ∧ f = ((all s e m).getD (i - 1) (0, 0, false)).2.1) := by
  have k := isN h
  obtain ⟨⟨s0, se, e1⟩, hm⟩ := okB_iff.1 h
  obtain ⟨m0, m1⟩ := mon_bd hm
  rw [all_get hi]
  have g1 := k.gt (N s e m - i - 1) (by omega)
  have hlt := S_lt (e := e) (m := m) (j := N s e m - i - 1) (k := N s e m - i) m0 (by omega) (by omega) (by have := km_bd hm (k := N s e m - i - 1) (by omega); omega)
  have b1 := S_bd e m (N s e m - i)
  have b2 := S_bd e m (N s e m - i - 1)
  refine ⟨max (S e m (N s e m - i)) s, S e m (N s e m - i - 1), decide (s ≤ S e m (N s e m - i)), rfl, by omega, by omega, b2, by rw [show N s e m - 1 - i = N s e m - i - 1 by omega], fun hz => ?_, fun hz => ?_, fun hz => ?_⟩
  · subst hz
    have := k.le (by omega)
    rw [show N s e m - 0 = N s e m from rfl]; omega
  · rw [show N s e m - i - 1 = 0 by omega, S_zero (by omega) e1]
  · have g2 := k.gt (N s e m - i) (by omega)
    rw [all_get (show i - 1 < N s e m by omega)]
    refine ⟨decide_eq_true (by omega), ?_⟩
    show max (S e m (N s e m - i)) s = S e m (N s e m - (i - 1) - 1)
    rw [show N s e m - (i - 1) - 1 = N s e m - i by omega]; omega
end Sc
end Go.Proofs.YtkdooncfchmkfaaDoor
