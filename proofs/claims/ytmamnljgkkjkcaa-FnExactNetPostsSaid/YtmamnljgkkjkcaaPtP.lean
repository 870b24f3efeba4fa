/- A posting without an amount below 0. -/
import Derived.Test.YtmamnljgkkjkcaaTrPPost
import Derived.Test.YtmamnljgkkjkcaaPsD
namespace Go.Proofs.Ytmamnljgkkjkcaa
open Go.RowKit
/-- The same move without an amount below 0. -/
def Pt.pos (p : Tri) : Tri := if p.2.2 < 0 then (p.2.1, p.1, -p.2.2) else p
set_option maxHeartbeats 400000 in
theorem positive_any (p : Tri) (w : World) (h0 : -1000000000000 ≤ p.2.2) (h1 : p.2.2 ≤ 1000000000000) :
    Calls Try.prog 54 #[triV p] w fun e w' => e = .returned (triV (Pt.pos p)) ∧ Below w.heap.size w w' := by
  obtain ⟨f, t, u⟩ := p
  simp only at h0 h1
  have hb0 := (Below.refl w.heap.size w).alloc (Nat.le_refl _) (.cells #[.int .i64 f, .int .i64 t, .int .i64 u] 40)
  by_cases hu : u < 0
  · have hu' := decide_eq_true hu
    have W1 : IntKind.i64.wrap (-u) = -u := IntWalk.i64_in _ (by omega)
    have e : Pt.pos (f, t, u) = (t, f, -u) := if_pos hu
    rw [e]
    clear e hu
    go_enter Try.func54, Try.ntmps54
    go_wp2_with fail
    refine bodyPost_ret (v := triV (t, f, -u)) (by simp [results, Try.results54, go_sem]) rfl ⟨rfl, ?_⟩
    repeat (refine Below.setCell ?_ (by simp <;> omega) _)
    exact hb0.alloc (by simp) _
  · have hu' := decide_eq_false hu
    have e : Pt.pos (f, t, u) = (f, t, u) := if_neg hu
    rw [e]
    clear e hu
    go_enter Try.func54, Try.ntmps54
    go_wp2_with fail
    refine bodyPost_ret (v := triV (f, t, u)) (by simp [results, Try.results54, go_sem]) rfl ⟨rfl, ?_⟩
    repeat (refine Below.setCell ?_ (by simp <;> omega) _)
    exact hb0.alloc (by simp) _
end Go.Proofs.Ytmamnljgkkjkcaa
