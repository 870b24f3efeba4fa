/- The walks of the laws of ranges. -/
import Derived.Test.YtdmamojidefdaaaDoorRgd
import Derived.Outline
namespace Go.Proofs.YtdmamojidefdaaaDoor
open Go.RowKit
theorem Blk.after {W D w' : World} {B b : Nat} {t : TypeId} {cs : Array Value} (h : Blk W b t cs) (hb : Below B D w') (e : D.heap = W.heap) (hB : b < B) : Blk w' b t cs :=
  (hb.block b hB).trans (by rw [e]; exact h)
theorem inB_t {p q n : Int} (hv : Rg.vr p q = true) (h0 : p ≤ n) (h1 : n ≤ q) : inB p q n = true := by unfold inB; rw [hv, btw_t h0 h1]; rfl
theorem tv_form (r : Rg.R) : ∃ x y t, tv r = .tuple #[rV x y, .bool t] := ⟨_, _, _, rfl⟩
set_option maxHeartbeats 400000 in
theorem within_t (m n p q : Int) (w : World) (h0 : p ≤ m) (h1 : n ≤ q) :
    Calls Tryd.prog 10 #[rV m n, rV p q] w fun e w' => e = .returned (.bool true) ∧ Below w.heap.size w w' := by
  go_enter Tryd.func10, Tryd.ntmps10
  go_wp2_with fail
  go_ret
  exact ⟨rfl, ((Below.refl _ _).alloc (Nat.le_refl _) _).alloc (by simp) _⟩
end Go.Proofs.YtdmamojidefdaaaDoor
