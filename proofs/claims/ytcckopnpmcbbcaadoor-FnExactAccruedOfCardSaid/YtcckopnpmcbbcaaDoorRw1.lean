/- The walks of the program's functions of ratios. -/
import Derived.Test.YtcckopnpmcbbcaaDoorRat
import Derived.Test.YtcckopnpmcbbcaaDoorProg
import Derived.Test.YtcckopnpmcbbcaaDoorMinMax
import Derived.WalkKit
import Derived.WalkSpells
import Derived.WalkLawsBesides
import Derived.Lib.Hide
import Derived.Below
import Derived.Deep.QuietTactic
import Derived.BigQuiet
import Derived.IntWalk
import Derived.Test.YtcckopnpmcbbcaaDoorDrawB
import Derived.Test.YtcckopnpmcbbcaaDoorSpec
namespace Go.Proofs.YtcckopnpmcbbcaaDoor
open Go.RowKit
theorem Blk.drewN {w : World} {b : Nat} {t : TypeId} {cs : Array Value} (h : Blk w b t cs) (n : Nat) : Blk (w.drewN n) b t cs := h
theorem Blk.two {w : World} {b : Nat} {t : TypeId} {x y : Value} (h : Blk w b t #[x, y]) :
    (w.cell? ⟨b, 0, none⟩ = some x ∧ w.cell? ⟨b, 1, none⟩ = some y) ∧ (w.frozen? ⟨b, 0, none⟩ = false ∧ w.frozen? ⟨b, 1, none⟩ = false) := by
  unfold Blk at h
  simp [World.cell?, World.frozen?, h]
theorem Rt.g_abs (a b : Int) : Rt.g (max a (-a)) b = Rt.g a b := by
  by_cases h : a < 0
  · rw [show max a (-a) = -a by omega]; exact Rt.g_neg a b
  · rw [show max a (-a) = a by omega]
end Go.Proofs.YtcckopnpmcbbcaaDoor
