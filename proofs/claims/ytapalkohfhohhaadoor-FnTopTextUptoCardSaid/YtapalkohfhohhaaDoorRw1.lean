/- The walks of the program's functions of ratios. -/
import Derived.Test.YtapalkohfhohhaaDoorRat
import Derived.Test.YtapalkohfhohhaaDoorProg
import Derived.WalkKit
import Derived.WalkSpells
import Derived.WalkLawsBesides
import Derived.Lib.Hide
import Derived.Below
import Derived.Deep.QuietTactic
import Derived.BigQuiet
import Derived.IntWalk
import Derived.Test.YtapalkohfhohhaaDoorDrawB
import Derived.Test.YtapalkohfhohhaaDoorSpec
namespace Go.Proofs.YtapalkohfhohhaaDoor
open Go.RowKit
theorem Blk.drewN {w : World} {b : Nat} {t : TypeId} {cs : Array Value} (h : Blk w b t cs) (n : Nat) : Blk (w.drewN n) b t cs := h
theorem Blk.two {w : World} {b : Nat} {t : TypeId} {x y : Value} (h : Blk w b t #[x, y]) :
    (w.cell? ⟨b, 0, none⟩ = some x ∧ w.cell? ⟨b, 1, none⟩ = some y) ∧ (w.frozen? ⟨b, 0, none⟩ = false ∧ w.frozen? ⟨b, 1, none⟩ = false) := by
  unfold Blk at h
  simp [World.cell?, World.frozen?, h]
end Go.Proofs.YtapalkohfhohhaaDoor
