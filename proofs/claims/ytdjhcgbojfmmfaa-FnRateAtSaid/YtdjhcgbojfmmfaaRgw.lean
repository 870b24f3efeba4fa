/- The walks of the program's ranges: what they share. -/
import Derived.Test.YtdjhcgbojfmmfaaRg
import Derived.Test.YtdjhcgbojfmmfaaDrawB
import Derived.Test.YtdjhcgbojfmmfaaBtw
import Derived.Test.YtdjhcgbojfmmfaaChecked
import Derived.WalkKit
import Derived.WalkSpells
import Derived.WalkLawsBesides
import Derived.Lib.Hide
import Derived.Below
import Derived.Deep.QuietTactic
import Derived.BigQuiet
import Derived.IntWalk
import Derived.LaidEql
namespace Go.Proofs.Ytdjhcgbojfmmfaa
open Go.RowKit Go.Extern Go.Extern.Rtype
theorem Blk.drewN {w : World} {b : Nat} {t : TypeId} {cs : Array Value} (h : Blk w b t cs) (n : Nat) : Blk (w.drewN n) b t cs := h
theorem Blk.drew {w : World} {b : Nat} {t : TypeId} {cs : Array Value} (h : Blk w b t cs) : Blk w.drew b t cs := h
theorem Blk.two {w : World} {b : Nat} {t : TypeId} {x y : Value} (h : Blk w b t #[x, y]) :
    (w.cell? ⟨b, 0, none⟩ = some x ∧ w.cell? ⟨b, 1, none⟩ = some y) ∧ (w.frozen? ⟨b, 0, none⟩ = false ∧ w.frozen? ⟨b, 1, none⟩ = false) := by
  unfold Blk at h
  simp [World.cell?, World.frozen?, h]
abbrev rV (p q : Int) : Value := .agg #[.int .i64 p, .int .i64 q]
abbrev tv (r : Rg.R) : Value := .tuple #[rV r.1 r.2.1, .bool r.2.2]
end Go.Proofs.Ytdjhcgbojfmmfaa
