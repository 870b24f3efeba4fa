/- The program's schedules. -/
import Derived.Test.YtbihadelhknlnaaCol
import Derived.Test.YtbihadelhknlnaaRev
namespace Go.Proofs.Ytbihadelhknlnaa
open Go.RowKit
theorem coll_nil {s e m : Int} (w : World) (h : Sc.sch s e m = []) : Coll (Sc.sch s e m) w (.returned (.slice none 0 0)) w :=
  ⟨_, rfl, by rw [h]; exact PRow.nil w _, by rw [h]; simp, Below.refl _ _⟩
end Go.Proofs.Ytbihadelhknlnaa
