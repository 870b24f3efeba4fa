/- The walks of the calendar's model, third part. -/
import Derived.Test.YtkdooncfchmkfaaDoorSpec2
import Derived.Deep.RegionHeld3
namespace Go.Proofs.YtkdooncfchmkfaaDoor
open Go.RowKit
theorem inR_t {n l h : Int} (w : World) (hb : btw n l h = true) :
    Calls Tryd.prog 31 #[.int .i64 n, .int .i64 l, .int .i64 h] w fun e w' => e = .returned (.bool true) ∧ w = w' := by
  have := inRange_any n l h w
  rw [hb] at this
  exact this
theorem inR_f {n l h : Int} (w : World) (hb : btw n l h = false) :
    Calls Tryd.prog 31 #[.int .i64 n, .int .i64 l, .int .i64 h] w fun e w' => e = .returned (.bool false) ∧ w = w' := by
  have := inRange_any n l h w
  rw [hb] at this
  exact this
end Go.Proofs.YtkdooncfchmkfaaDoor
