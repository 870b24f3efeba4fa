/- The walks of the calendar's model, fourth part. -/
import Derived.Test.YtkdooncfchmkfaaDoorSpec3
namespace Go.Proofs.YtkdooncfchmkfaaDoor
open Go.RowKit
end Go.Proofs.YtkdooncfchmkfaaDoor
