/-
  DERIVED. GIVEN WITH THE SEED: THE CARDS: each row of YtcmmlgpaijfkeaaDoorRows.lean that lists a variable, with what it lists TIED to the program's text (the seventh form; the later family's looks); each row that meets fmt, with fmt's text TOLD by the authors' own Lean function (tested against real Go, not proved from fmt's source: count such statements apart). THE CARD IS WHAT COUNTS. Prove the row's statement (the work); the ties are given (YtcmmlgpaijfkeaaDoorTie.lean); close each card by the builder's one call (the guide's Derived/Test/ToyasCard.lean, 'card_holds'). Laid BY PROGRAM, IN A SANDBOX (cutbox-door.mjs). By AI agents, Wed Nov 11 2026. No macro, syntax, notation, axiom, sorry.
-/
import Derived.Test.YtcmmlgpaijfkeaaDoorRows
import GoSem.ClaimSeven
namespace Go.Proofs.YtcmmlgpaijfkeaaDoor
namespace Rows

/-- THE TIED CARD OF 'laws.FnAdjustDay'. -/
def fnAdjustDayCard : Claim7 := { stood := { row := fnAdjustDayRow, standIns := [], harness := (true, "c34d7fc8f35cb440a47efbc97aa8e17bfde57b1937d96227ec3e3a5ea5041fc3"), looks := false }, kinds := [], alts := [], laidByText := true, laidKinds := [.data], laidTests := true, laidLooks := .later }
def FnAdjustDayCardSaid : Prop := Claim7.holds Tryd.pinned (.plain (OpenSpec.ofChange fnAdjustDaySpec)) fnAdjustDayCard

/-- THE TIED CARD OF 'laws.FnAdjustDayNear'. -/
def fnAdjustDayNearCard : Claim7 := { stood := { row := fnAdjustDayNearRow, standIns := [], harness := (true, "c34d7fc8f35cb440a47efbc97aa8e17bfde57b1937d96227ec3e3a5ea5041fc3"), looks := false }, kinds := [], alts := [], laidByText := true, laidKinds := [.data], laidTests := true, laidLooks := .later }
def FnAdjustDayNearCardSaid : Prop := Claim7.holds Tryd.pinned (.plain (OpenSpec.ofChange fnAdjustDayNearSpec)) fnAdjustDayNearCard

/-- THE TIED CARD OF 'laws.FnAddBusiness'. -/
def fnAddBusinessCard : Claim7 := { stood := { row := fnAddBusinessRow, standIns := [], harness := (true, "c34d7fc8f35cb440a47efbc97aa8e17bfde57b1937d96227ec3e3a5ea5041fc3"), looks := false }, kinds := [], alts := [], laidByText := true, laidKinds := [.data], laidTests := true, laidLooks := .later }
def FnAddBusinessCardSaid : Prop := Claim7.holds Tryd.pinned (.plain (OpenSpec.ofChange fnAddBusinessSpec)) fnAddBusinessCard

/-- THE TIED CARD OF 'laws.FnAdjustDayMonth'. -/
def fnAdjustDayMonthCard : Claim7 := { stood := { row := fnAdjustDayMonthRow, standIns := [], harness := (true, "c34d7fc8f35cb440a47efbc97aa8e17bfde57b1937d96227ec3e3a5ea5041fc3"), looks := false }, kinds := [], alts := [], laidByText := true, laidKinds := [.data], laidTests := true, laidLooks := .later }
def FnAdjustDayMonthCardSaid : Prop := Claim7.holds Tryd.pinned (.plain (OpenSpec.ofChange fnAdjustDayMonthSpec)) fnAdjustDayMonthCard

/-- THE TIED CARD OF 'laws.FnExactAdjustDay'. -/
def fnExactAdjustDayCard : Claim7 := { stood := { row := fnExactAdjustDayRow, standIns := [], harness := (true, "c34d7fc8f35cb440a47efbc97aa8e17bfde57b1937d96227ec3e3a5ea5041fc3"), looks := false }, kinds := [], alts := [], laidByText := true, laidKinds := [.data], laidTests := true, laidLooks := .later }
def FnExactAdjustDayCardSaid : Prop := Claim7.holds Tryd.pinned (.plain (OpenSpec.ofChange fnExactAdjustDaySpec)) fnExactAdjustDayCard

/-- THE SECOND FORM's CARD OF 'laws.FnAdjustDay'. -/
def fnAdjustDayUptoCard : Claim7 := { stood := { row := fnAdjustDayUptoRow, standIns := [], harness := (true, "c34d7fc8f35cb440a47efbc97aa8e17bfde57b1937d96227ec3e3a5ea5041fc3"), looks := false }, kinds := [], alts := [], laidByText := true, laidKinds := [.data], laidTests := true, laidLooks := .later }
def FnAdjustDayUptoCardSaid : Prop := Claim7.holds Tryd.pinned (.plain (OpenSpec.upto fnAdjustDaySpec)) fnAdjustDayUptoCard

/-- THE SECOND FORM's CARD OF 'laws.FnAdjustDayNear'. -/
def fnAdjustDayNearUptoCard : Claim7 := { stood := { row := fnAdjustDayNearUptoRow, standIns := [], harness := (true, "c34d7fc8f35cb440a47efbc97aa8e17bfde57b1937d96227ec3e3a5ea5041fc3"), looks := false }, kinds := [], alts := [], laidByText := true, laidKinds := [.data], laidTests := true, laidLooks := .later }
def FnAdjustDayNearUptoCardSaid : Prop := Claim7.holds Tryd.pinned (.plain (OpenSpec.upto fnAdjustDayNearSpec)) fnAdjustDayNearUptoCard

/-- THE SECOND FORM's CARD OF 'laws.FnAddBusiness'. -/
def fnAddBusinessUptoCard : Claim7 := { stood := { row := fnAddBusinessUptoRow, standIns := [], harness := (true, "c34d7fc8f35cb440a47efbc97aa8e17bfde57b1937d96227ec3e3a5ea5041fc3"), looks := false }, kinds := [], alts := [], laidByText := true, laidKinds := [.data], laidTests := true, laidLooks := .later }
def FnAddBusinessUptoCardSaid : Prop := Claim7.holds Tryd.pinned (.plain (OpenSpec.upto fnAddBusinessSpec)) fnAddBusinessUptoCard

/-- THE SECOND FORM's CARD OF 'laws.FnAdjustDayMonth'. -/
def fnAdjustDayMonthUptoCard : Claim7 := { stood := { row := fnAdjustDayMonthUptoRow, standIns := [], harness := (true, "c34d7fc8f35cb440a47efbc97aa8e17bfde57b1937d96227ec3e3a5ea5041fc3"), looks := false }, kinds := [], alts := [], laidByText := true, laidKinds := [.data], laidTests := true, laidLooks := .later }
def FnAdjustDayMonthUptoCardSaid : Prop := Claim7.holds Tryd.pinned (.plain (OpenSpec.upto fnAdjustDayMonthSpec)) fnAdjustDayMonthUptoCard

/-- THE SECOND FORM's CARD OF 'laws.FnExactAdjustDay'. -/
def fnExactAdjustDayUptoCard : Claim7 := { stood := { row := fnExactAdjustDayUptoRow, standIns := [], harness := (true, "c34d7fc8f35cb440a47efbc97aa8e17bfde57b1937d96227ec3e3a5ea5041fc3"), looks := false }, kinds := [], alts := [], laidByText := true, laidKinds := [.data], laidTests := true, laidLooks := .later }
def FnExactAdjustDayUptoCardSaid : Prop := Claim7.holds Tryd.pinned (.plain (OpenSpec.upto fnExactAdjustDaySpec)) fnExactAdjustDayUptoCard
end Rows
end Go.Proofs.YtcmmlgpaijfkeaaDoor
