/-
  DERIVED. GIVEN WITH THE SEED: THE CARDS: each row of YtfelledogdplaaaDoorRows.lean that lists a variable, with what it lists TIED to the program's text (the seventh form; the later family's looks); each row that meets fmt, with fmt's text TOLD by the authors' own Lean function (tested against real Go, not proved from fmt's source: count such statements apart). THE CARD IS WHAT COUNTS. Prove the row's statement (the work); the ties are given (YtfelledogdplaaaDoorTie.lean); close each card by the builder's one call (the guide's Derived/Test/ToyasCard.lean, 'card_holds'). Laid BY PROGRAM, IN A SANDBOX (cutbox-door.mjs). By AI agents, Wed Nov 11 2026. No macro, syntax, notation, axiom, sorry.
-/
import Derived.Test.YtfelledogdplaaaDoorRows
import GoSem.ClaimSeven
namespace Go.Proofs.YtfelledogdplaaaDoor
namespace Rows

/-- THE TIED CARD OF 'laws.FnDiscountOf'. -/
def fnDiscountOfCard : Claim7 := { stood := { row := fnDiscountOfRow, standIns := [], harness := (true, "e7192af032382b11cd3ee52374d5e5785b2a0767ebc87126a0cd7c9d1e04cbe8"), looks := true }, kinds := [], alts := [], laidByText := true, laidKinds := [.sentinel], laidTests := true, laidLooks := .later }
def FnDiscountOfCardSaid : Prop := Claim7.holds Tryd.pinned (.plain (OpenSpec.ofChange fnDiscountOfSpec)) fnDiscountOfCard

/-- THE TIED CARD OF 'laws.FnDiscountOfNear'. -/
def fnDiscountOfNearCard : Claim7 := { stood := { row := fnDiscountOfNearRow, standIns := [], harness := (true, "e7192af032382b11cd3ee52374d5e5785b2a0767ebc87126a0cd7c9d1e04cbe8"), looks := true }, kinds := [], alts := [], laidByText := true, laidKinds := [.sentinel], laidTests := true, laidLooks := .later }
def FnDiscountOfNearCardSaid : Prop := Claim7.holds Tryd.pinned (.plain (OpenSpec.ofChange fnDiscountOfNearSpec)) fnDiscountOfNearCard

/-- THE TIED CARD OF 'laws.FnDiscountOfPeriods'. -/
def fnDiscountOfPeriodsCard : Claim7 := { stood := { row := fnDiscountOfPeriodsRow, standIns := [], harness := (true, "e7192af032382b11cd3ee52374d5e5785b2a0767ebc87126a0cd7c9d1e04cbe8"), looks := true }, kinds := [], alts := [], laidByText := true, laidKinds := [.sentinel], laidTests := true, laidLooks := .later }
def FnDiscountOfPeriodsCardSaid : Prop := Claim7.holds Tryd.pinned (.plain (OpenSpec.ofChange fnDiscountOfPeriodsSpec)) fnDiscountOfPeriodsCard

/-- THE TIED CARD OF 'laws.FnExactDiscountOf'. -/
def fnExactDiscountOfCard : Claim7 := { stood := { row := fnExactDiscountOfRow, standIns := [], harness := (true, "e7192af032382b11cd3ee52374d5e5785b2a0767ebc87126a0cd7c9d1e04cbe8"), looks := true }, kinds := [], alts := [], laidByText := true, laidKinds := [.sentinel], laidTests := true, laidLooks := .later }
def FnExactDiscountOfCardSaid : Prop := Claim7.holds Tryd.pinned (.plain (OpenSpec.ofChange fnExactDiscountOfSpec)) fnExactDiscountOfCard

/-- THE SECOND FORM's CARD OF 'laws.FnDiscountOf'. -/
def fnDiscountOfUptoCard : Claim7 := { stood := { row := fnDiscountOfUptoRow, standIns := [], harness := (true, "e7192af032382b11cd3ee52374d5e5785b2a0767ebc87126a0cd7c9d1e04cbe8"), looks := true }, kinds := [], alts := [], laidByText := true, laidKinds := [.sentinel], laidTests := true, laidLooks := .later }
def FnDiscountOfUptoCardSaid : Prop := Claim7.holds Tryd.pinned (.plain (OpenSpec.upto fnDiscountOfSpec)) fnDiscountOfUptoCard

/-- THE SECOND FORM's CARD OF 'laws.FnDiscountOfNear'. -/
def fnDiscountOfNearUptoCard : Claim7 := { stood := { row := fnDiscountOfNearUptoRow, standIns := [], harness := (true, "e7192af032382b11cd3ee52374d5e5785b2a0767ebc87126a0cd7c9d1e04cbe8"), looks := true }, kinds := [], alts := [], laidByText := true, laidKinds := [.sentinel], laidTests := true, laidLooks := .later }
def FnDiscountOfNearUptoCardSaid : Prop := Claim7.holds Tryd.pinned (.plain (OpenSpec.upto fnDiscountOfNearSpec)) fnDiscountOfNearUptoCard

/-- THE SECOND FORM's CARD OF 'laws.FnDiscountOfPeriods'. -/
def fnDiscountOfPeriodsUptoCard : Claim7 := { stood := { row := fnDiscountOfPeriodsUptoRow, standIns := [], harness := (true, "e7192af032382b11cd3ee52374d5e5785b2a0767ebc87126a0cd7c9d1e04cbe8"), looks := true }, kinds := [], alts := [], laidByText := true, laidKinds := [.sentinel], laidTests := true, laidLooks := .later }
def FnDiscountOfPeriodsUptoCardSaid : Prop := Claim7.holds Tryd.pinned (.plain (OpenSpec.upto fnDiscountOfPeriodsSpec)) fnDiscountOfPeriodsUptoCard

/-- THE SECOND FORM's CARD OF 'laws.FnExactDiscountOf'. -/
def fnExactDiscountOfUptoCard : Claim7 := { stood := { row := fnExactDiscountOfUptoRow, standIns := [], harness := (true, "e7192af032382b11cd3ee52374d5e5785b2a0767ebc87126a0cd7c9d1e04cbe8"), looks := true }, kinds := [], alts := [], laidByText := true, laidKinds := [.sentinel], laidTests := true, laidLooks := .later }
def FnExactDiscountOfUptoCardSaid : Prop := Claim7.holds Tryd.pinned (.plain (OpenSpec.upto fnExactDiscountOfSpec)) fnExactDiscountOfUptoCard
end Rows
end Go.Proofs.YtfelledogdplaaaDoor
