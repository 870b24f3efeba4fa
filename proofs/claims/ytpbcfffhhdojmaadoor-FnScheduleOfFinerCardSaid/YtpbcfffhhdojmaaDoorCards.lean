/-
  DERIVED. GIVEN WITH THE SEED: THE CARDS: each row of YtpbcfffhhdojmaaDoorRows.lean that lists a variable, with what it lists TIED to the program's text (the seventh form; the later family's looks); each row that meets fmt, with fmt's text TOLD by the authors' own Lean function (tested against real Go, not proved from fmt's source: count such statements apart). THE CARD IS WHAT COUNTS. Prove the row's statement (the work); the ties are given (YtpbcfffhhdojmaaDoorTie.lean); close each card by the builder's one call (the guide's Derived/Test/ToyasCard.lean, 'card_holds'). Laid BY PROGRAM, IN A SANDBOX (cutbox-door.mjs). By AI agents, Wed Nov 11 2026. No macro, syntax, notation, axiom, sorry.
-/
import Derived.Test.YtpbcfffhhdojmaaDoorRows
import GoSem.ClaimSeven
namespace Go.Proofs.YtpbcfffhhdojmaaDoor
namespace Rows

/-- THE TIED CARD OF 'laws.FnYearPart'. -/
def fnYearPartCard : Claim7 := { stood := { row := fnYearPartRow, standIns := [], harness := (true, "e803e3203d9d114008eeb0536dc1a5505e998a244fa6c484f8c7066f86c0741d"), looks := false }, kinds := [], alts := [], laidByText := true, laidKinds := [.data], laidTests := true, laidLooks := .later }
def FnYearPartCardSaid : Prop := Claim7.holds Tryd.pinned (.plain (OpenSpec.ofChange fnYearPartSpec)) fnYearPartCard

/-- THE TIED CARD OF 'laws.FnYearPartYear'. -/
def fnYearPartYearCard : Claim7 := { stood := { row := fnYearPartYearRow, standIns := [], harness := (true, "e803e3203d9d114008eeb0536dc1a5505e998a244fa6c484f8c7066f86c0741d"), looks := false }, kinds := [], alts := [], laidByText := true, laidKinds := [.data], laidTests := true, laidLooks := .later }
def FnYearPartYearCardSaid : Prop := Claim7.holds Tryd.pinned (.plain (OpenSpec.ofChange fnYearPartYearSpec)) fnYearPartYearCard

/-- THE TIED CARD OF 'laws.FnYearPartSum'. -/
def fnYearPartSumCard : Claim7 := { stood := { row := fnYearPartSumRow, standIns := [], harness := (true, "e803e3203d9d114008eeb0536dc1a5505e998a244fa6c484f8c7066f86c0741d"), looks := false }, kinds := [], alts := [], laidByText := true, laidKinds := [.data], laidTests := true, laidLooks := .later }
def FnYearPartSumCardSaid : Prop := Claim7.holds Tryd.pinned (.plain (OpenSpec.ofChange fnYearPartSumSpec)) fnYearPartSumCard

/-- THE TIED CARD OF 'laws.FnInterestOf'. -/
def fnInterestOfCard : Claim7 := { stood := { row := fnInterestOfRow, standIns := [], harness := (true, "e803e3203d9d114008eeb0536dc1a5505e998a244fa6c484f8c7066f86c0741d"), looks := false }, kinds := [], alts := [], laidByText := true, laidKinds := [.data], laidTests := true, laidLooks := .later }
def FnInterestOfCardSaid : Prop := Claim7.holds Tryd.pinned (.plain (OpenSpec.ofChange fnInterestOfSpec)) fnInterestOfCard

/-- THE TIED CARD OF 'laws.FnInterestOfDouble'. -/
def fnInterestOfDoubleCard : Claim7 := { stood := { row := fnInterestOfDoubleRow, standIns := [], harness := (true, "e803e3203d9d114008eeb0536dc1a5505e998a244fa6c484f8c7066f86c0741d"), looks := false }, kinds := [], alts := [], laidByText := true, laidKinds := [.data], laidTests := true, laidLooks := .later }
def FnInterestOfDoubleCardSaid : Prop := Claim7.holds Tryd.pinned (.plain (OpenSpec.ofChange fnInterestOfDoubleSpec)) fnInterestOfDoubleCard

/-- THE TIED CARD OF 'laws.FnScheduleOf'. -/
def fnScheduleOfCard : Claim7 := { stood := { row := fnScheduleOfRow, standIns := [], harness := (true, "e803e3203d9d114008eeb0536dc1a5505e998a244fa6c484f8c7066f86c0741d"), looks := false }, kinds := [], alts := [], laidByText := true, laidKinds := [.data], laidTests := true, laidLooks := .later }
def FnScheduleOfCardSaid : Prop := Claim7.holds Tryd.pinned (.plain (OpenSpec.ofChange fnScheduleOfSpec)) fnScheduleOfCard

/-- THE TIED CARD OF 'laws.FnScheduleOfEnd'. -/
def fnScheduleOfEndCard : Claim7 := { stood := { row := fnScheduleOfEndRow, standIns := [], harness := (true, "e803e3203d9d114008eeb0536dc1a5505e998a244fa6c484f8c7066f86c0741d"), looks := false }, kinds := [], alts := [], laidByText := true, laidKinds := [.data], laidTests := true, laidLooks := .later }
def FnScheduleOfEndCardSaid : Prop := Claim7.holds Tryd.pinned (.plain (OpenSpec.ofChange fnScheduleOfEndSpec)) fnScheduleOfEndCard

/-- THE TIED CARD OF 'laws.FnYearPartMoney'. -/
def fnYearPartMoneyCard : Claim7 := { stood := { row := fnYearPartMoneyRow, standIns := [], harness := (true, "e803e3203d9d114008eeb0536dc1a5505e998a244fa6c484f8c7066f86c0741d"), looks := false }, kinds := [], alts := [], laidByText := true, laidKinds := [.data], laidTests := true, laidLooks := .later }
def FnYearPartMoneyCardSaid : Prop := Claim7.holds Tryd.pinned (.plain (OpenSpec.ofChange fnYearPartMoneySpec)) fnYearPartMoneyCard

/-- THE TIED CARD OF 'laws.FnScheduleOfWhole'. -/
def fnScheduleOfWholeCard : Claim7 := { stood := { row := fnScheduleOfWholeRow, standIns := [], harness := (true, "e803e3203d9d114008eeb0536dc1a5505e998a244fa6c484f8c7066f86c0741d"), looks := false }, kinds := [], alts := [], laidByText := true, laidKinds := [.data], laidTests := true, laidLooks := .later }
def FnScheduleOfWholeCardSaid : Prop := Claim7.holds Tryd.pinned (.plain (OpenSpec.ofChange fnScheduleOfWholeSpec)) fnScheduleOfWholeCard

/-- THE TIED CARD OF 'laws.FnScheduleOfFiner'. -/
def fnScheduleOfFinerCard : Claim7 := { stood := { row := fnScheduleOfFinerRow, standIns := [], harness := (true, "e803e3203d9d114008eeb0536dc1a5505e998a244fa6c484f8c7066f86c0741d"), looks := false }, kinds := [], alts := [], laidByText := true, laidKinds := [.data], laidTests := true, laidLooks := .later }
def FnScheduleOfFinerCardSaid : Prop := Claim7.holds Tryd.pinned (.plain (OpenSpec.ofChange fnScheduleOfFinerSpec)) fnScheduleOfFinerCard

/-- THE TIED CARD OF 'laws.FnExactYearPart'. -/
def fnExactYearPartCard : Claim7 := { stood := { row := fnExactYearPartRow, standIns := [], harness := (true, "e803e3203d9d114008eeb0536dc1a5505e998a244fa6c484f8c7066f86c0741d"), looks := false }, kinds := [], alts := [], laidByText := true, laidKinds := [.data], laidTests := true, laidLooks := .later }
def FnExactYearPartCardSaid : Prop := Claim7.holds Tryd.pinned (.plain (OpenSpec.ofChange fnExactYearPartSpec)) fnExactYearPartCard

/-- THE TIED CARD OF 'laws.FnExactInterestOf'. -/
def fnExactInterestOfCard : Claim7 := { stood := { row := fnExactInterestOfRow, standIns := [], harness := (true, "e803e3203d9d114008eeb0536dc1a5505e998a244fa6c484f8c7066f86c0741d"), looks := false }, kinds := [], alts := [], laidByText := true, laidKinds := [.data], laidTests := true, laidLooks := .later }
def FnExactInterestOfCardSaid : Prop := Claim7.holds Tryd.pinned (.plain (OpenSpec.ofChange fnExactInterestOfSpec)) fnExactInterestOfCard

/-- THE TIED CARD OF 'laws.FnExactScheduleOf'. -/
def fnExactScheduleOfCard : Claim7 := { stood := { row := fnExactScheduleOfRow, standIns := [], harness := (true, "e803e3203d9d114008eeb0536dc1a5505e998a244fa6c484f8c7066f86c0741d"), looks := false }, kinds := [], alts := [], laidByText := true, laidKinds := [.data], laidTests := true, laidLooks := .later }
def FnExactScheduleOfCardSaid : Prop := Claim7.holds Tryd.pinned (.plain (OpenSpec.ofChange fnExactScheduleOfSpec)) fnExactScheduleOfCard

/-- THE SECOND FORM's CARD OF 'laws.FnYearPart'. -/
def fnYearPartUptoCard : Claim7 := { stood := { row := fnYearPartUptoRow, standIns := [], harness := (true, "e803e3203d9d114008eeb0536dc1a5505e998a244fa6c484f8c7066f86c0741d"), looks := false }, kinds := [], alts := [], laidByText := true, laidKinds := [.data], laidTests := true, laidLooks := .later }
def FnYearPartUptoCardSaid : Prop := Claim7.holds Tryd.pinned (.plain (OpenSpec.upto fnYearPartSpec)) fnYearPartUptoCard

/-- THE SECOND FORM's CARD OF 'laws.FnYearPartYear'. -/
def fnYearPartYearUptoCard : Claim7 := { stood := { row := fnYearPartYearUptoRow, standIns := [], harness := (true, "e803e3203d9d114008eeb0536dc1a5505e998a244fa6c484f8c7066f86c0741d"), looks := false }, kinds := [], alts := [], laidByText := true, laidKinds := [.data], laidTests := true, laidLooks := .later }
def FnYearPartYearUptoCardSaid : Prop := Claim7.holds Tryd.pinned (.plain (OpenSpec.upto fnYearPartYearSpec)) fnYearPartYearUptoCard

/-- THE SECOND FORM's CARD OF 'laws.FnYearPartSum'. -/
def fnYearPartSumUptoCard : Claim7 := { stood := { row := fnYearPartSumUptoRow, standIns := [], harness := (true, "e803e3203d9d114008eeb0536dc1a5505e998a244fa6c484f8c7066f86c0741d"), looks := false }, kinds := [], alts := [], laidByText := true, laidKinds := [.data], laidTests := true, laidLooks := .later }
def FnYearPartSumUptoCardSaid : Prop := Claim7.holds Tryd.pinned (.plain (OpenSpec.upto fnYearPartSumSpec)) fnYearPartSumUptoCard

/-- THE SECOND FORM's CARD OF 'laws.FnInterestOf'. -/
def fnInterestOfUptoCard : Claim7 := { stood := { row := fnInterestOfUptoRow, standIns := [], harness := (true, "e803e3203d9d114008eeb0536dc1a5505e998a244fa6c484f8c7066f86c0741d"), looks := false }, kinds := [], alts := [], laidByText := true, laidKinds := [.data], laidTests := true, laidLooks := .later }
def FnInterestOfUptoCardSaid : Prop := Claim7.holds Tryd.pinned (.plain (OpenSpec.upto fnInterestOfSpec)) fnInterestOfUptoCard

/-- THE SECOND FORM's CARD OF 'laws.FnInterestOfDouble'. -/
def fnInterestOfDoubleUptoCard : Claim7 := { stood := { row := fnInterestOfDoubleUptoRow, standIns := [], harness := (true, "e803e3203d9d114008eeb0536dc1a5505e998a244fa6c484f8c7066f86c0741d"), looks := false }, kinds := [], alts := [], laidByText := true, laidKinds := [.data], laidTests := true, laidLooks := .later }
def FnInterestOfDoubleUptoCardSaid : Prop := Claim7.holds Tryd.pinned (.plain (OpenSpec.upto fnInterestOfDoubleSpec)) fnInterestOfDoubleUptoCard

/-- THE SECOND FORM's CARD OF 'laws.FnScheduleOf'. -/
def fnScheduleOfUptoCard : Claim7 := { stood := { row := fnScheduleOfUptoRow, standIns := [], harness := (true, "e803e3203d9d114008eeb0536dc1a5505e998a244fa6c484f8c7066f86c0741d"), looks := false }, kinds := [], alts := [], laidByText := true, laidKinds := [.data], laidTests := true, laidLooks := .later }
def FnScheduleOfUptoCardSaid : Prop := Claim7.holds Tryd.pinned (.plain (OpenSpec.upto fnScheduleOfSpec)) fnScheduleOfUptoCard

/-- THE SECOND FORM's CARD OF 'laws.FnScheduleOfEnd'. -/
def fnScheduleOfEndUptoCard : Claim7 := { stood := { row := fnScheduleOfEndUptoRow, standIns := [], harness := (true, "e803e3203d9d114008eeb0536dc1a5505e998a244fa6c484f8c7066f86c0741d"), looks := false }, kinds := [], alts := [], laidByText := true, laidKinds := [.data], laidTests := true, laidLooks := .later }
def FnScheduleOfEndUptoCardSaid : Prop := Claim7.holds Tryd.pinned (.plain (OpenSpec.upto fnScheduleOfEndSpec)) fnScheduleOfEndUptoCard

/-- THE SECOND FORM's CARD OF 'laws.FnYearPartMoney'. -/
def fnYearPartMoneyUptoCard : Claim7 := { stood := { row := fnYearPartMoneyUptoRow, standIns := [], harness := (true, "e803e3203d9d114008eeb0536dc1a5505e998a244fa6c484f8c7066f86c0741d"), looks := false }, kinds := [], alts := [], laidByText := true, laidKinds := [.data], laidTests := true, laidLooks := .later }
def FnYearPartMoneyUptoCardSaid : Prop := Claim7.holds Tryd.pinned (.plain (OpenSpec.upto fnYearPartMoneySpec)) fnYearPartMoneyUptoCard

/-- THE SECOND FORM's CARD OF 'laws.FnScheduleOfWhole'. -/
def fnScheduleOfWholeUptoCard : Claim7 := { stood := { row := fnScheduleOfWholeUptoRow, standIns := [], harness := (true, "e803e3203d9d114008eeb0536dc1a5505e998a244fa6c484f8c7066f86c0741d"), looks := false }, kinds := [], alts := [], laidByText := true, laidKinds := [.data], laidTests := true, laidLooks := .later }
def FnScheduleOfWholeUptoCardSaid : Prop := Claim7.holds Tryd.pinned (.plain (OpenSpec.upto fnScheduleOfWholeSpec)) fnScheduleOfWholeUptoCard

/-- THE SECOND FORM's CARD OF 'laws.FnScheduleOfFiner'. -/
def fnScheduleOfFinerUptoCard : Claim7 := { stood := { row := fnScheduleOfFinerUptoRow, standIns := [], harness := (true, "e803e3203d9d114008eeb0536dc1a5505e998a244fa6c484f8c7066f86c0741d"), looks := false }, kinds := [], alts := [], laidByText := true, laidKinds := [.data], laidTests := true, laidLooks := .later }
def FnScheduleOfFinerUptoCardSaid : Prop := Claim7.holds Tryd.pinned (.plain (OpenSpec.upto fnScheduleOfFinerSpec)) fnScheduleOfFinerUptoCard

/-- THE SECOND FORM's CARD OF 'laws.FnExactYearPart'. -/
def fnExactYearPartUptoCard : Claim7 := { stood := { row := fnExactYearPartUptoRow, standIns := [], harness := (true, "e803e3203d9d114008eeb0536dc1a5505e998a244fa6c484f8c7066f86c0741d"), looks := false }, kinds := [], alts := [], laidByText := true, laidKinds := [.data], laidTests := true, laidLooks := .later }
def FnExactYearPartUptoCardSaid : Prop := Claim7.holds Tryd.pinned (.plain (OpenSpec.upto fnExactYearPartSpec)) fnExactYearPartUptoCard

/-- THE SECOND FORM's CARD OF 'laws.FnExactInterestOf'. -/
def fnExactInterestOfUptoCard : Claim7 := { stood := { row := fnExactInterestOfUptoRow, standIns := [], harness := (true, "e803e3203d9d114008eeb0536dc1a5505e998a244fa6c484f8c7066f86c0741d"), looks := false }, kinds := [], alts := [], laidByText := true, laidKinds := [.data], laidTests := true, laidLooks := .later }
def FnExactInterestOfUptoCardSaid : Prop := Claim7.holds Tryd.pinned (.plain (OpenSpec.upto fnExactInterestOfSpec)) fnExactInterestOfUptoCard

/-- THE SECOND FORM's CARD OF 'laws.FnExactScheduleOf'. -/
def fnExactScheduleOfUptoCard : Claim7 := { stood := { row := fnExactScheduleOfUptoRow, standIns := [], harness := (true, "e803e3203d9d114008eeb0536dc1a5505e998a244fa6c484f8c7066f86c0741d"), looks := false }, kinds := [], alts := [], laidByText := true, laidKinds := [.data], laidTests := true, laidLooks := .later }
def FnExactScheduleOfUptoCardSaid : Prop := Claim7.holds Tryd.pinned (.plain (OpenSpec.upto fnExactScheduleOfSpec)) fnExactScheduleOfUptoCard
end Rows
end Go.Proofs.YtpbcfffhhdojmaaDoor
