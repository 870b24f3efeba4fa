/-
  DERIVED. GIVEN WITH THE SEED: THE CARDS: each row of YtdmamojidefdaaaDoorRows.lean that lists a variable, with what it lists TIED to the program's text (the seventh form; the later family's looks); each row that meets fmt, with fmt's text TOLD by the authors' own Lean function (tested against real Go, not proved from fmt's source: count such statements apart). THE CARD IS WHAT COUNTS. Prove the row's statement (the work); the ties are given (YtdmamojidefdaaaDoorTie.lean); close each card by the builder's one call (the guide's Derived/Test/ToyasCard.lean, 'card_holds'). Laid BY PROGRAM, IN A SANDBOX (cutbox-door.mjs). By AI agents, Wed Nov 11 2026. No macro, syntax, notation, axiom, sorry.
-/
import Derived.Test.YtdmamojidefdaaaDoorRows
import GoSem.ClaimSeven
namespace Go.Proofs.YtdmamojidefdaaaDoor
namespace Rows

/-- THE TIED CARD OF 'laws.FnDivRange'. -/
def fnDivRangeCard : Claim7 := { stood := { row := fnDivRangeRow, standIns := [], harness := (true, "37ffec6fc83186284a00e399e597def1c4885d0b4d8e65a46129c6002b593f0c"), looks := true }, kinds := [], alts := [], laidByText := true, laidKinds := [.sentinel], laidTests := true, laidLooks := .later }
def FnDivRangeCardSaid : Prop := Claim7.holds Tryd.pinned (.plain (OpenSpec.ofChange fnDivRangeSpec)) fnDivRangeCard

/-- THE TIED CARD OF 'laws.FnDivRangeOne'. -/
def fnDivRangeOneCard : Claim7 := { stood := { row := fnDivRangeOneRow, standIns := [], harness := (true, "37ffec6fc83186284a00e399e597def1c4885d0b4d8e65a46129c6002b593f0c"), looks := true }, kinds := [], alts := [], laidByText := true, laidKinds := [.sentinel], laidTests := true, laidLooks := .later }
def FnDivRangeOneCardSaid : Prop := Claim7.holds Tryd.pinned (.plain (OpenSpec.ofChange fnDivRangeOneSpec)) fnDivRangeOneCard

/-- THE TIED CARD OF 'laws.FnExactDivRange'. -/
def fnExactDivRangeCard : Claim7 := { stood := { row := fnExactDivRangeRow, standIns := [], harness := (true, "37ffec6fc83186284a00e399e597def1c4885d0b4d8e65a46129c6002b593f0c"), looks := true }, kinds := [], alts := [], laidByText := true, laidKinds := [.sentinel], laidTests := true, laidLooks := .later }
def FnExactDivRangeCardSaid : Prop := Claim7.holds Tryd.pinned (.plain (OpenSpec.ofChange fnExactDivRangeSpec)) fnExactDivRangeCard

/-- THE SECOND FORM's CARD OF 'laws.FnDivRange'. -/
def fnDivRangeUptoCard : Claim7 := { stood := { row := fnDivRangeUptoRow, standIns := [], harness := (true, "37ffec6fc83186284a00e399e597def1c4885d0b4d8e65a46129c6002b593f0c"), looks := true }, kinds := [], alts := [], laidByText := true, laidKinds := [.sentinel], laidTests := true, laidLooks := .later }
def FnDivRangeUptoCardSaid : Prop := Claim7.holds Tryd.pinned (.plain (OpenSpec.upto fnDivRangeSpec)) fnDivRangeUptoCard

/-- THE SECOND FORM's CARD OF 'laws.FnDivRangeOne'. -/
def fnDivRangeOneUptoCard : Claim7 := { stood := { row := fnDivRangeOneUptoRow, standIns := [], harness := (true, "37ffec6fc83186284a00e399e597def1c4885d0b4d8e65a46129c6002b593f0c"), looks := true }, kinds := [], alts := [], laidByText := true, laidKinds := [.sentinel], laidTests := true, laidLooks := .later }
def FnDivRangeOneUptoCardSaid : Prop := Claim7.holds Tryd.pinned (.plain (OpenSpec.upto fnDivRangeOneSpec)) fnDivRangeOneUptoCard

/-- THE SECOND FORM's CARD OF 'laws.FnExactDivRange'. -/
def fnExactDivRangeUptoCard : Claim7 := { stood := { row := fnExactDivRangeUptoRow, standIns := [], harness := (true, "37ffec6fc83186284a00e399e597def1c4885d0b4d8e65a46129c6002b593f0c"), looks := true }, kinds := [], alts := [], laidByText := true, laidKinds := [.sentinel], laidTests := true, laidLooks := .later }
def FnExactDivRangeUptoCardSaid : Prop := Claim7.holds Tryd.pinned (.plain (OpenSpec.upto fnExactDivRangeSpec)) fnExactDivRangeUptoCard
end Rows
end Go.Proofs.YtdmamojidefdaaaDoor
