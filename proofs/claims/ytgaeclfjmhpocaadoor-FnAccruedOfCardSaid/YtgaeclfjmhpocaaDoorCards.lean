/-
  DERIVED. GIVEN WITH THE SEED: THE CARDS: each row of YtgaeclfjmhpocaaDoorRows.lean that lists a variable, with what it lists TIED to the program's text (the seventh form; the later family's looks); each row that meets fmt, with fmt's text TOLD by the authors' own Lean function (tested against real Go, not proved from fmt's source: count such statements apart). THE CARD IS WHAT COUNTS. Prove the row's statement (the work); the ties are given (YtgaeclfjmhpocaaDoorTie.lean); close each card by the builder's one call (the guide's Derived/Test/ToyasCard.lean, 'card_holds'). Laid BY PROGRAM, IN A SANDBOX (cutbox-door.mjs). By AI agents, Wed Nov 11 2026. No macro, syntax, notation, axiom, sorry.
-/
import Derived.Test.YtgaeclfjmhpocaaDoorRows
import GoSem.ClaimSeven
namespace Go.Proofs.YtgaeclfjmhpocaaDoor
namespace Rows

/-- THE TIED CARD OF 'laws.FnFlowsOfEqual'. -/
def fnFlowsOfEqualCard : Claim7 := { stood := { row := fnFlowsOfEqualRow, standIns := [], harness := (true, "5d8ab582c1e98e985049e6462283db6af5a8dd9849267061e76314a7e2c3046c"), looks := false }, kinds := [], alts := [], laidByText := true, laidKinds := [.data], laidTests := true, laidLooks := .later }
def FnFlowsOfEqualCardSaid : Prop := Claim7.holds Tryd.pinned (.plain (OpenSpec.ofChange fnFlowsOfEqualSpec)) fnFlowsOfEqualCard

/-- THE TIED CARD OF 'laws.FnFlowsAfter'. -/
def fnFlowsAfterCard : Claim7 := { stood := { row := fnFlowsAfterRow, standIns := [], harness := (true, "5d8ab582c1e98e985049e6462283db6af5a8dd9849267061e76314a7e2c3046c"), looks := false }, kinds := [], alts := [], laidByText := true, laidKinds := [.data], laidTests := true, laidLooks := .later }
def FnFlowsAfterCardSaid : Prop := Claim7.holds Tryd.pinned (.plain (OpenSpec.ofChange fnFlowsAfterSpec)) fnFlowsAfterCard

/-- THE TIED CARD OF 'laws.FnAccruedOf'. -/
def fnAccruedOfCard : Claim7 := { stood := { row := fnAccruedOfRow, standIns := [], harness := (true, "5d8ab582c1e98e985049e6462283db6af5a8dd9849267061e76314a7e2c3046c"), looks := false }, kinds := [], alts := [], laidByText := true, laidKinds := [.data], laidTests := true, laidLooks := .later }
def FnAccruedOfCardSaid : Prop := Claim7.holds Tryd.pinned (.plain (OpenSpec.ofChange fnAccruedOfSpec)) fnAccruedOfCard

/-- THE TIED CARD OF 'laws.FnDirtyOf'. -/
def fnDirtyOfCard : Claim7 := { stood := { row := fnDirtyOfRow, standIns := [], harness := (true, "5d8ab582c1e98e985049e6462283db6af5a8dd9849267061e76314a7e2c3046c"), looks := false }, kinds := [], alts := [], laidByText := true, laidKinds := [.data], laidTests := true, laidLooks := .later }
def FnDirtyOfCardSaid : Prop := Claim7.holds Tryd.pinned (.plain (OpenSpec.ofChange fnDirtyOfSpec)) fnDirtyOfCard

/-- THE TIED CARD OF 'laws.FnCleanOf'. -/
def fnCleanOfCard : Claim7 := { stood := { row := fnCleanOfRow, standIns := [], harness := (true, "5d8ab582c1e98e985049e6462283db6af5a8dd9849267061e76314a7e2c3046c"), looks := false }, kinds := [], alts := [], laidByText := true, laidKinds := [.data], laidTests := true, laidLooks := .later }
def FnCleanOfCardSaid : Prop := Claim7.holds Tryd.pinned (.plain (OpenSpec.ofChange fnCleanOfSpec)) fnCleanOfCard

/-- THE TIED CARD OF 'laws.FnNextFlow'. -/
def fnNextFlowCard : Claim7 := { stood := { row := fnNextFlowRow, standIns := [], harness := (true, "5d8ab582c1e98e985049e6462283db6af5a8dd9849267061e76314a7e2c3046c"), looks := false }, kinds := [], alts := [], laidByText := true, laidKinds := [.data], laidTests := true, laidLooks := .later }
def FnNextFlowCardSaid : Prop := Claim7.holds Tryd.pinned (.plain (OpenSpec.ofChange fnNextFlowSpec)) fnNextFlowCard

/-- THE TIED CARD OF 'laws.FnFlowsAfterNone'. -/
def fnFlowsAfterNoneCard : Claim7 := { stood := { row := fnFlowsAfterNoneRow, standIns := [], harness := (true, "5d8ab582c1e98e985049e6462283db6af5a8dd9849267061e76314a7e2c3046c"), looks := false }, kinds := [], alts := [], laidByText := true, laidKinds := [.data], laidTests := true, laidLooks := .later }
def FnFlowsAfterNoneCardSaid : Prop := Claim7.holds Tryd.pinned (.plain (OpenSpec.ofChange fnFlowsAfterNoneSpec)) fnFlowsAfterNoneCard

/-- THE TIED CARD OF 'laws.FnAccruedOfRate'. -/
def fnAccruedOfRateCard : Claim7 := { stood := { row := fnAccruedOfRateRow, standIns := [], harness := (true, "5d8ab582c1e98e985049e6462283db6af5a8dd9849267061e76314a7e2c3046c"), looks := false }, kinds := [], alts := [], laidByText := true, laidKinds := [.data], laidTests := true, laidLooks := .later }
def FnAccruedOfRateCardSaid : Prop := Claim7.holds Tryd.pinned (.plain (OpenSpec.ofChange fnAccruedOfRateSpec)) fnAccruedOfRateCard

/-- THE TIED CARD OF 'laws.FnExactFlowsAfter'. -/
def fnExactFlowsAfterCard : Claim7 := { stood := { row := fnExactFlowsAfterRow, standIns := [], harness := (true, "5d8ab582c1e98e985049e6462283db6af5a8dd9849267061e76314a7e2c3046c"), looks := false }, kinds := [], alts := [], laidByText := true, laidKinds := [.data], laidTests := true, laidLooks := .later }
def FnExactFlowsAfterCardSaid : Prop := Claim7.holds Tryd.pinned (.plain (OpenSpec.ofChange fnExactFlowsAfterSpec)) fnExactFlowsAfterCard

/-- THE TIED CARD OF 'laws.FnExactAccruedOf'. -/
def fnExactAccruedOfCard : Claim7 := { stood := { row := fnExactAccruedOfRow, standIns := [], harness := (true, "5d8ab582c1e98e985049e6462283db6af5a8dd9849267061e76314a7e2c3046c"), looks := false }, kinds := [], alts := [], laidByText := true, laidKinds := [.data], laidTests := true, laidLooks := .later }
def FnExactAccruedOfCardSaid : Prop := Claim7.holds Tryd.pinned (.plain (OpenSpec.ofChange fnExactAccruedOfSpec)) fnExactAccruedOfCard

/-- THE TIED CARD OF 'laws.FnExactDirtyOf'. -/
def fnExactDirtyOfCard : Claim7 := { stood := { row := fnExactDirtyOfRow, standIns := [], harness := (true, "5d8ab582c1e98e985049e6462283db6af5a8dd9849267061e76314a7e2c3046c"), looks := false }, kinds := [], alts := [], laidByText := true, laidKinds := [.data], laidTests := true, laidLooks := .later }
def FnExactDirtyOfCardSaid : Prop := Claim7.holds Tryd.pinned (.plain (OpenSpec.ofChange fnExactDirtyOfSpec)) fnExactDirtyOfCard

/-- THE TIED CARD OF 'laws.FnExactCleanOf'. -/
def fnExactCleanOfCard : Claim7 := { stood := { row := fnExactCleanOfRow, standIns := [], harness := (true, "5d8ab582c1e98e985049e6462283db6af5a8dd9849267061e76314a7e2c3046c"), looks := false }, kinds := [], alts := [], laidByText := true, laidKinds := [.data], laidTests := true, laidLooks := .later }
def FnExactCleanOfCardSaid : Prop := Claim7.holds Tryd.pinned (.plain (OpenSpec.ofChange fnExactCleanOfSpec)) fnExactCleanOfCard

/-- THE TIED CARD OF 'laws.FnExactNextFlow'. -/
def fnExactNextFlowCard : Claim7 := { stood := { row := fnExactNextFlowRow, standIns := [], harness := (true, "5d8ab582c1e98e985049e6462283db6af5a8dd9849267061e76314a7e2c3046c"), looks := false }, kinds := [], alts := [], laidByText := true, laidKinds := [.data], laidTests := true, laidLooks := .later }
def FnExactNextFlowCardSaid : Prop := Claim7.holds Tryd.pinned (.plain (OpenSpec.ofChange fnExactNextFlowSpec)) fnExactNextFlowCard

/-- THE SECOND FORM's CARD OF 'laws.FnFlowsOfEqual'. -/
def fnFlowsOfEqualUptoCard : Claim7 := { stood := { row := fnFlowsOfEqualUptoRow, standIns := [], harness := (true, "5d8ab582c1e98e985049e6462283db6af5a8dd9849267061e76314a7e2c3046c"), looks := false }, kinds := [], alts := [], laidByText := true, laidKinds := [.data], laidTests := true, laidLooks := .later }
def FnFlowsOfEqualUptoCardSaid : Prop := Claim7.holds Tryd.pinned (.plain (OpenSpec.upto fnFlowsOfEqualSpec)) fnFlowsOfEqualUptoCard

/-- THE SECOND FORM's CARD OF 'laws.FnFlowsAfter'. -/
def fnFlowsAfterUptoCard : Claim7 := { stood := { row := fnFlowsAfterUptoRow, standIns := [], harness := (true, "5d8ab582c1e98e985049e6462283db6af5a8dd9849267061e76314a7e2c3046c"), looks := false }, kinds := [], alts := [], laidByText := true, laidKinds := [.data], laidTests := true, laidLooks := .later }
def FnFlowsAfterUptoCardSaid : Prop := Claim7.holds Tryd.pinned (.plain (OpenSpec.upto fnFlowsAfterSpec)) fnFlowsAfterUptoCard

/-- THE SECOND FORM's CARD OF 'laws.FnAccruedOf'. -/
def fnAccruedOfUptoCard : Claim7 := { stood := { row := fnAccruedOfUptoRow, standIns := [], harness := (true, "5d8ab582c1e98e985049e6462283db6af5a8dd9849267061e76314a7e2c3046c"), looks := false }, kinds := [], alts := [], laidByText := true, laidKinds := [.data], laidTests := true, laidLooks := .later }
def FnAccruedOfUptoCardSaid : Prop := Claim7.holds Tryd.pinned (.plain (OpenSpec.upto fnAccruedOfSpec)) fnAccruedOfUptoCard

/-- THE SECOND FORM's CARD OF 'laws.FnDirtyOf'. -/
def fnDirtyOfUptoCard : Claim7 := { stood := { row := fnDirtyOfUptoRow, standIns := [], harness := (true, "5d8ab582c1e98e985049e6462283db6af5a8dd9849267061e76314a7e2c3046c"), looks := false }, kinds := [], alts := [], laidByText := true, laidKinds := [.data], laidTests := true, laidLooks := .later }
def FnDirtyOfUptoCardSaid : Prop := Claim7.holds Tryd.pinned (.plain (OpenSpec.upto fnDirtyOfSpec)) fnDirtyOfUptoCard

/-- THE SECOND FORM's CARD OF 'laws.FnCleanOf'. -/
def fnCleanOfUptoCard : Claim7 := { stood := { row := fnCleanOfUptoRow, standIns := [], harness := (true, "5d8ab582c1e98e985049e6462283db6af5a8dd9849267061e76314a7e2c3046c"), looks := false }, kinds := [], alts := [], laidByText := true, laidKinds := [.data], laidTests := true, laidLooks := .later }
def FnCleanOfUptoCardSaid : Prop := Claim7.holds Tryd.pinned (.plain (OpenSpec.upto fnCleanOfSpec)) fnCleanOfUptoCard

/-- THE SECOND FORM's CARD OF 'laws.FnNextFlow'. -/
def fnNextFlowUptoCard : Claim7 := { stood := { row := fnNextFlowUptoRow, standIns := [], harness := (true, "5d8ab582c1e98e985049e6462283db6af5a8dd9849267061e76314a7e2c3046c"), looks := false }, kinds := [], alts := [], laidByText := true, laidKinds := [.data], laidTests := true, laidLooks := .later }
def FnNextFlowUptoCardSaid : Prop := Claim7.holds Tryd.pinned (.plain (OpenSpec.upto fnNextFlowSpec)) fnNextFlowUptoCard

/-- THE SECOND FORM's CARD OF 'laws.FnFlowsAfterNone'. -/
def fnFlowsAfterNoneUptoCard : Claim7 := { stood := { row := fnFlowsAfterNoneUptoRow, standIns := [], harness := (true, "5d8ab582c1e98e985049e6462283db6af5a8dd9849267061e76314a7e2c3046c"), looks := false }, kinds := [], alts := [], laidByText := true, laidKinds := [.data], laidTests := true, laidLooks := .later }
def FnFlowsAfterNoneUptoCardSaid : Prop := Claim7.holds Tryd.pinned (.plain (OpenSpec.upto fnFlowsAfterNoneSpec)) fnFlowsAfterNoneUptoCard

/-- THE SECOND FORM's CARD OF 'laws.FnAccruedOfRate'. -/
def fnAccruedOfRateUptoCard : Claim7 := { stood := { row := fnAccruedOfRateUptoRow, standIns := [], harness := (true, "5d8ab582c1e98e985049e6462283db6af5a8dd9849267061e76314a7e2c3046c"), looks := false }, kinds := [], alts := [], laidByText := true, laidKinds := [.data], laidTests := true, laidLooks := .later }
def FnAccruedOfRateUptoCardSaid : Prop := Claim7.holds Tryd.pinned (.plain (OpenSpec.upto fnAccruedOfRateSpec)) fnAccruedOfRateUptoCard

/-- THE SECOND FORM's CARD OF 'laws.FnExactFlowsAfter'. -/
def fnExactFlowsAfterUptoCard : Claim7 := { stood := { row := fnExactFlowsAfterUptoRow, standIns := [], harness := (true, "5d8ab582c1e98e985049e6462283db6af5a8dd9849267061e76314a7e2c3046c"), looks := false }, kinds := [], alts := [], laidByText := true, laidKinds := [.data], laidTests := true, laidLooks := .later }
def FnExactFlowsAfterUptoCardSaid : Prop := Claim7.holds Tryd.pinned (.plain (OpenSpec.upto fnExactFlowsAfterSpec)) fnExactFlowsAfterUptoCard

/-- THE SECOND FORM's CARD OF 'laws.FnExactAccruedOf'. -/
def fnExactAccruedOfUptoCard : Claim7 := { stood := { row := fnExactAccruedOfUptoRow, standIns := [], harness := (true, "5d8ab582c1e98e985049e6462283db6af5a8dd9849267061e76314a7e2c3046c"), looks := false }, kinds := [], alts := [], laidByText := true, laidKinds := [.data], laidTests := true, laidLooks := .later }
def FnExactAccruedOfUptoCardSaid : Prop := Claim7.holds Tryd.pinned (.plain (OpenSpec.upto fnExactAccruedOfSpec)) fnExactAccruedOfUptoCard

/-- THE SECOND FORM's CARD OF 'laws.FnExactDirtyOf'. -/
def fnExactDirtyOfUptoCard : Claim7 := { stood := { row := fnExactDirtyOfUptoRow, standIns := [], harness := (true, "5d8ab582c1e98e985049e6462283db6af5a8dd9849267061e76314a7e2c3046c"), looks := false }, kinds := [], alts := [], laidByText := true, laidKinds := [.data], laidTests := true, laidLooks := .later }
def FnExactDirtyOfUptoCardSaid : Prop := Claim7.holds Tryd.pinned (.plain (OpenSpec.upto fnExactDirtyOfSpec)) fnExactDirtyOfUptoCard

/-- THE SECOND FORM's CARD OF 'laws.FnExactCleanOf'. -/
def fnExactCleanOfUptoCard : Claim7 := { stood := { row := fnExactCleanOfUptoRow, standIns := [], harness := (true, "5d8ab582c1e98e985049e6462283db6af5a8dd9849267061e76314a7e2c3046c"), looks := false }, kinds := [], alts := [], laidByText := true, laidKinds := [.data], laidTests := true, laidLooks := .later }
def FnExactCleanOfUptoCardSaid : Prop := Claim7.holds Tryd.pinned (.plain (OpenSpec.upto fnExactCleanOfSpec)) fnExactCleanOfUptoCard

/-- THE SECOND FORM's CARD OF 'laws.FnExactNextFlow'. -/
def fnExactNextFlowUptoCard : Claim7 := { stood := { row := fnExactNextFlowUptoRow, standIns := [], harness := (true, "5d8ab582c1e98e985049e6462283db6af5a8dd9849267061e76314a7e2c3046c"), looks := false }, kinds := [], alts := [], laidByText := true, laidKinds := [.data], laidTests := true, laidLooks := .later }
def FnExactNextFlowUptoCardSaid : Prop := Claim7.holds Tryd.pinned (.plain (OpenSpec.upto fnExactNextFlowSpec)) fnExactNextFlowUptoCard
end Rows
end Go.Proofs.YtgaeclfjmhpocaaDoor
