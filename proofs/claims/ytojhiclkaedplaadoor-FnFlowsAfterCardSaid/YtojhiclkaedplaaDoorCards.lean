/-
  DERIVED. GIVEN WITH THE SEED: THE CARDS: each row of YtojhiclkaedplaaDoorRows.lean that lists a variable, with what it lists TIED to the program's text (the seventh form; the later family's looks); each row that meets fmt, with fmt's text TOLD by the authors' own Lean function (tested against real Go, not proved from fmt's source: count such statements apart). THE CARD IS WHAT COUNTS. Prove the row's statement (the work); the ties are given (YtojhiclkaedplaaDoorTie.lean); close each card by the builder's one call (the guide's Derived/Test/ToyasCard.lean, 'card_holds'). Laid BY PROGRAM, IN A SANDBOX (cutbox-door.mjs). By AI agents, Wed Nov 11 2026. No macro, syntax, notation, axiom, sorry.
-/
import Derived.Test.YtojhiclkaedplaaDoorRows
import GoSem.ClaimSeven
namespace Go.Proofs.YtojhiclkaedplaaDoor
namespace Rows

/-- THE TIED CARD OF 'laws.FnFlowsAfter'. -/
def fnFlowsAfterCard : Claim7 := { stood := { row := fnFlowsAfterRow, standIns := [], harness := (true, "d223e82cf841bd3eab943d9de6399b67fe088aff9ead3abb1d2575da9acb5bf4"), looks := false }, kinds := [], alts := [], laidByText := true, laidKinds := [.data], laidTests := true, laidLooks := .later }
def FnFlowsAfterCardSaid : Prop := Claim7.holds Tryd.pinned (.plain (OpenSpec.ofChange fnFlowsAfterSpec)) fnFlowsAfterCard

/-- THE TIED CARD OF 'laws.FnFlowsAfterNone'. -/
def fnFlowsAfterNoneCard : Claim7 := { stood := { row := fnFlowsAfterNoneRow, standIns := [], harness := (true, "d223e82cf841bd3eab943d9de6399b67fe088aff9ead3abb1d2575da9acb5bf4"), looks := false }, kinds := [], alts := [], laidByText := true, laidKinds := [.data], laidTests := true, laidLooks := .later }
def FnFlowsAfterNoneCardSaid : Prop := Claim7.holds Tryd.pinned (.plain (OpenSpec.ofChange fnFlowsAfterNoneSpec)) fnFlowsAfterNoneCard

/-- THE TIED CARD OF 'laws.FnExactFlowsAfter'. -/
def fnExactFlowsAfterCard : Claim7 := { stood := { row := fnExactFlowsAfterRow, standIns := [], harness := (true, "d223e82cf841bd3eab943d9de6399b67fe088aff9ead3abb1d2575da9acb5bf4"), looks := false }, kinds := [], alts := [], laidByText := true, laidKinds := [.data], laidTests := true, laidLooks := .later }
def FnExactFlowsAfterCardSaid : Prop := Claim7.holds Tryd.pinned (.plain (OpenSpec.ofChange fnExactFlowsAfterSpec)) fnExactFlowsAfterCard

/-- THE TIED CARD OF 'laws.FnNextFlow'. -/
def fnNextFlowCard : Claim7 := { stood := { row := fnNextFlowRow, standIns := [], harness := (true, "d223e82cf841bd3eab943d9de6399b67fe088aff9ead3abb1d2575da9acb5bf4"), looks := false }, kinds := [], alts := [], laidByText := true, laidKinds := [.data], laidTests := true, laidLooks := .later }
def FnNextFlowCardSaid : Prop := Claim7.holds Tryd.pinned (.plain (OpenSpec.ofChange fnNextFlowSpec)) fnNextFlowCard

/-- THE TIED CARD OF 'laws.FnExactNextFlow'. -/
def fnExactNextFlowCard : Claim7 := { stood := { row := fnExactNextFlowRow, standIns := [], harness := (true, "d223e82cf841bd3eab943d9de6399b67fe088aff9ead3abb1d2575da9acb5bf4"), looks := false }, kinds := [], alts := [], laidByText := true, laidKinds := [.data], laidTests := true, laidLooks := .later }
def FnExactNextFlowCardSaid : Prop := Claim7.holds Tryd.pinned (.plain (OpenSpec.ofChange fnExactNextFlowSpec)) fnExactNextFlowCard

/-- THE SECOND FORM's CARD OF 'laws.FnFlowsAfter'. -/
def fnFlowsAfterUptoCard : Claim7 := { stood := { row := fnFlowsAfterUptoRow, standIns := [], harness := (true, "d223e82cf841bd3eab943d9de6399b67fe088aff9ead3abb1d2575da9acb5bf4"), looks := false }, kinds := [], alts := [], laidByText := true, laidKinds := [.data], laidTests := true, laidLooks := .later }
def FnFlowsAfterUptoCardSaid : Prop := Claim7.holds Tryd.pinned (.plain (OpenSpec.upto fnFlowsAfterSpec)) fnFlowsAfterUptoCard

/-- THE SECOND FORM's CARD OF 'laws.FnFlowsAfterNone'. -/
def fnFlowsAfterNoneUptoCard : Claim7 := { stood := { row := fnFlowsAfterNoneUptoRow, standIns := [], harness := (true, "d223e82cf841bd3eab943d9de6399b67fe088aff9ead3abb1d2575da9acb5bf4"), looks := false }, kinds := [], alts := [], laidByText := true, laidKinds := [.data], laidTests := true, laidLooks := .later }
def FnFlowsAfterNoneUptoCardSaid : Prop := Claim7.holds Tryd.pinned (.plain (OpenSpec.upto fnFlowsAfterNoneSpec)) fnFlowsAfterNoneUptoCard

/-- THE SECOND FORM's CARD OF 'laws.FnExactFlowsAfter'. -/
def fnExactFlowsAfterUptoCard : Claim7 := { stood := { row := fnExactFlowsAfterUptoRow, standIns := [], harness := (true, "d223e82cf841bd3eab943d9de6399b67fe088aff9ead3abb1d2575da9acb5bf4"), looks := false }, kinds := [], alts := [], laidByText := true, laidKinds := [.data], laidTests := true, laidLooks := .later }
def FnExactFlowsAfterUptoCardSaid : Prop := Claim7.holds Tryd.pinned (.plain (OpenSpec.upto fnExactFlowsAfterSpec)) fnExactFlowsAfterUptoCard

/-- THE SECOND FORM's CARD OF 'laws.FnNextFlow'. -/
def fnNextFlowUptoCard : Claim7 := { stood := { row := fnNextFlowUptoRow, standIns := [], harness := (true, "d223e82cf841bd3eab943d9de6399b67fe088aff9ead3abb1d2575da9acb5bf4"), looks := false }, kinds := [], alts := [], laidByText := true, laidKinds := [.data], laidTests := true, laidLooks := .later }
def FnNextFlowUptoCardSaid : Prop := Claim7.holds Tryd.pinned (.plain (OpenSpec.upto fnNextFlowSpec)) fnNextFlowUptoCard

/-- THE SECOND FORM's CARD OF 'laws.FnExactNextFlow'. -/
def fnExactNextFlowUptoCard : Claim7 := { stood := { row := fnExactNextFlowUptoRow, standIns := [], harness := (true, "d223e82cf841bd3eab943d9de6399b67fe088aff9ead3abb1d2575da9acb5bf4"), looks := false }, kinds := [], alts := [], laidByText := true, laidKinds := [.data], laidTests := true, laidLooks := .later }
def FnExactNextFlowUptoCardSaid : Prop := Claim7.holds Tryd.pinned (.plain (OpenSpec.upto fnExactNextFlowSpec)) fnExactNextFlowUptoCard
end Rows
end Go.Proofs.YtojhiclkaedplaaDoor
