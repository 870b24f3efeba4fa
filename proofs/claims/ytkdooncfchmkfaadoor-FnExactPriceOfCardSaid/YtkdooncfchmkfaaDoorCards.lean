/-
  DERIVED. GIVEN WITH THE SEED: THE CARDS: each row of YtkdooncfchmkfaaDoorRows.lean that lists a variable, with what it lists TIED to the program's text (the seventh form; the later family's looks); each row that meets fmt, with fmt's text TOLD by the authors' own Lean function (tested against real Go, not proved from fmt's source: count such statements apart). THE CARD IS WHAT COUNTS. Prove the row's statement (the work); the ties are given (YtkdooncfchmkfaaDoorTie.lean); close each card by the builder's one call (the guide's Derived/Test/ToyasCard.lean, 'card_holds'). Laid BY PROGRAM, IN A SANDBOX (cutbox-door.mjs). By AI agents, Wed Nov 11 2026. No macro, syntax, notation, axiom, sorry.
-/
import Derived.Test.YtkdooncfchmkfaaDoorRows
import GoSem.ClaimSeven
namespace Go.Proofs.YtkdooncfchmkfaaDoor
namespace Rows

/-- THE TIED CARD OF 'laws.FnExactPriceOf'. -/
def fnExactPriceOfCard : Claim7 := { stood := { row := fnExactPriceOfRow, standIns := [], harness := (true, "e68170414dd84c04a070442a3c4ed6d2ad833cd3bc64f265017ddaea42415352"), looks := true }, kinds := [], alts := [], laidByText := true, laidKinds := [.data, .sentinel], laidTests := true, laidLooks := .later }
def FnExactPriceOfCardSaid : Prop := Claim7.holds Tryd.pinned (.plain (OpenSpec.ofChange fnExactPriceOfSpec)) fnExactPriceOfCard

/-- THE TIED CARD OF 'laws.FnExactYieldOf'. -/
def fnExactYieldOfCard : Claim7 := { stood := { row := fnExactYieldOfRow, standIns := [], harness := (true, "e68170414dd84c04a070442a3c4ed6d2ad833cd3bc64f265017ddaea42415352"), looks := true }, kinds := [], alts := [], laidByText := true, laidKinds := [.data, .sentinel], laidTests := true, laidLooks := .later }
def FnExactYieldOfCardSaid : Prop := Claim7.holds Tryd.pinned (.plain (OpenSpec.ofChange fnExactYieldOfSpec)) fnExactYieldOfCard

/-- THE TIED CARD OF 'laws.FnTopYield'. -/
def fnTopYieldCard : Claim7 := { stood := { row := fnTopYieldRow, standIns := [], harness := (true, "e68170414dd84c04a070442a3c4ed6d2ad833cd3bc64f265017ddaea42415352"), looks := true }, kinds := [], alts := [], laidByText := true, laidKinds := [.data, .sentinel], laidTests := true, laidLooks := .later }
def FnTopYieldCardSaid : Prop := Claim7.holds Tryd.pinned (.plain (OpenSpec.ofChange fnTopYieldSpec)) fnTopYieldCard

/-- THE TIED CARD OF 'laws.FnExactRiskOf'. -/
def fnExactRiskOfCard : Claim7 := { stood := { row := fnExactRiskOfRow, standIns := [], harness := (true, "e68170414dd84c04a070442a3c4ed6d2ad833cd3bc64f265017ddaea42415352"), looks := true }, kinds := [], alts := [], laidByText := true, laidKinds := [.data, .sentinel], laidTests := true, laidLooks := .later }
def FnExactRiskOfCardSaid : Prop := Claim7.holds Tryd.pinned (.plain (OpenSpec.ofChange fnExactRiskOfSpec)) fnExactRiskOfCard

/-- THE TIED CARD OF 'laws.FnLifeOf'. -/
def fnLifeOfCard : Claim7 := { stood := { row := fnLifeOfRow, standIns := [], harness := (true, "e68170414dd84c04a070442a3c4ed6d2ad833cd3bc64f265017ddaea42415352"), looks := true }, kinds := [], alts := [], laidByText := true, laidKinds := [.data], laidTests := true, laidLooks := .later }
def FnLifeOfCardSaid : Prop := Claim7.holds Tryd.pinned (.plain (OpenSpec.ofChange fnLifeOfSpec)) fnLifeOfCard

/-- THE TIED CARD OF 'laws.FnLifeOfZero'. -/
def fnLifeOfZeroCard : Claim7 := { stood := { row := fnLifeOfZeroRow, standIns := [], harness := (true, "e68170414dd84c04a070442a3c4ed6d2ad833cd3bc64f265017ddaea42415352"), looks := true }, kinds := [], alts := [], laidByText := true, laidKinds := [.data], laidTests := true, laidLooks := .later }
def FnLifeOfZeroCardSaid : Prop := Claim7.holds Tryd.pinned (.plain (OpenSpec.ofChange fnLifeOfZeroSpec)) fnLifeOfZeroCard

/-- THE TIED CARD OF 'laws.FnExactLifeOf'. -/
def fnExactLifeOfCard : Claim7 := { stood := { row := fnExactLifeOfRow, standIns := [], harness := (true, "e68170414dd84c04a070442a3c4ed6d2ad833cd3bc64f265017ddaea42415352"), looks := true }, kinds := [], alts := [], laidByText := true, laidKinds := [.data], laidTests := true, laidLooks := .later }
def FnExactLifeOfCardSaid : Prop := Claim7.holds Tryd.pinned (.plain (OpenSpec.ofChange fnExactLifeOfSpec)) fnExactLifeOfCard

/-- THE SECOND FORM's CARD OF 'laws.FnExactPriceOf'. -/
def fnExactPriceOfUptoCard : Claim7 := { stood := { row := fnExactPriceOfUptoRow, standIns := [], harness := (true, "e68170414dd84c04a070442a3c4ed6d2ad833cd3bc64f265017ddaea42415352"), looks := true }, kinds := [], alts := [], laidByText := true, laidKinds := [.data, .sentinel], laidTests := true, laidLooks := .later }
def FnExactPriceOfUptoCardSaid : Prop := Claim7.holds Tryd.pinned (.plain (OpenSpec.upto fnExactPriceOfSpec)) fnExactPriceOfUptoCard

/-- THE SECOND FORM's CARD OF 'laws.FnExactYieldOf'. -/
def fnExactYieldOfUptoCard : Claim7 := { stood := { row := fnExactYieldOfUptoRow, standIns := [], harness := (true, "e68170414dd84c04a070442a3c4ed6d2ad833cd3bc64f265017ddaea42415352"), looks := true }, kinds := [], alts := [], laidByText := true, laidKinds := [.data, .sentinel], laidTests := true, laidLooks := .later }
def FnExactYieldOfUptoCardSaid : Prop := Claim7.holds Tryd.pinned (.plain (OpenSpec.upto fnExactYieldOfSpec)) fnExactYieldOfUptoCard

/-- THE SECOND FORM's CARD OF 'laws.FnTopYield'. -/
def fnTopYieldUptoCard : Claim7 := { stood := { row := fnTopYieldUptoRow, standIns := [], harness := (true, "e68170414dd84c04a070442a3c4ed6d2ad833cd3bc64f265017ddaea42415352"), looks := true }, kinds := [], alts := [], laidByText := true, laidKinds := [.data, .sentinel], laidTests := true, laidLooks := .later }
def FnTopYieldUptoCardSaid : Prop := Claim7.holds Tryd.pinned (.plain (OpenSpec.upto fnTopYieldSpec)) fnTopYieldUptoCard

/-- THE SECOND FORM's CARD OF 'laws.FnExactRiskOf'. -/
def fnExactRiskOfUptoCard : Claim7 := { stood := { row := fnExactRiskOfUptoRow, standIns := [], harness := (true, "e68170414dd84c04a070442a3c4ed6d2ad833cd3bc64f265017ddaea42415352"), looks := true }, kinds := [], alts := [], laidByText := true, laidKinds := [.data, .sentinel], laidTests := true, laidLooks := .later }
def FnExactRiskOfUptoCardSaid : Prop := Claim7.holds Tryd.pinned (.plain (OpenSpec.upto fnExactRiskOfSpec)) fnExactRiskOfUptoCard

/-- THE SECOND FORM's CARD OF 'laws.FnLifeOf'. -/
def fnLifeOfUptoCard : Claim7 := { stood := { row := fnLifeOfUptoRow, standIns := [], harness := (true, "e68170414dd84c04a070442a3c4ed6d2ad833cd3bc64f265017ddaea42415352"), looks := true }, kinds := [], alts := [], laidByText := true, laidKinds := [.data], laidTests := true, laidLooks := .later }
def FnLifeOfUptoCardSaid : Prop := Claim7.holds Tryd.pinned (.plain (OpenSpec.upto fnLifeOfSpec)) fnLifeOfUptoCard

/-- THE SECOND FORM's CARD OF 'laws.FnLifeOfZero'. -/
def fnLifeOfZeroUptoCard : Claim7 := { stood := { row := fnLifeOfZeroUptoRow, standIns := [], harness := (true, "e68170414dd84c04a070442a3c4ed6d2ad833cd3bc64f265017ddaea42415352"), looks := true }, kinds := [], alts := [], laidByText := true, laidKinds := [.data], laidTests := true, laidLooks := .later }
def FnLifeOfZeroUptoCardSaid : Prop := Claim7.holds Tryd.pinned (.plain (OpenSpec.upto fnLifeOfZeroSpec)) fnLifeOfZeroUptoCard

/-- THE SECOND FORM's CARD OF 'laws.FnExactLifeOf'. -/
def fnExactLifeOfUptoCard : Claim7 := { stood := { row := fnExactLifeOfUptoRow, standIns := [], harness := (true, "e68170414dd84c04a070442a3c4ed6d2ad833cd3bc64f265017ddaea42415352"), looks := true }, kinds := [], alts := [], laidByText := true, laidKinds := [.data], laidTests := true, laidLooks := .later }
def FnExactLifeOfUptoCardSaid : Prop := Claim7.holds Tryd.pinned (.plain (OpenSpec.upto fnExactLifeOfSpec)) fnExactLifeOfUptoCard
end Rows
end Go.Proofs.YtkdooncfchmkfaaDoor
