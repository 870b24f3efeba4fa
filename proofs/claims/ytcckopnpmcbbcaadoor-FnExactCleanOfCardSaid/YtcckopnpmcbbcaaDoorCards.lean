/-
  DERIVED. GIVEN WITH THE SEED: THE CARDS: each row of YtcckopnpmcbbcaaDoorRows.lean that lists a variable, with what it lists TIED to the program's text (the seventh form; the later family's looks); each row that meets fmt, with fmt's text TOLD by the authors' own Lean function (tested against real Go, not proved from fmt's source: count such statements apart). THE CARD IS WHAT COUNTS. Prove the row's statement (the work); the ties are given (YtcckopnpmcbbcaaDoorTie.lean); close each card by the builder's one call (the guide's Derived/Test/ToyasCard.lean, 'card_holds'). Laid BY PROGRAM, IN A SANDBOX (cutbox-door.mjs). By AI agents, Wed Nov 11 2026. No macro, syntax, notation, axiom, sorry.
-/
import Derived.Test.YtcckopnpmcbbcaaDoorRows
import GoSem.ClaimSeven
namespace Go.Proofs.YtcckopnpmcbbcaaDoor
namespace Rows

/-- THE TIED CARD OF 'laws.FnValidBond'. -/
def fnValidBondCard : Claim7 := { stood := { row := fnValidBondRow, standIns := [], harness := (true, "0384fea95d5948c04d6322dc85d6140613609d4d8f75792fbc6f6d9d79f5620f"), looks := false }, kinds := [], alts := [], laidByText := true, laidKinds := [.data], laidTests := true, laidLooks := .later }
def FnValidBondCardSaid : Prop := Claim7.holds Tryd.pinned (.plain (OpenSpec.ofChange fnValidBondSpec)) fnValidBondCard

/-- THE TIED CARD OF 'laws.FnFlowsOf'. -/
def fnFlowsOfCard : Claim7 := { stood := { row := fnFlowsOfRow, standIns := [], harness := (true, "0384fea95d5948c04d6322dc85d6140613609d4d8f75792fbc6f6d9d79f5620f"), looks := false }, kinds := [], alts := [], laidByText := true, laidKinds := [.data], laidTests := true, laidLooks := .later }
def FnFlowsOfCardSaid : Prop := Claim7.holds Tryd.pinned (.plain (OpenSpec.ofChange fnFlowsOfSpec)) fnFlowsOfCard

/-- THE TIED CARD OF 'laws.FnFlowsOfRate'. -/
def fnFlowsOfRateCard : Claim7 := { stood := { row := fnFlowsOfRateRow, standIns := [], harness := (true, "0384fea95d5948c04d6322dc85d6140613609d4d8f75792fbc6f6d9d79f5620f"), looks := false }, kinds := [], alts := [], laidByText := true, laidKinds := [.data], laidTests := true, laidLooks := .later }
def FnFlowsOfRateCardSaid : Prop := Claim7.holds Tryd.pinned (.plain (OpenSpec.ofChange fnFlowsOfRateSpec)) fnFlowsOfRateCard

/-- THE TIED CARD OF 'laws.FnTotalOf'. -/
def fnTotalOfCard : Claim7 := { stood := { row := fnTotalOfRow, standIns := [], harness := (true, "0384fea95d5948c04d6322dc85d6140613609d4d8f75792fbc6f6d9d79f5620f"), looks := false }, kinds := [], alts := [], laidByText := true, laidKinds := [.data], laidTests := true, laidLooks := .later }
def FnTotalOfCardSaid : Prop := Claim7.holds Tryd.pinned (.plain (OpenSpec.ofChange fnTotalOfSpec)) fnTotalOfCard

/-- THE TIED CARD OF 'laws.FnExactValidBond'. -/
def fnExactValidBondCard : Claim7 := { stood := { row := fnExactValidBondRow, standIns := [], harness := (true, "0384fea95d5948c04d6322dc85d6140613609d4d8f75792fbc6f6d9d79f5620f"), looks := false }, kinds := [], alts := [], laidByText := true, laidKinds := [.data], laidTests := true, laidLooks := .later }
def FnExactValidBondCardSaid : Prop := Claim7.holds Tryd.pinned (.plain (OpenSpec.ofChange fnExactValidBondSpec)) fnExactValidBondCard

/-- THE TIED CARD OF 'laws.FnExactFlowsOf'. -/
def fnExactFlowsOfCard : Claim7 := { stood := { row := fnExactFlowsOfRow, standIns := [], harness := (true, "0384fea95d5948c04d6322dc85d6140613609d4d8f75792fbc6f6d9d79f5620f"), looks := false }, kinds := [], alts := [], laidByText := true, laidKinds := [.data], laidTests := true, laidLooks := .later }
def FnExactFlowsOfCardSaid : Prop := Claim7.holds Tryd.pinned (.plain (OpenSpec.ofChange fnExactFlowsOfSpec)) fnExactFlowsOfCard

/-- THE TIED CARD OF 'laws.FnExactTotalOf'. -/
def fnExactTotalOfCard : Claim7 := { stood := { row := fnExactTotalOfRow, standIns := [], harness := (true, "0384fea95d5948c04d6322dc85d6140613609d4d8f75792fbc6f6d9d79f5620f"), looks := false }, kinds := [], alts := [], laidByText := true, laidKinds := [.data], laidTests := true, laidLooks := .later }
def FnExactTotalOfCardSaid : Prop := Claim7.holds Tryd.pinned (.plain (OpenSpec.ofChange fnExactTotalOfSpec)) fnExactTotalOfCard

/-- THE TIED CARD OF 'laws.FnFlowsOfEqual'. -/
def fnFlowsOfEqualCard : Claim7 := { stood := { row := fnFlowsOfEqualRow, standIns := [], harness := (true, "0384fea95d5948c04d6322dc85d6140613609d4d8f75792fbc6f6d9d79f5620f"), looks := false }, kinds := [], alts := [], laidByText := true, laidKinds := [.data], laidTests := true, laidLooks := .later }
def FnFlowsOfEqualCardSaid : Prop := Claim7.holds Tryd.pinned (.plain (OpenSpec.ofChange fnFlowsOfEqualSpec)) fnFlowsOfEqualCard

/-- THE TIED CARD OF 'laws.FnAccruedOf'. -/
def fnAccruedOfCard : Claim7 := { stood := { row := fnAccruedOfRow, standIns := [], harness := (true, "0384fea95d5948c04d6322dc85d6140613609d4d8f75792fbc6f6d9d79f5620f"), looks := false }, kinds := [], alts := [], laidByText := true, laidKinds := [.data], laidTests := true, laidLooks := .later }
def FnAccruedOfCardSaid : Prop := Claim7.holds Tryd.pinned (.plain (OpenSpec.ofChange fnAccruedOfSpec)) fnAccruedOfCard

/-- THE TIED CARD OF 'laws.FnDirtyOf'. -/
def fnDirtyOfCard : Claim7 := { stood := { row := fnDirtyOfRow, standIns := [], harness := (true, "0384fea95d5948c04d6322dc85d6140613609d4d8f75792fbc6f6d9d79f5620f"), looks := false }, kinds := [], alts := [], laidByText := true, laidKinds := [.data], laidTests := true, laidLooks := .later }
def FnDirtyOfCardSaid : Prop := Claim7.holds Tryd.pinned (.plain (OpenSpec.ofChange fnDirtyOfSpec)) fnDirtyOfCard

/-- THE TIED CARD OF 'laws.FnCleanOf'. -/
def fnCleanOfCard : Claim7 := { stood := { row := fnCleanOfRow, standIns := [], harness := (true, "0384fea95d5948c04d6322dc85d6140613609d4d8f75792fbc6f6d9d79f5620f"), looks := false }, kinds := [], alts := [], laidByText := true, laidKinds := [.data], laidTests := true, laidLooks := .later }
def FnCleanOfCardSaid : Prop := Claim7.holds Tryd.pinned (.plain (OpenSpec.ofChange fnCleanOfSpec)) fnCleanOfCard

/-- THE TIED CARD OF 'laws.FnAccruedOfRate'. -/
def fnAccruedOfRateCard : Claim7 := { stood := { row := fnAccruedOfRateRow, standIns := [], harness := (true, "0384fea95d5948c04d6322dc85d6140613609d4d8f75792fbc6f6d9d79f5620f"), looks := false }, kinds := [], alts := [], laidByText := true, laidKinds := [.data], laidTests := true, laidLooks := .later }
def FnAccruedOfRateCardSaid : Prop := Claim7.holds Tryd.pinned (.plain (OpenSpec.ofChange fnAccruedOfRateSpec)) fnAccruedOfRateCard

/-- THE TIED CARD OF 'laws.FnExactAccruedOf'. -/
def fnExactAccruedOfCard : Claim7 := { stood := { row := fnExactAccruedOfRow, standIns := [], harness := (true, "0384fea95d5948c04d6322dc85d6140613609d4d8f75792fbc6f6d9d79f5620f"), looks := false }, kinds := [], alts := [], laidByText := true, laidKinds := [.data], laidTests := true, laidLooks := .later }
def FnExactAccruedOfCardSaid : Prop := Claim7.holds Tryd.pinned (.plain (OpenSpec.ofChange fnExactAccruedOfSpec)) fnExactAccruedOfCard

/-- THE TIED CARD OF 'laws.FnExactDirtyOf'. -/
def fnExactDirtyOfCard : Claim7 := { stood := { row := fnExactDirtyOfRow, standIns := [], harness := (true, "0384fea95d5948c04d6322dc85d6140613609d4d8f75792fbc6f6d9d79f5620f"), looks := false }, kinds := [], alts := [], laidByText := true, laidKinds := [.data], laidTests := true, laidLooks := .later }
def FnExactDirtyOfCardSaid : Prop := Claim7.holds Tryd.pinned (.plain (OpenSpec.ofChange fnExactDirtyOfSpec)) fnExactDirtyOfCard

/-- THE TIED CARD OF 'laws.FnExactCleanOf'. -/
def fnExactCleanOfCard : Claim7 := { stood := { row := fnExactCleanOfRow, standIns := [], harness := (true, "0384fea95d5948c04d6322dc85d6140613609d4d8f75792fbc6f6d9d79f5620f"), looks := false }, kinds := [], alts := [], laidByText := true, laidKinds := [.data], laidTests := true, laidLooks := .later }
def FnExactCleanOfCardSaid : Prop := Claim7.holds Tryd.pinned (.plain (OpenSpec.ofChange fnExactCleanOfSpec)) fnExactCleanOfCard

/-- THE SECOND FORM's CARD OF 'laws.FnValidBond'. -/
def fnValidBondUptoCard : Claim7 := { stood := { row := fnValidBondUptoRow, standIns := [], harness := (true, "0384fea95d5948c04d6322dc85d6140613609d4d8f75792fbc6f6d9d79f5620f"), looks := false }, kinds := [], alts := [], laidByText := true, laidKinds := [.data], laidTests := true, laidLooks := .later }
def FnValidBondUptoCardSaid : Prop := Claim7.holds Tryd.pinned (.plain (OpenSpec.upto fnValidBondSpec)) fnValidBondUptoCard

/-- THE SECOND FORM's CARD OF 'laws.FnFlowsOf'. -/
def fnFlowsOfUptoCard : Claim7 := { stood := { row := fnFlowsOfUptoRow, standIns := [], harness := (true, "0384fea95d5948c04d6322dc85d6140613609d4d8f75792fbc6f6d9d79f5620f"), looks := false }, kinds := [], alts := [], laidByText := true, laidKinds := [.data], laidTests := true, laidLooks := .later }
def FnFlowsOfUptoCardSaid : Prop := Claim7.holds Tryd.pinned (.plain (OpenSpec.upto fnFlowsOfSpec)) fnFlowsOfUptoCard

/-- THE SECOND FORM's CARD OF 'laws.FnFlowsOfRate'. -/
def fnFlowsOfRateUptoCard : Claim7 := { stood := { row := fnFlowsOfRateUptoRow, standIns := [], harness := (true, "0384fea95d5948c04d6322dc85d6140613609d4d8f75792fbc6f6d9d79f5620f"), looks := false }, kinds := [], alts := [], laidByText := true, laidKinds := [.data], laidTests := true, laidLooks := .later }
def FnFlowsOfRateUptoCardSaid : Prop := Claim7.holds Tryd.pinned (.plain (OpenSpec.upto fnFlowsOfRateSpec)) fnFlowsOfRateUptoCard

/-- THE SECOND FORM's CARD OF 'laws.FnTotalOf'. -/
def fnTotalOfUptoCard : Claim7 := { stood := { row := fnTotalOfUptoRow, standIns := [], harness := (true, "0384fea95d5948c04d6322dc85d6140613609d4d8f75792fbc6f6d9d79f5620f"), looks := false }, kinds := [], alts := [], laidByText := true, laidKinds := [.data], laidTests := true, laidLooks := .later }
def FnTotalOfUptoCardSaid : Prop := Claim7.holds Tryd.pinned (.plain (OpenSpec.upto fnTotalOfSpec)) fnTotalOfUptoCard

/-- THE SECOND FORM's CARD OF 'laws.FnExactValidBond'. -/
def fnExactValidBondUptoCard : Claim7 := { stood := { row := fnExactValidBondUptoRow, standIns := [], harness := (true, "0384fea95d5948c04d6322dc85d6140613609d4d8f75792fbc6f6d9d79f5620f"), looks := false }, kinds := [], alts := [], laidByText := true, laidKinds := [.data], laidTests := true, laidLooks := .later }
def FnExactValidBondUptoCardSaid : Prop := Claim7.holds Tryd.pinned (.plain (OpenSpec.upto fnExactValidBondSpec)) fnExactValidBondUptoCard

/-- THE SECOND FORM's CARD OF 'laws.FnExactFlowsOf'. -/
def fnExactFlowsOfUptoCard : Claim7 := { stood := { row := fnExactFlowsOfUptoRow, standIns := [], harness := (true, "0384fea95d5948c04d6322dc85d6140613609d4d8f75792fbc6f6d9d79f5620f"), looks := false }, kinds := [], alts := [], laidByText := true, laidKinds := [.data], laidTests := true, laidLooks := .later }
def FnExactFlowsOfUptoCardSaid : Prop := Claim7.holds Tryd.pinned (.plain (OpenSpec.upto fnExactFlowsOfSpec)) fnExactFlowsOfUptoCard

/-- THE SECOND FORM's CARD OF 'laws.FnExactTotalOf'. -/
def fnExactTotalOfUptoCard : Claim7 := { stood := { row := fnExactTotalOfUptoRow, standIns := [], harness := (true, "0384fea95d5948c04d6322dc85d6140613609d4d8f75792fbc6f6d9d79f5620f"), looks := false }, kinds := [], alts := [], laidByText := true, laidKinds := [.data], laidTests := true, laidLooks := .later }
def FnExactTotalOfUptoCardSaid : Prop := Claim7.holds Tryd.pinned (.plain (OpenSpec.upto fnExactTotalOfSpec)) fnExactTotalOfUptoCard

/-- THE SECOND FORM's CARD OF 'laws.FnFlowsOfEqual'. -/
def fnFlowsOfEqualUptoCard : Claim7 := { stood := { row := fnFlowsOfEqualUptoRow, standIns := [], harness := (true, "0384fea95d5948c04d6322dc85d6140613609d4d8f75792fbc6f6d9d79f5620f"), looks := false }, kinds := [], alts := [], laidByText := true, laidKinds := [.data], laidTests := true, laidLooks := .later }
def FnFlowsOfEqualUptoCardSaid : Prop := Claim7.holds Tryd.pinned (.plain (OpenSpec.upto fnFlowsOfEqualSpec)) fnFlowsOfEqualUptoCard

/-- THE SECOND FORM's CARD OF 'laws.FnAccruedOf'. -/
def fnAccruedOfUptoCard : Claim7 := { stood := { row := fnAccruedOfUptoRow, standIns := [], harness := (true, "0384fea95d5948c04d6322dc85d6140613609d4d8f75792fbc6f6d9d79f5620f"), looks := false }, kinds := [], alts := [], laidByText := true, laidKinds := [.data], laidTests := true, laidLooks := .later }
def FnAccruedOfUptoCardSaid : Prop := Claim7.holds Tryd.pinned (.plain (OpenSpec.upto fnAccruedOfSpec)) fnAccruedOfUptoCard

/-- THE SECOND FORM's CARD OF 'laws.FnDirtyOf'. -/
def fnDirtyOfUptoCard : Claim7 := { stood := { row := fnDirtyOfUptoRow, standIns := [], harness := (true, "0384fea95d5948c04d6322dc85d6140613609d4d8f75792fbc6f6d9d79f5620f"), looks := false }, kinds := [], alts := [], laidByText := true, laidKinds := [.data], laidTests := true, laidLooks := .later }
def FnDirtyOfUptoCardSaid : Prop := Claim7.holds Tryd.pinned (.plain (OpenSpec.upto fnDirtyOfSpec)) fnDirtyOfUptoCard

/-- THE SECOND FORM's CARD OF 'laws.FnCleanOf'. -/
def fnCleanOfUptoCard : Claim7 := { stood := { row := fnCleanOfUptoRow, standIns := [], harness := (true, "0384fea95d5948c04d6322dc85d6140613609d4d8f75792fbc6f6d9d79f5620f"), looks := false }, kinds := [], alts := [], laidByText := true, laidKinds := [.data], laidTests := true, laidLooks := .later }
def FnCleanOfUptoCardSaid : Prop := Claim7.holds Tryd.pinned (.plain (OpenSpec.upto fnCleanOfSpec)) fnCleanOfUptoCard

/-- THE SECOND FORM's CARD OF 'laws.FnAccruedOfRate'. -/
def fnAccruedOfRateUptoCard : Claim7 := { stood := { row := fnAccruedOfRateUptoRow, standIns := [], harness := (true, "0384fea95d5948c04d6322dc85d6140613609d4d8f75792fbc6f6d9d79f5620f"), looks := false }, kinds := [], alts := [], laidByText := true, laidKinds := [.data], laidTests := true, laidLooks := .later }
def FnAccruedOfRateUptoCardSaid : Prop := Claim7.holds Tryd.pinned (.plain (OpenSpec.upto fnAccruedOfRateSpec)) fnAccruedOfRateUptoCard

/-- THE SECOND FORM's CARD OF 'laws.FnExactAccruedOf'. -/
def fnExactAccruedOfUptoCard : Claim7 := { stood := { row := fnExactAccruedOfUptoRow, standIns := [], harness := (true, "0384fea95d5948c04d6322dc85d6140613609d4d8f75792fbc6f6d9d79f5620f"), looks := false }, kinds := [], alts := [], laidByText := true, laidKinds := [.data], laidTests := true, laidLooks := .later }
def FnExactAccruedOfUptoCardSaid : Prop := Claim7.holds Tryd.pinned (.plain (OpenSpec.upto fnExactAccruedOfSpec)) fnExactAccruedOfUptoCard

/-- THE SECOND FORM's CARD OF 'laws.FnExactDirtyOf'. -/
def fnExactDirtyOfUptoCard : Claim7 := { stood := { row := fnExactDirtyOfUptoRow, standIns := [], harness := (true, "0384fea95d5948c04d6322dc85d6140613609d4d8f75792fbc6f6d9d79f5620f"), looks := false }, kinds := [], alts := [], laidByText := true, laidKinds := [.data], laidTests := true, laidLooks := .later }
def FnExactDirtyOfUptoCardSaid : Prop := Claim7.holds Tryd.pinned (.plain (OpenSpec.upto fnExactDirtyOfSpec)) fnExactDirtyOfUptoCard

/-- THE SECOND FORM's CARD OF 'laws.FnExactCleanOf'. -/
def fnExactCleanOfUptoCard : Claim7 := { stood := { row := fnExactCleanOfUptoRow, standIns := [], harness := (true, "0384fea95d5948c04d6322dc85d6140613609d4d8f75792fbc6f6d9d79f5620f"), looks := false }, kinds := [], alts := [], laidByText := true, laidKinds := [.data], laidTests := true, laidLooks := .later }
def FnExactCleanOfUptoCardSaid : Prop := Claim7.holds Tryd.pinned (.plain (OpenSpec.upto fnExactCleanOfSpec)) fnExactCleanOfUptoCard
end Rows
end Go.Proofs.YtcckopnpmcbbcaaDoor
