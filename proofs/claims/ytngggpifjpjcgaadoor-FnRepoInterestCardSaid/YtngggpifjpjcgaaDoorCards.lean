/-
  DERIVED. GIVEN WITH THE SEED: THE CARDS: each row of YtngggpifjpjcgaaDoorRows.lean that lists a variable, with what it lists TIED to the program's text (the seventh form; the later family's looks); each row that meets fmt, with fmt's text TOLD by the authors' own Lean function (tested against real Go, not proved from fmt's source: count such statements apart). THE CARD IS WHAT COUNTS. Prove the row's statement (the work); the ties are given (YtngggpifjpjcgaaDoorTie.lean); close each card by the builder's one call (the guide's Derived/Test/ToyasCard.lean, 'card_holds'). Laid BY PROGRAM, IN A SANDBOX (cutbox-door.mjs). By AI agents, Wed Nov 11 2026. No macro, syntax, notation, axiom, sorry.
-/
import Derived.Test.YtngggpifjpjcgaaDoorRows
import GoSem.ClaimSeven
namespace Go.Proofs.YtngggpifjpjcgaaDoor
namespace Rows

/-- THE TIED CARD OF 'laws.FnRepoInterest'. -/
def fnRepoInterestCard : Claim7 := { stood := { row := fnRepoInterestRow, standIns := [], harness := (true, "a60d0d9df2a7adced82859d169fccf758f4e2aecfc9311d2de79751149e45643"), looks := false }, kinds := [], alts := [], laidByText := true, laidKinds := [.data], laidTests := true, laidLooks := .later }
def FnRepoInterestCardSaid : Prop := Claim7.holds Tryd.pinned (.plain (OpenSpec.ofChange fnRepoInterestSpec)) fnRepoInterestCard

/-- THE TIED CARD OF 'laws.FnRollRepo'. -/
def fnRollRepoCard : Claim7 := { stood := { row := fnRollRepoRow, standIns := [], harness := (true, "a60d0d9df2a7adced82859d169fccf758f4e2aecfc9311d2de79751149e45643"), looks := false }, kinds := [], alts := [], laidByText := true, laidKinds := [.data], laidTests := true, laidLooks := .later }
def FnRollRepoCardSaid : Prop := Claim7.holds Tryd.pinned (.plain (OpenSpec.ofChange fnRollRepoSpec)) fnRollRepoCard

/-- THE TIED CARD OF 'laws.FnExactRepoInterest'. -/
def fnExactRepoInterestCard : Claim7 := { stood := { row := fnExactRepoInterestRow, standIns := [], harness := (true, "a60d0d9df2a7adced82859d169fccf758f4e2aecfc9311d2de79751149e45643"), looks := false }, kinds := [], alts := [], laidByText := true, laidKinds := [.data], laidTests := true, laidLooks := .later }
def FnExactRepoInterestCardSaid : Prop := Claim7.holds Tryd.pinned (.plain (OpenSpec.ofChange fnExactRepoInterestSpec)) fnExactRepoInterestCard

/-- THE TIED CARD OF 'laws.FnExactRollRepo'. -/
def fnExactRollRepoCard : Claim7 := { stood := { row := fnExactRollRepoRow, standIns := [], harness := (true, "a60d0d9df2a7adced82859d169fccf758f4e2aecfc9311d2de79751149e45643"), looks := false }, kinds := [], alts := [], laidByText := true, laidKinds := [.data], laidTests := true, laidLooks := .later }
def FnExactRollRepoCardSaid : Prop := Claim7.holds Tryd.pinned (.plain (OpenSpec.ofChange fnExactRollRepoSpec)) fnExactRollRepoCard

/-- THE TIED CARD OF 'laws.FnInterestOf'. -/
def fnInterestOfCard : Claim7 := { stood := { row := fnInterestOfRow, standIns := [], harness := (true, "a60d0d9df2a7adced82859d169fccf758f4e2aecfc9311d2de79751149e45643"), looks := false }, kinds := [], alts := [], laidByText := true, laidKinds := [.data], laidTests := true, laidLooks := .later }
def FnInterestOfCardSaid : Prop := Claim7.holds Tryd.pinned (.plain (OpenSpec.ofChange fnInterestOfSpec)) fnInterestOfCard

/-- THE TIED CARD OF 'laws.FnInterestOfDouble'. -/
def fnInterestOfDoubleCard : Claim7 := { stood := { row := fnInterestOfDoubleRow, standIns := [], harness := (true, "a60d0d9df2a7adced82859d169fccf758f4e2aecfc9311d2de79751149e45643"), looks := false }, kinds := [], alts := [], laidByText := true, laidKinds := [.data], laidTests := true, laidLooks := .later }
def FnInterestOfDoubleCardSaid : Prop := Claim7.holds Tryd.pinned (.plain (OpenSpec.ofChange fnInterestOfDoubleSpec)) fnInterestOfDoubleCard

/-- THE TIED CARD OF 'laws.FnExactInterestOf'. -/
def fnExactInterestOfCard : Claim7 := { stood := { row := fnExactInterestOfRow, standIns := [], harness := (true, "a60d0d9df2a7adced82859d169fccf758f4e2aecfc9311d2de79751149e45643"), looks := false }, kinds := [], alts := [], laidByText := true, laidKinds := [.data], laidTests := true, laidLooks := .later }
def FnExactInterestOfCardSaid : Prop := Claim7.holds Tryd.pinned (.plain (OpenSpec.ofChange fnExactInterestOfSpec)) fnExactInterestOfCard

/-- THE SECOND FORM's CARD OF 'laws.FnRepoInterest'. -/
def fnRepoInterestUptoCard : Claim7 := { stood := { row := fnRepoInterestUptoRow, standIns := [], harness := (true, "a60d0d9df2a7adced82859d169fccf758f4e2aecfc9311d2de79751149e45643"), looks := false }, kinds := [], alts := [], laidByText := true, laidKinds := [.data], laidTests := true, laidLooks := .later }
def FnRepoInterestUptoCardSaid : Prop := Claim7.holds Tryd.pinned (.plain (OpenSpec.upto fnRepoInterestSpec)) fnRepoInterestUptoCard

/-- THE SECOND FORM's CARD OF 'laws.FnRollRepo'. -/
def fnRollRepoUptoCard : Claim7 := { stood := { row := fnRollRepoUptoRow, standIns := [], harness := (true, "a60d0d9df2a7adced82859d169fccf758f4e2aecfc9311d2de79751149e45643"), looks := false }, kinds := [], alts := [], laidByText := true, laidKinds := [.data], laidTests := true, laidLooks := .later }
def FnRollRepoUptoCardSaid : Prop := Claim7.holds Tryd.pinned (.plain (OpenSpec.upto fnRollRepoSpec)) fnRollRepoUptoCard

/-- THE SECOND FORM's CARD OF 'laws.FnExactRepoInterest'. -/
def fnExactRepoInterestUptoCard : Claim7 := { stood := { row := fnExactRepoInterestUptoRow, standIns := [], harness := (true, "a60d0d9df2a7adced82859d169fccf758f4e2aecfc9311d2de79751149e45643"), looks := false }, kinds := [], alts := [], laidByText := true, laidKinds := [.data], laidTests := true, laidLooks := .later }
def FnExactRepoInterestUptoCardSaid : Prop := Claim7.holds Tryd.pinned (.plain (OpenSpec.upto fnExactRepoInterestSpec)) fnExactRepoInterestUptoCard

/-- THE SECOND FORM's CARD OF 'laws.FnExactRollRepo'. -/
def fnExactRollRepoUptoCard : Claim7 := { stood := { row := fnExactRollRepoUptoRow, standIns := [], harness := (true, "a60d0d9df2a7adced82859d169fccf758f4e2aecfc9311d2de79751149e45643"), looks := false }, kinds := [], alts := [], laidByText := true, laidKinds := [.data], laidTests := true, laidLooks := .later }
def FnExactRollRepoUptoCardSaid : Prop := Claim7.holds Tryd.pinned (.plain (OpenSpec.upto fnExactRollRepoSpec)) fnExactRollRepoUptoCard

/-- THE SECOND FORM's CARD OF 'laws.FnInterestOf'. -/
def fnInterestOfUptoCard : Claim7 := { stood := { row := fnInterestOfUptoRow, standIns := [], harness := (true, "a60d0d9df2a7adced82859d169fccf758f4e2aecfc9311d2de79751149e45643"), looks := false }, kinds := [], alts := [], laidByText := true, laidKinds := [.data], laidTests := true, laidLooks := .later }
def FnInterestOfUptoCardSaid : Prop := Claim7.holds Tryd.pinned (.plain (OpenSpec.upto fnInterestOfSpec)) fnInterestOfUptoCard

/-- THE SECOND FORM's CARD OF 'laws.FnInterestOfDouble'. -/
def fnInterestOfDoubleUptoCard : Claim7 := { stood := { row := fnInterestOfDoubleUptoRow, standIns := [], harness := (true, "a60d0d9df2a7adced82859d169fccf758f4e2aecfc9311d2de79751149e45643"), looks := false }, kinds := [], alts := [], laidByText := true, laidKinds := [.data], laidTests := true, laidLooks := .later }
def FnInterestOfDoubleUptoCardSaid : Prop := Claim7.holds Tryd.pinned (.plain (OpenSpec.upto fnInterestOfDoubleSpec)) fnInterestOfDoubleUptoCard

/-- THE SECOND FORM's CARD OF 'laws.FnExactInterestOf'. -/
def fnExactInterestOfUptoCard : Claim7 := { stood := { row := fnExactInterestOfUptoRow, standIns := [], harness := (true, "a60d0d9df2a7adced82859d169fccf758f4e2aecfc9311d2de79751149e45643"), looks := false }, kinds := [], alts := [], laidByText := true, laidKinds := [.data], laidTests := true, laidLooks := .later }
def FnExactInterestOfUptoCardSaid : Prop := Claim7.holds Tryd.pinned (.plain (OpenSpec.upto fnExactInterestOfSpec)) fnExactInterestOfUptoCard
end Rows
end Go.Proofs.YtngggpifjpjcgaaDoor
