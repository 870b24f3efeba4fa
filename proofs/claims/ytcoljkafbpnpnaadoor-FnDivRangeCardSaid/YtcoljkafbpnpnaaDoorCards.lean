/-
  DERIVED. GIVEN WITH THE SEED: THE CARDS: each row of YtcoljkafbpnpnaaDoorRows.lean that lists a variable, with what it lists TIED to the program's text (the seventh form; the later family's looks); each row that meets fmt, with fmt's text TOLD by the authors' own Lean function (tested against real Go, not proved from fmt's source: count such statements apart). THE CARD IS WHAT COUNTS. Prove the row's statement (the work); the ties are given (YtcoljkafbpnpnaaDoorTie.lean); close each card by the builder's one call (the guide's Derived/Test/ToyasCard.lean, 'card_holds'). Laid BY PROGRAM, IN A SANDBOX (cutbox-door.mjs). By AI agents, Wed Nov 11 2026. No macro, syntax, notation, axiom, sorry.
-/
import Derived.Test.YtcoljkafbpnpnaaDoorRows
import GoSem.ClaimSeven
namespace Go.Proofs.YtcoljkafbpnpnaaDoor
namespace Rows

/-- THE TIED CARD OF 'laws.FnAddRange'. -/
def fnAddRangeCard : Claim7 := { stood := { row := fnAddRangeRow, standIns := [], harness := (true, "972b6e9a3831415810b3570f39873f60d15704f9ceba6883e2cc037de2e1940a"), looks := true }, kinds := [], alts := [], laidByText := true, laidKinds := [.sentinel], laidTests := true, laidLooks := .later }
def FnAddRangeCardSaid : Prop := Claim7.holds Tryd.pinned (.plain (OpenSpec.ofChange fnAddRangeSpec)) fnAddRangeCard

/-- THE TIED CARD OF 'laws.FnMulRange'. -/
def fnMulRangeCard : Claim7 := { stood := { row := fnMulRangeRow, standIns := [], harness := (true, "972b6e9a3831415810b3570f39873f60d15704f9ceba6883e2cc037de2e1940a"), looks := true }, kinds := [], alts := [], laidByText := true, laidKinds := [.sentinel], laidTests := true, laidLooks := .later }
def FnMulRangeCardSaid : Prop := Claim7.holds Tryd.pinned (.plain (OpenSpec.ofChange fnMulRangeSpec)) fnMulRangeCard

/-- THE TIED CARD OF 'laws.FnMulRangeInside'. -/
def fnMulRangeInsideCard : Claim7 := { stood := { row := fnMulRangeInsideRow, standIns := [], harness := (true, "972b6e9a3831415810b3570f39873f60d15704f9ceba6883e2cc037de2e1940a"), looks := true }, kinds := [], alts := [], laidByText := true, laidKinds := [.sentinel], laidTests := true, laidLooks := .later }
def FnMulRangeInsideCardSaid : Prop := Claim7.holds Tryd.pinned (.plain (OpenSpec.ofChange fnMulRangeInsideSpec)) fnMulRangeInsideCard

/-- THE TIED CARD OF 'laws.FnDivRange'. -/
def fnDivRangeCard : Claim7 := { stood := { row := fnDivRangeRow, standIns := [], harness := (true, "972b6e9a3831415810b3570f39873f60d15704f9ceba6883e2cc037de2e1940a"), looks := true }, kinds := [], alts := [], laidByText := true, laidKinds := [.sentinel], laidTests := true, laidLooks := .later }
def FnDivRangeCardSaid : Prop := Claim7.holds Tryd.pinned (.plain (OpenSpec.ofChange fnDivRangeSpec)) fnDivRangeCard

/-- THE TIED CARD OF 'laws.FnPowRange'. -/
def fnPowRangeCard : Claim7 := { stood := { row := fnPowRangeRow, standIns := [], harness := (true, "972b6e9a3831415810b3570f39873f60d15704f9ceba6883e2cc037de2e1940a"), looks := true }, kinds := [], alts := [], laidByText := true, laidKinds := [.sentinel], laidTests := true, laidLooks := .later }
def FnPowRangeCardSaid : Prop := Claim7.holds Tryd.pinned (.plain (OpenSpec.ofChange fnPowRangeSpec)) fnPowRangeCard

/-- THE TIED CARD OF 'laws.FnAddRangeThree'. -/
def fnAddRangeThreeCard : Claim7 := { stood := { row := fnAddRangeThreeRow, standIns := [], harness := (true, "972b6e9a3831415810b3570f39873f60d15704f9ceba6883e2cc037de2e1940a"), looks := true }, kinds := [], alts := [], laidByText := true, laidKinds := [.sentinel], laidTests := true, laidLooks := .later }
def FnAddRangeThreeCardSaid : Prop := Claim7.holds Tryd.pinned (.plain (OpenSpec.ofChange fnAddRangeThreeSpec)) fnAddRangeThreeCard

/-- THE TIED CARD OF 'laws.FnDivRangeOne'. -/
def fnDivRangeOneCard : Claim7 := { stood := { row := fnDivRangeOneRow, standIns := [], harness := (true, "972b6e9a3831415810b3570f39873f60d15704f9ceba6883e2cc037de2e1940a"), looks := true }, kinds := [], alts := [], laidByText := true, laidKinds := [.sentinel], laidTests := true, laidLooks := .later }
def FnDivRangeOneCardSaid : Prop := Claim7.holds Tryd.pinned (.plain (OpenSpec.ofChange fnDivRangeOneSpec)) fnDivRangeOneCard

/-- THE TIED CARD OF 'laws.FnPowRangeSum'. -/
def fnPowRangeSumCard : Claim7 := { stood := { row := fnPowRangeSumRow, standIns := [], harness := (true, "972b6e9a3831415810b3570f39873f60d15704f9ceba6883e2cc037de2e1940a"), looks := true }, kinds := [], alts := [], laidByText := true, laidKinds := [.sentinel], laidTests := true, laidLooks := .later }
def FnPowRangeSumCardSaid : Prop := Claim7.holds Tryd.pinned (.plain (OpenSpec.ofChange fnPowRangeSumSpec)) fnPowRangeSumCard

/-- THE TIED CARD OF 'laws.FnExactAddRange'. -/
def fnExactAddRangeCard : Claim7 := { stood := { row := fnExactAddRangeRow, standIns := [], harness := (true, "972b6e9a3831415810b3570f39873f60d15704f9ceba6883e2cc037de2e1940a"), looks := true }, kinds := [], alts := [], laidByText := true, laidKinds := [.sentinel], laidTests := true, laidLooks := .later }
def FnExactAddRangeCardSaid : Prop := Claim7.holds Tryd.pinned (.plain (OpenSpec.ofChange fnExactAddRangeSpec)) fnExactAddRangeCard

/-- THE TIED CARD OF 'laws.FnExactMulRange'. -/
def fnExactMulRangeCard : Claim7 := { stood := { row := fnExactMulRangeRow, standIns := [], harness := (true, "972b6e9a3831415810b3570f39873f60d15704f9ceba6883e2cc037de2e1940a"), looks := true }, kinds := [], alts := [], laidByText := true, laidKinds := [.sentinel], laidTests := true, laidLooks := .later }
def FnExactMulRangeCardSaid : Prop := Claim7.holds Tryd.pinned (.plain (OpenSpec.ofChange fnExactMulRangeSpec)) fnExactMulRangeCard

/-- THE TIED CARD OF 'laws.FnExactDivRange'. -/
def fnExactDivRangeCard : Claim7 := { stood := { row := fnExactDivRangeRow, standIns := [], harness := (true, "972b6e9a3831415810b3570f39873f60d15704f9ceba6883e2cc037de2e1940a"), looks := true }, kinds := [], alts := [], laidByText := true, laidKinds := [.sentinel], laidTests := true, laidLooks := .later }
def FnExactDivRangeCardSaid : Prop := Claim7.holds Tryd.pinned (.plain (OpenSpec.ofChange fnExactDivRangeSpec)) fnExactDivRangeCard

/-- THE TIED CARD OF 'laws.FnExactPowRange'. -/
def fnExactPowRangeCard : Claim7 := { stood := { row := fnExactPowRangeRow, standIns := [], harness := (true, "972b6e9a3831415810b3570f39873f60d15704f9ceba6883e2cc037de2e1940a"), looks := true }, kinds := [], alts := [], laidByText := true, laidKinds := [.sentinel], laidTests := true, laidLooks := .later }
def FnExactPowRangeCardSaid : Prop := Claim7.holds Tryd.pinned (.plain (OpenSpec.ofChange fnExactPowRangeSpec)) fnExactPowRangeCard

/-- THE SECOND FORM's CARD OF 'laws.FnAddRange'. -/
def fnAddRangeUptoCard : Claim7 := { stood := { row := fnAddRangeUptoRow, standIns := [], harness := (true, "972b6e9a3831415810b3570f39873f60d15704f9ceba6883e2cc037de2e1940a"), looks := true }, kinds := [], alts := [], laidByText := true, laidKinds := [.sentinel], laidTests := true, laidLooks := .later }
def FnAddRangeUptoCardSaid : Prop := Claim7.holds Tryd.pinned (.plain (OpenSpec.upto fnAddRangeSpec)) fnAddRangeUptoCard

/-- THE SECOND FORM's CARD OF 'laws.FnMulRange'. -/
def fnMulRangeUptoCard : Claim7 := { stood := { row := fnMulRangeUptoRow, standIns := [], harness := (true, "972b6e9a3831415810b3570f39873f60d15704f9ceba6883e2cc037de2e1940a"), looks := true }, kinds := [], alts := [], laidByText := true, laidKinds := [.sentinel], laidTests := true, laidLooks := .later }
def FnMulRangeUptoCardSaid : Prop := Claim7.holds Tryd.pinned (.plain (OpenSpec.upto fnMulRangeSpec)) fnMulRangeUptoCard

/-- THE SECOND FORM's CARD OF 'laws.FnMulRangeInside'. -/
def fnMulRangeInsideUptoCard : Claim7 := { stood := { row := fnMulRangeInsideUptoRow, standIns := [], harness := (true, "972b6e9a3831415810b3570f39873f60d15704f9ceba6883e2cc037de2e1940a"), looks := true }, kinds := [], alts := [], laidByText := true, laidKinds := [.sentinel], laidTests := true, laidLooks := .later }
def FnMulRangeInsideUptoCardSaid : Prop := Claim7.holds Tryd.pinned (.plain (OpenSpec.upto fnMulRangeInsideSpec)) fnMulRangeInsideUptoCard

/-- THE SECOND FORM's CARD OF 'laws.FnDivRange'. -/
def fnDivRangeUptoCard : Claim7 := { stood := { row := fnDivRangeUptoRow, standIns := [], harness := (true, "972b6e9a3831415810b3570f39873f60d15704f9ceba6883e2cc037de2e1940a"), looks := true }, kinds := [], alts := [], laidByText := true, laidKinds := [.sentinel], laidTests := true, laidLooks := .later }
def FnDivRangeUptoCardSaid : Prop := Claim7.holds Tryd.pinned (.plain (OpenSpec.upto fnDivRangeSpec)) fnDivRangeUptoCard

/-- THE SECOND FORM's CARD OF 'laws.FnPowRange'. -/
def fnPowRangeUptoCard : Claim7 := { stood := { row := fnPowRangeUptoRow, standIns := [], harness := (true, "972b6e9a3831415810b3570f39873f60d15704f9ceba6883e2cc037de2e1940a"), looks := true }, kinds := [], alts := [], laidByText := true, laidKinds := [.sentinel], laidTests := true, laidLooks := .later }
def FnPowRangeUptoCardSaid : Prop := Claim7.holds Tryd.pinned (.plain (OpenSpec.upto fnPowRangeSpec)) fnPowRangeUptoCard

/-- THE SECOND FORM's CARD OF 'laws.FnAddRangeThree'. -/
def fnAddRangeThreeUptoCard : Claim7 := { stood := { row := fnAddRangeThreeUptoRow, standIns := [], harness := (true, "972b6e9a3831415810b3570f39873f60d15704f9ceba6883e2cc037de2e1940a"), looks := true }, kinds := [], alts := [], laidByText := true, laidKinds := [.sentinel], laidTests := true, laidLooks := .later }
def FnAddRangeThreeUptoCardSaid : Prop := Claim7.holds Tryd.pinned (.plain (OpenSpec.upto fnAddRangeThreeSpec)) fnAddRangeThreeUptoCard

/-- THE SECOND FORM's CARD OF 'laws.FnDivRangeOne'. -/
def fnDivRangeOneUptoCard : Claim7 := { stood := { row := fnDivRangeOneUptoRow, standIns := [], harness := (true, "972b6e9a3831415810b3570f39873f60d15704f9ceba6883e2cc037de2e1940a"), looks := true }, kinds := [], alts := [], laidByText := true, laidKinds := [.sentinel], laidTests := true, laidLooks := .later }
def FnDivRangeOneUptoCardSaid : Prop := Claim7.holds Tryd.pinned (.plain (OpenSpec.upto fnDivRangeOneSpec)) fnDivRangeOneUptoCard

/-- THE SECOND FORM's CARD OF 'laws.FnPowRangeSum'. -/
def fnPowRangeSumUptoCard : Claim7 := { stood := { row := fnPowRangeSumUptoRow, standIns := [], harness := (true, "972b6e9a3831415810b3570f39873f60d15704f9ceba6883e2cc037de2e1940a"), looks := true }, kinds := [], alts := [], laidByText := true, laidKinds := [.sentinel], laidTests := true, laidLooks := .later }
def FnPowRangeSumUptoCardSaid : Prop := Claim7.holds Tryd.pinned (.plain (OpenSpec.upto fnPowRangeSumSpec)) fnPowRangeSumUptoCard

/-- THE SECOND FORM's CARD OF 'laws.FnExactAddRange'. -/
def fnExactAddRangeUptoCard : Claim7 := { stood := { row := fnExactAddRangeUptoRow, standIns := [], harness := (true, "972b6e9a3831415810b3570f39873f60d15704f9ceba6883e2cc037de2e1940a"), looks := true }, kinds := [], alts := [], laidByText := true, laidKinds := [.sentinel], laidTests := true, laidLooks := .later }
def FnExactAddRangeUptoCardSaid : Prop := Claim7.holds Tryd.pinned (.plain (OpenSpec.upto fnExactAddRangeSpec)) fnExactAddRangeUptoCard

/-- THE SECOND FORM's CARD OF 'laws.FnExactMulRange'. -/
def fnExactMulRangeUptoCard : Claim7 := { stood := { row := fnExactMulRangeUptoRow, standIns := [], harness := (true, "972b6e9a3831415810b3570f39873f60d15704f9ceba6883e2cc037de2e1940a"), looks := true }, kinds := [], alts := [], laidByText := true, laidKinds := [.sentinel], laidTests := true, laidLooks := .later }
def FnExactMulRangeUptoCardSaid : Prop := Claim7.holds Tryd.pinned (.plain (OpenSpec.upto fnExactMulRangeSpec)) fnExactMulRangeUptoCard

/-- THE SECOND FORM's CARD OF 'laws.FnExactDivRange'. -/
def fnExactDivRangeUptoCard : Claim7 := { stood := { row := fnExactDivRangeUptoRow, standIns := [], harness := (true, "972b6e9a3831415810b3570f39873f60d15704f9ceba6883e2cc037de2e1940a"), looks := true }, kinds := [], alts := [], laidByText := true, laidKinds := [.sentinel], laidTests := true, laidLooks := .later }
def FnExactDivRangeUptoCardSaid : Prop := Claim7.holds Tryd.pinned (.plain (OpenSpec.upto fnExactDivRangeSpec)) fnExactDivRangeUptoCard

/-- THE SECOND FORM's CARD OF 'laws.FnExactPowRange'. -/
def fnExactPowRangeUptoCard : Claim7 := { stood := { row := fnExactPowRangeUptoRow, standIns := [], harness := (true, "972b6e9a3831415810b3570f39873f60d15704f9ceba6883e2cc037de2e1940a"), looks := true }, kinds := [], alts := [], laidByText := true, laidKinds := [.sentinel], laidTests := true, laidLooks := .later }
def FnExactPowRangeUptoCardSaid : Prop := Claim7.holds Tryd.pinned (.plain (OpenSpec.upto fnExactPowRangeSpec)) fnExactPowRangeUptoCard
end Rows
end Go.Proofs.YtcoljkafbpnpnaaDoor
