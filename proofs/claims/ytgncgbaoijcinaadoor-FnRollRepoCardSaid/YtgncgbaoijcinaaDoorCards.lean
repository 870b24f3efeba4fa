/-
  DERIVED. GIVEN WITH THE SEED: THE CARDS: each row of YtgncgbaoijcinaaDoorRows.lean that lists a variable, with what it lists TIED to the program's text (the seventh form; the later family's looks); each row that meets fmt, with fmt's text TOLD by the authors' own Lean function (tested against real Go, not proved from fmt's source: count such statements apart). THE CARD IS WHAT COUNTS. Prove the row's statement (the work); the ties are given (YtgncgbaoijcinaaDoorTie.lean); close each card by the builder's one call (the guide's Derived/Test/ToyasCard.lean, 'card_holds'). Laid BY PROGRAM, IN A SANDBOX (cutbox-door.mjs). By AI agents, Wed Nov 11 2026. No macro, syntax, notation, axiom, sorry.
-/
import Derived.Test.YtgncgbaoijcinaaDoorRows
import GoSem.ClaimSeven
namespace Go.Proofs.YtgncgbaoijcinaaDoor
namespace Rows

/-- THE TIED CARD OF 'laws.FnRollRepo'. -/
def fnRollRepoCard : Claim7 := { stood := { row := fnRollRepoRow, standIns := [], harness := (true, "c8911f53fbe70002d63c4152a14e7570405665a292dfd5c6acc5f1bed5d2bb28"), looks := false }, kinds := [], alts := [], laidByText := true, laidKinds := [.data], laidTests := true, laidLooks := .later }
def FnRollRepoCardSaid : Prop := Claim7.holds Tryd.pinned (.plain (OpenSpec.ofChange fnRollRepoSpec)) fnRollRepoCard

/-- THE SECOND FORM's CARD OF 'laws.FnRollRepo'. -/
def fnRollRepoUptoCard : Claim7 := { stood := { row := fnRollRepoUptoRow, standIns := [], harness := (true, "c8911f53fbe70002d63c4152a14e7570405665a292dfd5c6acc5f1bed5d2bb28"), looks := false }, kinds := [], alts := [], laidByText := true, laidKinds := [.data], laidTests := true, laidLooks := .later }
def FnRollRepoUptoCardSaid : Prop := Claim7.holds Tryd.pinned (.plain (OpenSpec.upto fnRollRepoSpec)) fnRollRepoUptoCard
end Rows
end Go.Proofs.YtgncgbaoijcinaaDoor
