/-
  DERIVED. GIVEN WITH THE SEED: THE CARDS: each row of YtbihadelhknlnaaDoorRows.lean that lists a variable, with what it lists TIED to the program's text (the seventh form; the later family's looks); each row that meets fmt, with fmt's text TOLD by the authors' own Lean function (tested against real Go, not proved from fmt's source: count such statements apart). THE CARD IS WHAT COUNTS. Prove the row's statement (the work); the ties are given (YtbihadelhknlnaaDoorTie.lean); close each card by the builder's one call (the guide's Derived/Test/ToyasCard.lean, 'card_holds'). Laid BY PROGRAM, IN A SANDBOX (cutbox-door.mjs). By AI agents, Wed Nov 11 2026. No macro, syntax, notation, axiom, sorry.
-/
import Derived.Test.YtbihadelhknlnaaDoorRows
import GoSem.ClaimSeven
namespace Go.Proofs.YtbihadelhknlnaaDoor
namespace Rows

/-- THE TIED CARD OF 'laws.FnCouponPay'. -/
def fnCouponPayCard : Claim7 := { stood := { row := fnCouponPayRow, standIns := [], harness := (true, "378e9f34e4b003d14ae8d06df4199194f5f3bc9a3f76f7630ea4f19a97c7b03f"), looks := false }, kinds := [], alts := [], laidByText := true, laidKinds := [.data], laidTests := true, laidLooks := .later }
def FnCouponPayCardSaid : Prop := Claim7.holds Tryd.pinned (.plain (OpenSpec.ofChange fnCouponPaySpec)) fnCouponPayCard

/-- THE TIED CARD OF 'laws.FnExactCouponPay'. -/
def fnExactCouponPayCard : Claim7 := { stood := { row := fnExactCouponPayRow, standIns := [], harness := (true, "378e9f34e4b003d14ae8d06df4199194f5f3bc9a3f76f7630ea4f19a97c7b03f"), looks := false }, kinds := [], alts := [], laidByText := true, laidKinds := [.data], laidTests := true, laidLooks := .later }
def FnExactCouponPayCardSaid : Prop := Claim7.holds Tryd.pinned (.plain (OpenSpec.ofChange fnExactCouponPaySpec)) fnExactCouponPayCard

/-- THE SECOND FORM's CARD OF 'laws.FnCouponPay'. -/
def fnCouponPayUptoCard : Claim7 := { stood := { row := fnCouponPayUptoRow, standIns := [], harness := (true, "378e9f34e4b003d14ae8d06df4199194f5f3bc9a3f76f7630ea4f19a97c7b03f"), looks := false }, kinds := [], alts := [], laidByText := true, laidKinds := [.data], laidTests := true, laidLooks := .later }
def FnCouponPayUptoCardSaid : Prop := Claim7.holds Tryd.pinned (.plain (OpenSpec.upto fnCouponPaySpec)) fnCouponPayUptoCard

/-- THE SECOND FORM's CARD OF 'laws.FnExactCouponPay'. -/
def fnExactCouponPayUptoCard : Claim7 := { stood := { row := fnExactCouponPayUptoRow, standIns := [], harness := (true, "378e9f34e4b003d14ae8d06df4199194f5f3bc9a3f76f7630ea4f19a97c7b03f"), looks := false }, kinds := [], alts := [], laidByText := true, laidKinds := [.data], laidTests := true, laidLooks := .later }
def FnExactCouponPayUptoCardSaid : Prop := Claim7.holds Tryd.pinned (.plain (OpenSpec.upto fnExactCouponPaySpec)) fnExactCouponPayUptoCard
end Rows
end Go.Proofs.YtbihadelhknlnaaDoor
