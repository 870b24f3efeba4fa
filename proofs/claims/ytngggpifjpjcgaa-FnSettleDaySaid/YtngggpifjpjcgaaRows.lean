/-
  No cell of these rows narrows 'for every input' (looked for: loops, veiled, ifaces, maps, wideKeys, modest, calm, conditions, laid).
  DERIVED. THE GIVEN ROWS OF THIS SEAT. 9 by the template 'for every input the law returns true; each argument reads behind the call as it read before'; 0 by the template 'total and deterministic' (their statements: YtngggpifjpjcgaaTotals.lean).
  GIVEN WITH THE SEED: the statements are not yours to turn. If you find one false, say at which input.
  Laid BY PROGRAM, IN A SANDBOX (cutbox-rows.mjs): the forced cells as the released guide's own fill.sh prints them over the translation 0d154dc96dd2e14c… (all of the seat's roots in one cut). By AI agents, Wed Nov 11 2026. No macro, syntax, notation, axiom, sorry.
-/
import Derived.Test.YtngggpifjpjcgaaChecked
import GoSem.Claim
import GoSem.ClaimJoined
import GoSem.ClaimMapViews
import Derived.JoinedTies
import Derived.KernelRfl
namespace Go.Proofs.Ytngggpifjpjcgaa
/- THE CELL 'sum', in the pinned program and in every row, IS THE sha256 OF THE DUMP (.gsa) THAT YtngggpifjpjcgaaProg.lean LOADS. Nothing in Lean hashes anything: it is a label: what it is worth is what the hold of that sum in a sandbox is worth. -/
noncomputable def Try.pinned : Pinned := { name := "ytngggpifjpjcgaa", sum := "0d154dc96dd2e14c228cd747c7db3504172aec4af765d96c6c6a2c28a3081896", checked := Try.checked }
namespace Rows
def none {H : Type} : Left H := { results := [], args := [] }

/-- 'laws.FnValidRepo': WHATEVER THE INPUT: true; the input reads as it did. -/
def fnValidRepoSpec : ChangeSpec := { name := "fnValidRepo", fn := fun _ => fun
  | [d] => { results := [.lit (.bool true)], args := [d] }
  | _ => none }
def fnValidRepoRow : OpenClaim := { program := "ytngggpifjpjcgaa", sum := "0d154dc96dd2e14c228cd747c7db3504172aec4af765d96c6c6a2c28a3081896", func := "loop.example/bonddesk/laws.FnValidRepo", spec := "fnValidRepo", apart := false }
def FnValidRepoSaid : Prop := fnValidRepoRow.holds Try.pinned (OpenSpec.ofChange fnValidRepoSpec)

/-- ITS FALSE NEIGHBOUR: 'it returns false'. Refute it at one input. -/
def fnValidRepoWrong : ChangeSpec := { name := "fnValidRepo", fn := fun _ => fun
  | [d] => { results := [.lit (.bool false)], args := [d] }
  | _ => none }
def FnValidRepoWrongFalsely : Prop := fnValidRepoRow.holds Try.pinned (OpenSpec.ofChange fnValidRepoWrong)

/-- 'laws.FnPledgeFor': WHATEVER THE INPUT: true; the input reads as it did. -/
def fnPledgeForSpec : ChangeSpec := { name := "fnPledgeFor", fn := fun _ => fun
  | [d] => { results := [.lit (.bool true)], args := [d] }
  | _ => none }
def fnPledgeForRow : OpenClaim := { program := "ytngggpifjpjcgaa", sum := "0d154dc96dd2e14c228cd747c7db3504172aec4af765d96c6c6a2c28a3081896", func := "loop.example/bonddesk/laws.FnPledgeFor", spec := "fnPledgeFor", apart := false }
def FnPledgeForSaid : Prop := fnPledgeForRow.holds Try.pinned (OpenSpec.ofChange fnPledgeForSpec)

/-- ITS FALSE NEIGHBOUR: 'it returns false'. Refute it at one input. -/
def fnPledgeForWrong : ChangeSpec := { name := "fnPledgeFor", fn := fun _ => fun
  | [d] => { results := [.lit (.bool false)], args := [d] }
  | _ => none }
def FnPledgeForWrongFalsely : Prop := fnPledgeForRow.holds Try.pinned (OpenSpec.ofChange fnPledgeForWrong)

/-- 'laws.FnMarginCall': WHATEVER THE INPUT: true; the input reads as it did. -/
def fnMarginCallSpec : ChangeSpec := { name := "fnMarginCall", fn := fun _ => fun
  | [d] => { results := [.lit (.bool true)], args := [d] }
  | _ => none }
def fnMarginCallRow : OpenClaim := { program := "ytngggpifjpjcgaa", sum := "0d154dc96dd2e14c228cd747c7db3504172aec4af765d96c6c6a2c28a3081896", func := "loop.example/bonddesk/laws.FnMarginCall", spec := "fnMarginCall", apart := false }
def FnMarginCallSaid : Prop := fnMarginCallRow.holds Try.pinned (OpenSpec.ofChange fnMarginCallSpec)

/-- ITS FALSE NEIGHBOUR: 'it returns false'. Refute it at one input. -/
def fnMarginCallWrong : ChangeSpec := { name := "fnMarginCall", fn := fun _ => fun
  | [d] => { results := [.lit (.bool false)], args := [d] }
  | _ => none }
def FnMarginCallWrongFalsely : Prop := fnMarginCallRow.holds Try.pinned (OpenSpec.ofChange fnMarginCallWrong)

/-- 'laws.FnPledgeForPrice': WHATEVER THE INPUT: true; the input reads as it did. -/
def fnPledgeForPriceSpec : ChangeSpec := { name := "fnPledgeForPrice", fn := fun _ => fun
  | [d] => { results := [.lit (.bool true)], args := [d] }
  | _ => none }
def fnPledgeForPriceRow : OpenClaim := { program := "ytngggpifjpjcgaa", sum := "0d154dc96dd2e14c228cd747c7db3504172aec4af765d96c6c6a2c28a3081896", func := "loop.example/bonddesk/laws.FnPledgeForPrice", spec := "fnPledgeForPrice", apart := false }
def FnPledgeForPriceSaid : Prop := fnPledgeForPriceRow.holds Try.pinned (OpenSpec.ofChange fnPledgeForPriceSpec)

/-- ITS FALSE NEIGHBOUR: 'it returns false'. Refute it at one input. -/
def fnPledgeForPriceWrong : ChangeSpec := { name := "fnPledgeForPrice", fn := fun _ => fun
  | [d] => { results := [.lit (.bool false)], args := [d] }
  | _ => none }
def FnPledgeForPriceWrongFalsely : Prop := fnPledgeForPriceRow.holds Try.pinned (OpenSpec.ofChange fnPledgeForPriceWrong)

/-- 'laws.FnExactValidRepo': WHATEVER THE INPUT: true; the input reads as it did. -/
def fnExactValidRepoSpec : ChangeSpec := { name := "fnExactValidRepo", fn := fun _ => fun
  | [d] => { results := [.lit (.bool true)], args := [d] }
  | _ => none }
def fnExactValidRepoRow : OpenClaim := { program := "ytngggpifjpjcgaa", sum := "0d154dc96dd2e14c228cd747c7db3504172aec4af765d96c6c6a2c28a3081896", func := "loop.example/bonddesk/laws.FnExactValidRepo", spec := "fnExactValidRepo", apart := false }
def FnExactValidRepoSaid : Prop := fnExactValidRepoRow.holds Try.pinned (OpenSpec.ofChange fnExactValidRepoSpec)

/-- ITS FALSE NEIGHBOUR: 'it returns false'. Refute it at one input. -/
def fnExactValidRepoWrong : ChangeSpec := { name := "fnExactValidRepo", fn := fun _ => fun
  | [d] => { results := [.lit (.bool false)], args := [d] }
  | _ => none }
def FnExactValidRepoWrongFalsely : Prop := fnExactValidRepoRow.holds Try.pinned (OpenSpec.ofChange fnExactValidRepoWrong)

/-- 'laws.FnExactPledgeFor': WHATEVER THE INPUT: true; the input reads as it did. -/
def fnExactPledgeForSpec : ChangeSpec := { name := "fnExactPledgeFor", fn := fun _ => fun
  | [d1, d2] => { results := [.lit (.bool true)], args := [d1, d2] }
  | _ => none }
def fnExactPledgeForRow : OpenClaim := { program := "ytngggpifjpjcgaa", sum := "0d154dc96dd2e14c228cd747c7db3504172aec4af765d96c6c6a2c28a3081896", func := "loop.example/bonddesk/laws.FnExactPledgeFor", spec := "fnExactPledgeFor", apart := false }
def FnExactPledgeForSaid : Prop := fnExactPledgeForRow.holds Try.pinned (OpenSpec.ofChange fnExactPledgeForSpec)

/-- ITS FALSE NEIGHBOUR: 'it returns false'. Refute it at one input. -/
def fnExactPledgeForWrong : ChangeSpec := { name := "fnExactPledgeFor", fn := fun _ => fun
  | [d1, d2] => { results := [.lit (.bool false)], args := [d1, d2] }
  | _ => none }
def FnExactPledgeForWrongFalsely : Prop := fnExactPledgeForRow.holds Try.pinned (OpenSpec.ofChange fnExactPledgeForWrong)

/-- 'laws.FnExactMarginCall': WHATEVER THE INPUT: true; the input reads as it did. -/
def fnExactMarginCallSpec : ChangeSpec := { name := "fnExactMarginCall", fn := fun _ => fun
  | [d1, d2, d3] => { results := [.lit (.bool true)], args := [d1, d2, d3] }
  | _ => none }
def fnExactMarginCallRow : OpenClaim := { program := "ytngggpifjpjcgaa", sum := "0d154dc96dd2e14c228cd747c7db3504172aec4af765d96c6c6a2c28a3081896", func := "loop.example/bonddesk/laws.FnExactMarginCall", spec := "fnExactMarginCall", apart := false }
def FnExactMarginCallSaid : Prop := fnExactMarginCallRow.holds Try.pinned (OpenSpec.ofChange fnExactMarginCallSpec)

/-- ITS FALSE NEIGHBOUR: 'it returns false'. Refute it at one input. -/
def fnExactMarginCallWrong : ChangeSpec := { name := "fnExactMarginCall", fn := fun _ => fun
  | [d1, d2, d3] => { results := [.lit (.bool false)], args := [d1, d2, d3] }
  | _ => none }
def FnExactMarginCallWrongFalsely : Prop := fnExactMarginCallRow.holds Try.pinned (OpenSpec.ofChange fnExactMarginCallWrong)

/-- 'laws.FnSettleDay': WHATEVER THE INPUT: true; the input reads as it did. -/
def fnSettleDaySpec : ChangeSpec := { name := "fnSettleDay", fn := fun _ => fun
  | [d] => { results := [.lit (.bool true)], args := [d] }
  | _ => none }
def fnSettleDayRow : OpenClaim := { program := "ytngggpifjpjcgaa", sum := "0d154dc96dd2e14c228cd747c7db3504172aec4af765d96c6c6a2c28a3081896", func := "loop.example/bonddesk/laws.FnSettleDay", spec := "fnSettleDay", apart := false }
def FnSettleDaySaid : Prop := fnSettleDayRow.holds Try.pinned (OpenSpec.ofChange fnSettleDaySpec)

/-- ITS FALSE NEIGHBOUR: 'it returns false'. Refute it at one input. -/
def fnSettleDayWrong : ChangeSpec := { name := "fnSettleDay", fn := fun _ => fun
  | [d] => { results := [.lit (.bool false)], args := [d] }
  | _ => none }
def FnSettleDayWrongFalsely : Prop := fnSettleDayRow.holds Try.pinned (OpenSpec.ofChange fnSettleDayWrong)

/-- 'laws.FnExactSettleDay': WHATEVER THE INPUT: true; the input reads as it did. -/
def fnExactSettleDaySpec : ChangeSpec := { name := "fnExactSettleDay", fn := fun _ => fun
  | [d1, d2, d3] => { results := [.lit (.bool true)], args := [d1, d2, d3] }
  | _ => none }
def fnExactSettleDayRow : OpenClaim := { program := "ytngggpifjpjcgaa", sum := "0d154dc96dd2e14c228cd747c7db3504172aec4af765d96c6c6a2c28a3081896", func := "loop.example/bonddesk/laws.FnExactSettleDay", spec := "fnExactSettleDay", apart := false }
def FnExactSettleDaySaid : Prop := fnExactSettleDayRow.holds Try.pinned (OpenSpec.ofChange fnExactSettleDaySpec)

/-- ITS FALSE NEIGHBOUR: 'it returns false'. Refute it at one input. -/
def fnExactSettleDayWrong : ChangeSpec := { name := "fnExactSettleDay", fn := fun _ => fun
  | [d1, d2, d3] => { results := [.lit (.bool false)], args := [d1, d2, d3] }
  | _ => none }
def FnExactSettleDayWrongFalsely : Prop := fnExactSettleDayRow.holds Try.pinned (OpenSpec.ofChange fnExactSettleDayWrong)

/- THE SECOND FORM. 'bulk': how many values and letters a reading holds, each counted each time it is reached (what is shared counts as often as it is met; a slice's spare places count too). A statement '..UptoSaid' is the law's where the arguments, and the package variables that the reading takes, are together of bulk at most 1048576: NARROWER than '..Said'. Prove '..Said' where nothing that the law and all that it calls make is longer than what came in: it says more and counts as full. Else prove '..UptoSaid'. A law counts once. -/
mutual
def uptoBulk {H : Type} : DataW H → Nat
  | .lit (.string bytes) => bytes.length + 1
  | .lit _ => 1
  | .nil => 1
  | .ptr d => uptoBulk d + 1
  | .slice elems spare => uptoBulkAll elems + uptoBulkAll spare + 1
  | .agg parts => uptoBulkAll parts + 1
  | .iface _ d => uptoBulk d + 1
  | .map entries => uptoBulkEntries entries + 1
  | .held _ => 1
def uptoBulkAll {H : Type} : List (DataW H) → Nat
  | [] => 0
  | d :: r => uptoBulk d + uptoBulkAll r
def uptoBulkEntries {H : Type} : List (Lit × DataW H) → Nat
  | [] => 0
  | x :: r => uptoBulkEntry x + uptoBulkEntries r
def uptoBulkEntry {H : Type} : Lit × DataW H → Nat
  | (.string bytes, d) => bytes.length + uptoBulk d + 1
  | (_, d) => uptoBulk d + 1
 end
def uptoSmall : (H : Type) → List (DataW H) → Bool := fun _ ds => decide (uptoBulkAll ds ≤ 1048576)
def OpenSpec.upto (s : _root_.Go.ChangeSpec) : _root_.Go.OpenSpec := { _root_.Go.OpenSpec.ofChange s with cond := some uptoSmall }

/-- 'laws.FnValidRepo', WHERE WHAT IT READS IS OF BULK AT MOST 1048576: true; the input reads as it did. -/
def fnValidRepoUptoRow : OpenClaim := { program := "ytngggpifjpjcgaa", sum := "0d154dc96dd2e14c228cd747c7db3504172aec4af765d96c6c6a2c28a3081896", func := "loop.example/bonddesk/laws.FnValidRepo", spec := "fnValidRepo", apart := false, narrowed := true }
def FnValidRepoUptoSaid : Prop := fnValidRepoUptoRow.holds Try.pinned (OpenSpec.upto fnValidRepoSpec)

/-- 'laws.FnPledgeFor', WHERE WHAT IT READS IS OF BULK AT MOST 1048576: true; the input reads as it did. -/
def fnPledgeForUptoRow : OpenClaim := { program := "ytngggpifjpjcgaa", sum := "0d154dc96dd2e14c228cd747c7db3504172aec4af765d96c6c6a2c28a3081896", func := "loop.example/bonddesk/laws.FnPledgeFor", spec := "fnPledgeFor", apart := false, narrowed := true }
def FnPledgeForUptoSaid : Prop := fnPledgeForUptoRow.holds Try.pinned (OpenSpec.upto fnPledgeForSpec)

/-- 'laws.FnMarginCall', WHERE WHAT IT READS IS OF BULK AT MOST 1048576: true; the input reads as it did. -/
def fnMarginCallUptoRow : OpenClaim := { program := "ytngggpifjpjcgaa", sum := "0d154dc96dd2e14c228cd747c7db3504172aec4af765d96c6c6a2c28a3081896", func := "loop.example/bonddesk/laws.FnMarginCall", spec := "fnMarginCall", apart := false, narrowed := true }
def FnMarginCallUptoSaid : Prop := fnMarginCallUptoRow.holds Try.pinned (OpenSpec.upto fnMarginCallSpec)

/-- 'laws.FnPledgeForPrice', WHERE WHAT IT READS IS OF BULK AT MOST 1048576: true; the input reads as it did. -/
def fnPledgeForPriceUptoRow : OpenClaim := { program := "ytngggpifjpjcgaa", sum := "0d154dc96dd2e14c228cd747c7db3504172aec4af765d96c6c6a2c28a3081896", func := "loop.example/bonddesk/laws.FnPledgeForPrice", spec := "fnPledgeForPrice", apart := false, narrowed := true }
def FnPledgeForPriceUptoSaid : Prop := fnPledgeForPriceUptoRow.holds Try.pinned (OpenSpec.upto fnPledgeForPriceSpec)

/-- 'laws.FnExactValidRepo', WHERE WHAT IT READS IS OF BULK AT MOST 1048576: true; the input reads as it did. -/
def fnExactValidRepoUptoRow : OpenClaim := { program := "ytngggpifjpjcgaa", sum := "0d154dc96dd2e14c228cd747c7db3504172aec4af765d96c6c6a2c28a3081896", func := "loop.example/bonddesk/laws.FnExactValidRepo", spec := "fnExactValidRepo", apart := false, narrowed := true }
def FnExactValidRepoUptoSaid : Prop := fnExactValidRepoUptoRow.holds Try.pinned (OpenSpec.upto fnExactValidRepoSpec)

/-- 'laws.FnExactPledgeFor', WHERE WHAT IT READS IS OF BULK AT MOST 1048576: true; the input reads as it did. -/
def fnExactPledgeForUptoRow : OpenClaim := { program := "ytngggpifjpjcgaa", sum := "0d154dc96dd2e14c228cd747c7db3504172aec4af765d96c6c6a2c28a3081896", func := "loop.example/bonddesk/laws.FnExactPledgeFor", spec := "fnExactPledgeFor", apart := false, narrowed := true }
def FnExactPledgeForUptoSaid : Prop := fnExactPledgeForUptoRow.holds Try.pinned (OpenSpec.upto fnExactPledgeForSpec)

/-- 'laws.FnExactMarginCall', WHERE WHAT IT READS IS OF BULK AT MOST 1048576: true; the input reads as it did. -/
def fnExactMarginCallUptoRow : OpenClaim := { program := "ytngggpifjpjcgaa", sum := "0d154dc96dd2e14c228cd747c7db3504172aec4af765d96c6c6a2c28a3081896", func := "loop.example/bonddesk/laws.FnExactMarginCall", spec := "fnExactMarginCall", apart := false, narrowed := true }
def FnExactMarginCallUptoSaid : Prop := fnExactMarginCallUptoRow.holds Try.pinned (OpenSpec.upto fnExactMarginCallSpec)

/-- 'laws.FnSettleDay', WHERE WHAT IT READS IS OF BULK AT MOST 1048576: true; the input reads as it did. -/
def fnSettleDayUptoRow : OpenClaim := { program := "ytngggpifjpjcgaa", sum := "0d154dc96dd2e14c228cd747c7db3504172aec4af765d96c6c6a2c28a3081896", func := "loop.example/bonddesk/laws.FnSettleDay", spec := "fnSettleDay", apart := false, narrowed := true }
def FnSettleDayUptoSaid : Prop := fnSettleDayUptoRow.holds Try.pinned (OpenSpec.upto fnSettleDaySpec)

/-- 'laws.FnExactSettleDay', WHERE WHAT IT READS IS OF BULK AT MOST 1048576: true; the input reads as it did. -/
def fnExactSettleDayUptoRow : OpenClaim := { program := "ytngggpifjpjcgaa", sum := "0d154dc96dd2e14c228cd747c7db3504172aec4af765d96c6c6a2c28a3081896", func := "loop.example/bonddesk/laws.FnExactSettleDay", spec := "fnExactSettleDay", apart := false, narrowed := true }
def FnExactSettleDayUptoSaid : Prop := fnExactSettleDayUptoRow.holds Try.pinned (OpenSpec.upto fnExactSettleDaySpec)

end Rows
end Go.Proofs.Ytngggpifjpjcgaa
