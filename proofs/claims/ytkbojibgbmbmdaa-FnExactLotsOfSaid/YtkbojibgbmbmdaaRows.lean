/-
  No cell of these rows narrows 'for every input' (looked for: loops, veiled, ifaces, maps, wideKeys, modest, calm, conditions, laid).
  DERIVED. THE GIVEN ROWS OF THIS SEAT. 11 by the template 'for every input the law returns true; each argument reads behind the call as it read before'; 0 by the template 'total and deterministic' (their statements: YtkbojibgbmbmdaaTotals.lean).
  GIVEN WITH THE SEED: the statements are not yours to turn. If you find one false, say at which input.
  Laid BY PROGRAM, IN A SANDBOX (cutbox-rows.mjs): the forced cells as the released guide's own fill.sh prints them over the translation 053a012b49649421… (all of the seat's roots in one cut). By AI agents, Wed Nov 11 2026. No macro, syntax, notation, axiom, sorry.
-/
import Derived.Test.YtkbojibgbmbmdaaChecked
import GoSem.Claim
import GoSem.ClaimJoined
import GoSem.ClaimMapViews
import Derived.JoinedTies
import Derived.KernelRfl
namespace Go.Proofs.Ytkbojibgbmbmdaa
/- THE CELL 'sum', in the pinned program and in every row, IS THE sha256 OF THE DUMP (.gsa) THAT YtkbojibgbmbmdaaProg.lean LOADS. Nothing in Lean hashes anything: it is a label: what it is worth is what the hold of that sum in a sandbox is worth. -/
noncomputable def Try.pinned : Pinned := { name := "ytkbojibgbmbmdaa", sum := "053a012b49649421e516422c92ff62bcebf56d8476df44fa3ac6a5b6865e0898", checked := Try.checked }
namespace Rows
def none {H : Type} : Left H := { results := [], args := [] }

/-- 'laws.FnValidTrades': WHATEVER THE INPUT: true; the input reads as it did. -/
def fnValidTradesSpec : ChangeSpec := { name := "fnValidTrades", fn := fun _ => fun
  | [d] => { results := [.lit (.bool true)], args := [d] }
  | _ => none }
def fnValidTradesRow : OpenClaim := { program := "ytkbojibgbmbmdaa", sum := "053a012b49649421e516422c92ff62bcebf56d8476df44fa3ac6a5b6865e0898", func := "loop.example/bonddesk/laws.FnValidTrades", spec := "fnValidTrades", unfollowed := true, recurses := true, apart := false }
def FnValidTradesSaid : Prop := fnValidTradesRow.holds Try.pinned (OpenSpec.ofChange fnValidTradesSpec)

/-- ITS FALSE NEIGHBOUR: 'it returns false'. Refute it at one input. -/
def fnValidTradesWrong : ChangeSpec := { name := "fnValidTrades", fn := fun _ => fun
  | [d] => { results := [.lit (.bool false)], args := [d] }
  | _ => none }
def FnValidTradesWrongFalsely : Prop := fnValidTradesRow.holds Try.pinned (OpenSpec.ofChange fnValidTradesWrong)

/-- 'laws.FnPositionAt': WHATEVER THE INPUT: true; the input reads as it did. -/
def fnPositionAtSpec : ChangeSpec := { name := "fnPositionAt", fn := fun _ => fun
  | [d] => { results := [.lit (.bool true)], args := [d] }
  | _ => none }
def fnPositionAtRow : OpenClaim := { program := "ytkbojibgbmbmdaa", sum := "053a012b49649421e516422c92ff62bcebf56d8476df44fa3ac6a5b6865e0898", func := "loop.example/bonddesk/laws.FnPositionAt", spec := "fnPositionAt", unfollowed := true, recurses := true, apart := false }
def FnPositionAtSaid : Prop := fnPositionAtRow.holds Try.pinned (OpenSpec.ofChange fnPositionAtSpec)

/-- ITS FALSE NEIGHBOUR: 'it returns false'. Refute it at one input. -/
def fnPositionAtWrong : ChangeSpec := { name := "fnPositionAt", fn := fun _ => fun
  | [d] => { results := [.lit (.bool false)], args := [d] }
  | _ => none }
def FnPositionAtWrongFalsely : Prop := fnPositionAtRow.holds Try.pinned (OpenSpec.ofChange fnPositionAtWrong)

/-- 'laws.FnLotsOf': WHATEVER THE INPUT: true; the input reads as it did. -/
def fnLotsOfSpec : ChangeSpec := { name := "fnLotsOf", fn := fun _ => fun
  | [d] => { results := [.lit (.bool true)], args := [d] }
  | _ => none }
def fnLotsOfRow : OpenClaim := { program := "ytkbojibgbmbmdaa", sum := "053a012b49649421e516422c92ff62bcebf56d8476df44fa3ac6a5b6865e0898", func := "loop.example/bonddesk/laws.FnLotsOf", spec := "fnLotsOf", unfollowed := true, recurses := true, apart := false }
def FnLotsOfSaid : Prop := fnLotsOfRow.holds Try.pinned (OpenSpec.ofChange fnLotsOfSpec)

/-- ITS FALSE NEIGHBOUR: 'it returns false'. Refute it at one input. -/
def fnLotsOfWrong : ChangeSpec := { name := "fnLotsOf", fn := fun _ => fun
  | [d] => { results := [.lit (.bool false)], args := [d] }
  | _ => none }
def FnLotsOfWrongFalsely : Prop := fnLotsOfRow.holds Try.pinned (OpenSpec.ofChange fnLotsOfWrong)

/-- 'laws.FnGainOf': WHATEVER THE INPUT: true; the input reads as it did. -/
def fnGainOfSpec : ChangeSpec := { name := "fnGainOf", fn := fun _ => fun
  | [d] => { results := [.lit (.bool true)], args := [d] }
  | _ => none }
def fnGainOfRow : OpenClaim := { program := "ytkbojibgbmbmdaa", sum := "053a012b49649421e516422c92ff62bcebf56d8476df44fa3ac6a5b6865e0898", func := "loop.example/bonddesk/laws.FnGainOf", spec := "fnGainOf", unfollowed := true, recurses := true, apart := false }
def FnGainOfSaid : Prop := fnGainOfRow.holds Try.pinned (OpenSpec.ofChange fnGainOfSpec)

/-- ITS FALSE NEIGHBOUR: 'it returns false'. Refute it at one input. -/
def fnGainOfWrong : ChangeSpec := { name := "fnGainOf", fn := fun _ => fun
  | [d] => { results := [.lit (.bool false)], args := [d] }
  | _ => none }
def FnGainOfWrongFalsely : Prop := fnGainOfRow.holds Try.pinned (OpenSpec.ofChange fnGainOfWrong)

/-- 'laws.FnGainOfFlat': WHATEVER THE INPUT: true; the input reads as it did. -/
def fnGainOfFlatSpec : ChangeSpec := { name := "fnGainOfFlat", fn := fun _ => fun
  | [d] => { results := [.lit (.bool true)], args := [d] }
  | _ => none }
def fnGainOfFlatRow : OpenClaim := { program := "ytkbojibgbmbmdaa", sum := "053a012b49649421e516422c92ff62bcebf56d8476df44fa3ac6a5b6865e0898", func := "loop.example/bonddesk/laws.FnGainOfFlat", spec := "fnGainOfFlat", unfollowed := true, recurses := true, apart := false }
def FnGainOfFlatSaid : Prop := fnGainOfFlatRow.holds Try.pinned (OpenSpec.ofChange fnGainOfFlatSpec)

/-- ITS FALSE NEIGHBOUR: 'it returns false'. Refute it at one input. -/
def fnGainOfFlatWrong : ChangeSpec := { name := "fnGainOfFlat", fn := fun _ => fun
  | [d] => { results := [.lit (.bool false)], args := [d] }
  | _ => none }
def FnGainOfFlatWrongFalsely : Prop := fnGainOfFlatRow.holds Try.pinned (OpenSpec.ofChange fnGainOfFlatWrong)

/-- 'laws.FnLotsOfAgain': WHATEVER THE INPUT: true; the input reads as it did. -/
def fnLotsOfAgainSpec : ChangeSpec := { name := "fnLotsOfAgain", fn := fun _ => fun
  | [d] => { results := [.lit (.bool true)], args := [d] }
  | _ => none }
def fnLotsOfAgainRow : OpenClaim := { program := "ytkbojibgbmbmdaa", sum := "053a012b49649421e516422c92ff62bcebf56d8476df44fa3ac6a5b6865e0898", func := "loop.example/bonddesk/laws.FnLotsOfAgain", spec := "fnLotsOfAgain", unfollowed := true, recurses := true, apart := false }
def FnLotsOfAgainSaid : Prop := fnLotsOfAgainRow.holds Try.pinned (OpenSpec.ofChange fnLotsOfAgainSpec)

/-- ITS FALSE NEIGHBOUR: 'it returns false'. Refute it at one input. -/
def fnLotsOfAgainWrong : ChangeSpec := { name := "fnLotsOfAgain", fn := fun _ => fun
  | [d] => { results := [.lit (.bool false)], args := [d] }
  | _ => none }
def FnLotsOfAgainWrongFalsely : Prop := fnLotsOfAgainRow.holds Try.pinned (OpenSpec.ofChange fnLotsOfAgainWrong)

/-- 'laws.FnLotsOfClose': WHATEVER THE INPUT: true; the input reads as it did. -/
def fnLotsOfCloseSpec : ChangeSpec := { name := "fnLotsOfClose", fn := fun _ => fun
  | [d] => { results := [.lit (.bool true)], args := [d] }
  | _ => none }
def fnLotsOfCloseRow : OpenClaim := { program := "ytkbojibgbmbmdaa", sum := "053a012b49649421e516422c92ff62bcebf56d8476df44fa3ac6a5b6865e0898", func := "loop.example/bonddesk/laws.FnLotsOfClose", spec := "fnLotsOfClose", unfollowed := true, recurses := true, apart := false }
def FnLotsOfCloseSaid : Prop := fnLotsOfCloseRow.holds Try.pinned (OpenSpec.ofChange fnLotsOfCloseSpec)

/-- ITS FALSE NEIGHBOUR: 'it returns false'. Refute it at one input. -/
def fnLotsOfCloseWrong : ChangeSpec := { name := "fnLotsOfClose", fn := fun _ => fun
  | [d] => { results := [.lit (.bool false)], args := [d] }
  | _ => none }
def FnLotsOfCloseWrongFalsely : Prop := fnLotsOfCloseRow.holds Try.pinned (OpenSpec.ofChange fnLotsOfCloseWrong)

/-- 'laws.FnExactLotsOf': WHATEVER THE INPUT: true; the input reads as it did. -/
def fnExactLotsOfSpec : ChangeSpec := { name := "fnExactLotsOf", fn := fun _ => fun
  | [d] => { results := [.lit (.bool true)], args := [d] }
  | _ => none }
def fnExactLotsOfRow : OpenClaim := { program := "ytkbojibgbmbmdaa", sum := "053a012b49649421e516422c92ff62bcebf56d8476df44fa3ac6a5b6865e0898", func := "loop.example/bonddesk/laws.FnExactLotsOf", spec := "fnExactLotsOf", unfollowed := true, recurses := true, apart := false }
def FnExactLotsOfSaid : Prop := fnExactLotsOfRow.holds Try.pinned (OpenSpec.ofChange fnExactLotsOfSpec)

/-- ITS FALSE NEIGHBOUR: 'it returns false'. Refute it at one input. -/
def fnExactLotsOfWrong : ChangeSpec := { name := "fnExactLotsOf", fn := fun _ => fun
  | [d] => { results := [.lit (.bool false)], args := [d] }
  | _ => none }
def FnExactLotsOfWrongFalsely : Prop := fnExactLotsOfRow.holds Try.pinned (OpenSpec.ofChange fnExactLotsOfWrong)

/-- 'laws.FnExactGainOf': WHATEVER THE INPUT: true; the input reads as it did. -/
def fnExactGainOfSpec : ChangeSpec := { name := "fnExactGainOf", fn := fun _ => fun
  | [d] => { results := [.lit (.bool true)], args := [d] }
  | _ => none }
def fnExactGainOfRow : OpenClaim := { program := "ytkbojibgbmbmdaa", sum := "053a012b49649421e516422c92ff62bcebf56d8476df44fa3ac6a5b6865e0898", func := "loop.example/bonddesk/laws.FnExactGainOf", spec := "fnExactGainOf", unfollowed := true, recurses := true, apart := false }
def FnExactGainOfSaid : Prop := fnExactGainOfRow.holds Try.pinned (OpenSpec.ofChange fnExactGainOfSpec)

/-- ITS FALSE NEIGHBOUR: 'it returns false'. Refute it at one input. -/
def fnExactGainOfWrong : ChangeSpec := { name := "fnExactGainOf", fn := fun _ => fun
  | [d] => { results := [.lit (.bool false)], args := [d] }
  | _ => none }
def FnExactGainOfWrongFalsely : Prop := fnExactGainOfRow.holds Try.pinned (OpenSpec.ofChange fnExactGainOfWrong)

/-- 'laws.FnExactValidTrades': WHATEVER THE INPUT: true; the input reads as it did. -/
def fnExactValidTradesSpec : ChangeSpec := { name := "fnExactValidTrades", fn := fun _ => fun
  | [d] => { results := [.lit (.bool true)], args := [d] }
  | _ => none }
def fnExactValidTradesRow : OpenClaim := { program := "ytkbojibgbmbmdaa", sum := "053a012b49649421e516422c92ff62bcebf56d8476df44fa3ac6a5b6865e0898", func := "loop.example/bonddesk/laws.FnExactValidTrades", spec := "fnExactValidTrades", unfollowed := true, recurses := true, apart := false }
def FnExactValidTradesSaid : Prop := fnExactValidTradesRow.holds Try.pinned (OpenSpec.ofChange fnExactValidTradesSpec)

/-- ITS FALSE NEIGHBOUR: 'it returns false'. Refute it at one input. -/
def fnExactValidTradesWrong : ChangeSpec := { name := "fnExactValidTrades", fn := fun _ => fun
  | [d] => { results := [.lit (.bool false)], args := [d] }
  | _ => none }
def FnExactValidTradesWrongFalsely : Prop := fnExactValidTradesRow.holds Try.pinned (OpenSpec.ofChange fnExactValidTradesWrong)

/-- 'laws.FnExactPositionAt': WHATEVER THE INPUT: true; the input reads as it did. -/
def fnExactPositionAtSpec : ChangeSpec := { name := "fnExactPositionAt", fn := fun _ => fun
  | [d1, d2] => { results := [.lit (.bool true)], args := [d1, d2] }
  | _ => none }
def fnExactPositionAtRow : OpenClaim := { program := "ytkbojibgbmbmdaa", sum := "053a012b49649421e516422c92ff62bcebf56d8476df44fa3ac6a5b6865e0898", func := "loop.example/bonddesk/laws.FnExactPositionAt", spec := "fnExactPositionAt", unfollowed := true, recurses := true, apart := false }
def FnExactPositionAtSaid : Prop := fnExactPositionAtRow.holds Try.pinned (OpenSpec.ofChange fnExactPositionAtSpec)

/-- ITS FALSE NEIGHBOUR: 'it returns false'. Refute it at one input. -/
def fnExactPositionAtWrong : ChangeSpec := { name := "fnExactPositionAt", fn := fun _ => fun
  | [d1, d2] => { results := [.lit (.bool false)], args := [d1, d2] }
  | _ => none }
def FnExactPositionAtWrongFalsely : Prop := fnExactPositionAtRow.holds Try.pinned (OpenSpec.ofChange fnExactPositionAtWrong)

/- THE SECOND FORM. 'bulk': how many values and letters a reading holds, each counted each time it is reached (what is shared counts as often as it is met; a slice's spare places count too). A statement '..UptoSaid' is the law's where the arguments, and the package variables that the reading takes, are together of bulk at most 1048576: NARROWER than '..Said'. Prove '..Said' where nothing that the law and all that it calls make is longer than what came in: it says more and counts as full. Else prove '..UptoSaid'. A law counts once. -/
mutual
def uptoBulk {H : Type} : DataW H → Nat
  | .lit (.string bytes) => bytes.length + 1
  | .lit _ => 1
  | .nil => 1
  | .ptr d => uptoBulk d + 1
  | .slice elems spare => uptoBulkAll elems + uptoBulkAll spare + 1
  | .agg parts => uptoBulkAll parts + 1
  | .iface _ d => uptoBulk d + 1
  | .map entries => uptoBulkEntries entries + 1
  | .held _ => 1
def uptoBulkAll {H : Type} : List (DataW H) → Nat
  | [] => 0
  | d :: r => uptoBulk d + uptoBulkAll r
def uptoBulkEntries {H : Type} : List (Lit × DataW H) → Nat
  | [] => 0
  | x :: r => uptoBulkEntry x + uptoBulkEntries r
def uptoBulkEntry {H : Type} : Lit × DataW H → Nat
  | (.string bytes, d) => bytes.length + uptoBulk d + 1
  | (_, d) => uptoBulk d + 1
 end
def uptoSmall : (H : Type) → List (DataW H) → Bool := fun _ ds => decide (uptoBulkAll ds ≤ 1048576)
def OpenSpec.upto (s : _root_.Go.ChangeSpec) : _root_.Go.OpenSpec := { _root_.Go.OpenSpec.ofChange s with cond := some uptoSmall }

/-- 'laws.FnValidTrades', WHERE WHAT IT READS IS OF BULK AT MOST 1048576: true; the input reads as it did. -/
def fnValidTradesUptoRow : OpenClaim := { program := "ytkbojibgbmbmdaa", sum := "053a012b49649421e516422c92ff62bcebf56d8476df44fa3ac6a5b6865e0898", func := "loop.example/bonddesk/laws.FnValidTrades", spec := "fnValidTrades", unfollowed := true, recurses := true, apart := false, narrowed := true }
def FnValidTradesUptoSaid : Prop := fnValidTradesUptoRow.holds Try.pinned (OpenSpec.upto fnValidTradesSpec)

/-- 'laws.FnPositionAt', WHERE WHAT IT READS IS OF BULK AT MOST 1048576: true; the input reads as it did. -/
def fnPositionAtUptoRow : OpenClaim := { program := "ytkbojibgbmbmdaa", sum := "053a012b49649421e516422c92ff62bcebf56d8476df44fa3ac6a5b6865e0898", func := "loop.example/bonddesk/laws.FnPositionAt", spec := "fnPositionAt", unfollowed := true, recurses := true, apart := false, narrowed := true }
def FnPositionAtUptoSaid : Prop := fnPositionAtUptoRow.holds Try.pinned (OpenSpec.upto fnPositionAtSpec)

/-- 'laws.FnLotsOf', WHERE WHAT IT READS IS OF BULK AT MOST 1048576: true; the input reads as it did. -/
def fnLotsOfUptoRow : OpenClaim := { program := "ytkbojibgbmbmdaa", sum := "053a012b49649421e516422c92ff62bcebf56d8476df44fa3ac6a5b6865e0898", func := "loop.example/bonddesk/laws.FnLotsOf", spec := "fnLotsOf", unfollowed := true, recurses := true, apart := false, narrowed := true }
def FnLotsOfUptoSaid : Prop := fnLotsOfUptoRow.holds Try.pinned (OpenSpec.upto fnLotsOfSpec)

/-- 'laws.FnGainOf', WHERE WHAT IT READS IS OF BULK AT MOST 1048576: true; the input reads as it did. -/
def fnGainOfUptoRow : OpenClaim := { program := "ytkbojibgbmbmdaa", sum := "053a012b49649421e516422c92ff62bcebf56d8476df44fa3ac6a5b6865e0898", func := "loop.example/bonddesk/laws.FnGainOf", spec := "fnGainOf", unfollowed := true, recurses := true, apart := false, narrowed := true }
def FnGainOfUptoSaid : Prop := fnGainOfUptoRow.holds Try.pinned (OpenSpec.upto fnGainOfSpec)

/-- 'laws.FnGainOfFlat', WHERE WHAT IT READS IS OF BULK AT MOST 1048576: true; the input reads as it did. -/
def fnGainOfFlatUptoRow : OpenClaim := { program := "ytkbojibgbmbmdaa", sum := "053a012b49649421e516422c92ff62bcebf56d8476df44fa3ac6a5b6865e0898", func := "loop.example/bonddesk/laws.FnGainOfFlat", spec := "fnGainOfFlat", unfollowed := true, recurses := true, apart := false, narrowed := true }
def FnGainOfFlatUptoSaid : Prop := fnGainOfFlatUptoRow.holds Try.pinned (OpenSpec.upto fnGainOfFlatSpec)

/-- 'laws.FnLotsOfAgain', WHERE WHAT IT READS IS OF BULK AT MOST 1048576: true; the input reads as it did. -/
def fnLotsOfAgainUptoRow : OpenClaim := { program := "ytkbojibgbmbmdaa", sum := "053a012b49649421e516422c92ff62bcebf56d8476df44fa3ac6a5b6865e0898", func := "loop.example/bonddesk/laws.FnLotsOfAgain", spec := "fnLotsOfAgain", unfollowed := true, recurses := true, apart := false, narrowed := true }
def FnLotsOfAgainUptoSaid : Prop := fnLotsOfAgainUptoRow.holds Try.pinned (OpenSpec.upto fnLotsOfAgainSpec)

/-- 'laws.FnLotsOfClose', WHERE WHAT IT READS IS OF BULK AT MOST 1048576: true; the input reads as it did. -/
def fnLotsOfCloseUptoRow : OpenClaim := { program := "ytkbojibgbmbmdaa", sum := "053a012b49649421e516422c92ff62bcebf56d8476df44fa3ac6a5b6865e0898", func := "loop.example/bonddesk/laws.FnLotsOfClose", spec := "fnLotsOfClose", unfollowed := true, recurses := true, apart := false, narrowed := true }
def FnLotsOfCloseUptoSaid : Prop := fnLotsOfCloseUptoRow.holds Try.pinned (OpenSpec.upto fnLotsOfCloseSpec)

/-- 'laws.FnExactLotsOf', WHERE WHAT IT READS IS OF BULK AT MOST 1048576: true; the input reads as it did. -/
def fnExactLotsOfUptoRow : OpenClaim := { program := "ytkbojibgbmbmdaa", sum := "053a012b49649421e516422c92ff62bcebf56d8476df44fa3ac6a5b6865e0898", func := "loop.example/bonddesk/laws.FnExactLotsOf", spec := "fnExactLotsOf", unfollowed := true, recurses := true, apart := false, narrowed := true }
def FnExactLotsOfUptoSaid : Prop := fnExactLotsOfUptoRow.holds Try.pinned (OpenSpec.upto fnExactLotsOfSpec)

/-- 'laws.FnExactGainOf', WHERE WHAT IT READS IS OF BULK AT MOST 1048576: true; the input reads as it did. -/
def fnExactGainOfUptoRow : OpenClaim := { program := "ytkbojibgbmbmdaa", sum := "053a012b49649421e516422c92ff62bcebf56d8476df44fa3ac6a5b6865e0898", func := "loop.example/bonddesk/laws.FnExactGainOf", spec := "fnExactGainOf", unfollowed := true, recurses := true, apart := false, narrowed := true }
def FnExactGainOfUptoSaid : Prop := fnExactGainOfUptoRow.holds Try.pinned (OpenSpec.upto fnExactGainOfSpec)

/-- 'laws.FnExactValidTrades', WHERE WHAT IT READS IS OF BULK AT MOST 1048576: true; the input reads as it did. -/
def fnExactValidTradesUptoRow : OpenClaim := { program := "ytkbojibgbmbmdaa", sum := "053a012b49649421e516422c92ff62bcebf56d8476df44fa3ac6a5b6865e0898", func := "loop.example/bonddesk/laws.FnExactValidTrades", spec := "fnExactValidTrades", unfollowed := true, recurses := true, apart := false, narrowed := true }
def FnExactValidTradesUptoSaid : Prop := fnExactValidTradesUptoRow.holds Try.pinned (OpenSpec.upto fnExactValidTradesSpec)

/-- 'laws.FnExactPositionAt', WHERE WHAT IT READS IS OF BULK AT MOST 1048576: true; the input reads as it did. -/
def fnExactPositionAtUptoRow : OpenClaim := { program := "ytkbojibgbmbmdaa", sum := "053a012b49649421e516422c92ff62bcebf56d8476df44fa3ac6a5b6865e0898", func := "loop.example/bonddesk/laws.FnExactPositionAt", spec := "fnExactPositionAt", unfollowed := true, recurses := true, apart := false, narrowed := true }
def FnExactPositionAtUptoSaid : Prop := fnExactPositionAtUptoRow.holds Try.pinned (OpenSpec.upto fnExactPositionAtSpec)

end Rows
end Go.Proofs.Ytkbojibgbmbmdaa
