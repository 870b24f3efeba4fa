/-
  NARROWER THAN 'FOR EVERY INPUT', by the rows' own cells (each row's printed sentence says how): FnAddRange: ifaces, laid · FnMulRange: ifaces, laid · FnMulRangeInside: ifaces, laid · FnDivRange: ifaces, laid · FnPowRange: ifaces, laid · FnAddRangeThree: ifaces, laid · FnDivRangeOne: ifaces, laid · FnPowRangeSum: ifaces, laid · FnExactAddRange: ifaces, laid · FnExactMulRange: ifaces, laid · FnExactDivRange: ifaces, laid · FnExactPowRange: ifaces, laid.
  DERIVED. THE GIVEN ROWS OF THIS SEAT. 12 by the template 'for every input the law returns true; each argument reads behind the call as it read before'; 0 by the template 'total and deterministic' (their statements: YtcoljkafbpnpnaaDoorTotals.lean).
  GIVEN WITH THE SEED: the statements are not yours to turn. If you find one false, say at which input.
  Laid BY PROGRAM, IN A SANDBOX (cutbox-rows.mjs): the forced cells as the released guide's own fill.sh prints them over the translation ca07230b0b68ad7f… (all of the seat's roots in one cut). By AI agents, Wed Nov 11 2026. No macro, syntax, notation, axiom, sorry.
-/
import Derived.Test.YtcoljkafbpnpnaaDoorChecked
import GoSem.Claim
import GoSem.ClaimJoined
import GoSem.ClaimMapViews
import Derived.JoinedTies
import Derived.KernelRfl
namespace Go.Proofs.YtcoljkafbpnpnaaDoor
/- THE CELL 'sum', in the pinned program and in every row, IS THE sha256 OF THE DUMP (.gsa) THAT YtcoljkafbpnpnaaDoorProg.lean LOADS. Nothing in Lean hashes anything: it is a label: what it is worth is what the hold of that sum in a sandbox is worth. -/
noncomputable def Tryd.pinned : Pinned := { name := "ytcoljkafbpnpnaadoor", sum := "ca07230b0b68ad7f6c1a7b1aa5f012a5d1c81fd9230d7f1b54d2594614a780f8", checked := Tryd.checked }
namespace Rows
def none {H : Type} : Left H := { results := [], args := [] }

/- WHAT THE LISTED PACKAGE-LEVEL VARIABLES READ AS WHEN THE CALL BEGINS. Each datum BY PROGRAM (the guide's laid-datum.mjs) off the statement by which the dump's own 'gosem.cut.vars' lays the variable. In a bare row this is a premise. The card (YtcoljkafbpnpnaaDoorCards.lean) ties it to the program's text. -/
def laid_loop_example_bonddesk_impl_errRange {H : Type} : DataW H := .iface "*errors.errorString" (.ptr (.agg [.lit (.string [110, 111, 32, 118, 97, 108, 105, 100, 32, 114, 97, 110, 103, 101])]))

/-- 'laws.FnAddRange': WHATEVER THE INPUT: true; the input reads as it did. -/
def fnAddRangeSpec : ChangeSpec := { name := "fnAddRange", vars := ["loop.example/bonddesk/impl.errRange"], fn := fun _ => fun
  | [d, g1] => { results := [.lit (.bool true)], args := [d], vars := [g1] }
  | _ => none }
def fnAddRangeRow : OpenClaim := { program := "ytcoljkafbpnpnaadoor", sum := "ca07230b0b68ad7f6c1a7b1aa5f012a5d1c81fd9230d7f1b54d2594614a780f8", func := "loop.example/bonddesk/laws.FnAddRange", spec := "fnAddRange", inPlace := ["internal/reflectlite.TypeOf"], unfollowed := true, recurses := true, named := ["loop.example/bonddesk/impl.errRange"], ifaces := true, apart := false, laid := [("loop.example/bonddesk/impl.errRange", laid_loop_example_bonddesk_impl_errRange)] }
def FnAddRangeSaid : Prop := fnAddRangeRow.holds Tryd.pinned (OpenSpec.ofChange fnAddRangeSpec)

/-- ITS FALSE NEIGHBOUR: 'it returns false'. Refute it at one input. -/
def fnAddRangeWrong : ChangeSpec := { name := "fnAddRange", vars := ["loop.example/bonddesk/impl.errRange"], fn := fun _ => fun
  | [d, g1] => { results := [.lit (.bool false)], args := [d], vars := [g1] }
  | _ => none }
def FnAddRangeWrongFalsely : Prop := fnAddRangeRow.holds Tryd.pinned (OpenSpec.ofChange fnAddRangeWrong)

/-- 'laws.FnMulRange': WHATEVER THE INPUT: true; the input reads as it did. -/
def fnMulRangeSpec : ChangeSpec := { name := "fnMulRange", vars := ["loop.example/bonddesk/impl.errRange"], fn := fun _ => fun
  | [d, g1] => { results := [.lit (.bool true)], args := [d], vars := [g1] }
  | _ => none }
def fnMulRangeRow : OpenClaim := { program := "ytcoljkafbpnpnaadoor", sum := "ca07230b0b68ad7f6c1a7b1aa5f012a5d1c81fd9230d7f1b54d2594614a780f8", func := "loop.example/bonddesk/laws.FnMulRange", spec := "fnMulRange", inPlace := ["internal/reflectlite.TypeOf"], unfollowed := true, recurses := true, named := ["loop.example/bonddesk/impl.errRange"], ifaces := true, apart := false, laid := [("loop.example/bonddesk/impl.errRange", laid_loop_example_bonddesk_impl_errRange)] }
def FnMulRangeSaid : Prop := fnMulRangeRow.holds Tryd.pinned (OpenSpec.ofChange fnMulRangeSpec)

/-- ITS FALSE NEIGHBOUR: 'it returns false'. Refute it at one input. -/
def fnMulRangeWrong : ChangeSpec := { name := "fnMulRange", vars := ["loop.example/bonddesk/impl.errRange"], fn := fun _ => fun
  | [d, g1] => { results := [.lit (.bool false)], args := [d], vars := [g1] }
  | _ => none }
def FnMulRangeWrongFalsely : Prop := fnMulRangeRow.holds Tryd.pinned (OpenSpec.ofChange fnMulRangeWrong)

/-- 'laws.FnMulRangeInside': WHATEVER THE INPUT: true; the input reads as it did. -/
def fnMulRangeInsideSpec : ChangeSpec := { name := "fnMulRangeInside", vars := ["loop.example/bonddesk/impl.errRange"], fn := fun _ => fun
  | [d, g1] => { results := [.lit (.bool true)], args := [d], vars := [g1] }
  | _ => none }
def fnMulRangeInsideRow : OpenClaim := { program := "ytcoljkafbpnpnaadoor", sum := "ca07230b0b68ad7f6c1a7b1aa5f012a5d1c81fd9230d7f1b54d2594614a780f8", func := "loop.example/bonddesk/laws.FnMulRangeInside", spec := "fnMulRangeInside", inPlace := ["internal/reflectlite.TypeOf"], unfollowed := true, recurses := true, named := ["loop.example/bonddesk/impl.errRange"], ifaces := true, apart := false, laid := [("loop.example/bonddesk/impl.errRange", laid_loop_example_bonddesk_impl_errRange)] }
def FnMulRangeInsideSaid : Prop := fnMulRangeInsideRow.holds Tryd.pinned (OpenSpec.ofChange fnMulRangeInsideSpec)

/-- ITS FALSE NEIGHBOUR: 'it returns false'. Refute it at one input. -/
def fnMulRangeInsideWrong : ChangeSpec := { name := "fnMulRangeInside", vars := ["loop.example/bonddesk/impl.errRange"], fn := fun _ => fun
  | [d, g1] => { results := [.lit (.bool false)], args := [d], vars := [g1] }
  | _ => none }
def FnMulRangeInsideWrongFalsely : Prop := fnMulRangeInsideRow.holds Tryd.pinned (OpenSpec.ofChange fnMulRangeInsideWrong)

/-- 'laws.FnDivRange': WHATEVER THE INPUT: true; the input reads as it did. -/
def fnDivRangeSpec : ChangeSpec := { name := "fnDivRange", vars := ["loop.example/bonddesk/impl.errRange"], fn := fun _ => fun
  | [d, g1] => { results := [.lit (.bool true)], args := [d], vars := [g1] }
  | _ => none }
def fnDivRangeRow : OpenClaim := { program := "ytcoljkafbpnpnaadoor", sum := "ca07230b0b68ad7f6c1a7b1aa5f012a5d1c81fd9230d7f1b54d2594614a780f8", func := "loop.example/bonddesk/laws.FnDivRange", spec := "fnDivRange", inPlace := ["internal/reflectlite.TypeOf"], unfollowed := true, recurses := true, named := ["loop.example/bonddesk/impl.errRange"], ifaces := true, apart := false, laid := [("loop.example/bonddesk/impl.errRange", laid_loop_example_bonddesk_impl_errRange)] }
def FnDivRangeSaid : Prop := fnDivRangeRow.holds Tryd.pinned (OpenSpec.ofChange fnDivRangeSpec)

/-- ITS FALSE NEIGHBOUR: 'it returns false'. Refute it at one input. -/
def fnDivRangeWrong : ChangeSpec := { name := "fnDivRange", vars := ["loop.example/bonddesk/impl.errRange"], fn := fun _ => fun
  | [d, g1] => { results := [.lit (.bool false)], args := [d], vars := [g1] }
  | _ => none }
def FnDivRangeWrongFalsely : Prop := fnDivRangeRow.holds Tryd.pinned (OpenSpec.ofChange fnDivRangeWrong)

/-- 'laws.FnPowRange': WHATEVER THE INPUT: true; the input reads as it did. -/
def fnPowRangeSpec : ChangeSpec := { name := "fnPowRange", vars := ["loop.example/bonddesk/impl.errRange"], fn := fun _ => fun
  | [d, g1] => { results := [.lit (.bool true)], args := [d], vars := [g1] }
  | _ => none }
def fnPowRangeRow : OpenClaim := { program := "ytcoljkafbpnpnaadoor", sum := "ca07230b0b68ad7f6c1a7b1aa5f012a5d1c81fd9230d7f1b54d2594614a780f8", func := "loop.example/bonddesk/laws.FnPowRange", spec := "fnPowRange", inPlace := ["internal/reflectlite.TypeOf"], unfollowed := true, recurses := true, named := ["loop.example/bonddesk/impl.errRange"], ifaces := true, apart := false, laid := [("loop.example/bonddesk/impl.errRange", laid_loop_example_bonddesk_impl_errRange)] }
def FnPowRangeSaid : Prop := fnPowRangeRow.holds Tryd.pinned (OpenSpec.ofChange fnPowRangeSpec)

/-- ITS FALSE NEIGHBOUR: 'it returns false'. Refute it at one input. -/
def fnPowRangeWrong : ChangeSpec := { name := "fnPowRange", vars := ["loop.example/bonddesk/impl.errRange"], fn := fun _ => fun
  | [d, g1] => { results := [.lit (.bool false)], args := [d], vars := [g1] }
  | _ => none }
def FnPowRangeWrongFalsely : Prop := fnPowRangeRow.holds Tryd.pinned (OpenSpec.ofChange fnPowRangeWrong)

/-- 'laws.FnAddRangeThree': WHATEVER THE INPUT: true; the input reads as it did. -/
def fnAddRangeThreeSpec : ChangeSpec := { name := "fnAddRangeThree", vars := ["loop.example/bonddesk/impl.errRange"], fn := fun _ => fun
  | [d, g1] => { results := [.lit (.bool true)], args := [d], vars := [g1] }
  | _ => none }
def fnAddRangeThreeRow : OpenClaim := { program := "ytcoljkafbpnpnaadoor", sum := "ca07230b0b68ad7f6c1a7b1aa5f012a5d1c81fd9230d7f1b54d2594614a780f8", func := "loop.example/bonddesk/laws.FnAddRangeThree", spec := "fnAddRangeThree", inPlace := ["internal/reflectlite.TypeOf"], unfollowed := true, recurses := true, named := ["loop.example/bonddesk/impl.errRange"], ifaces := true, apart := false, laid := [("loop.example/bonddesk/impl.errRange", laid_loop_example_bonddesk_impl_errRange)] }
def FnAddRangeThreeSaid : Prop := fnAddRangeThreeRow.holds Tryd.pinned (OpenSpec.ofChange fnAddRangeThreeSpec)

/-- ITS FALSE NEIGHBOUR: 'it returns false'. Refute it at one input. -/
def fnAddRangeThreeWrong : ChangeSpec := { name := "fnAddRangeThree", vars := ["loop.example/bonddesk/impl.errRange"], fn := fun _ => fun
  | [d, g1] => { results := [.lit (.bool false)], args := [d], vars := [g1] }
  | _ => none }
def FnAddRangeThreeWrongFalsely : Prop := fnAddRangeThreeRow.holds Tryd.pinned (OpenSpec.ofChange fnAddRangeThreeWrong)

/-- 'laws.FnDivRangeOne': WHATEVER THE INPUT: true; the input reads as it did. -/
def fnDivRangeOneSpec : ChangeSpec := { name := "fnDivRangeOne", vars := ["loop.example/bonddesk/impl.errRange"], fn := fun _ => fun
  | [d, g1] => { results := [.lit (.bool true)], args := [d], vars := [g1] }
  | _ => none }
def fnDivRangeOneRow : OpenClaim := { program := "ytcoljkafbpnpnaadoor", sum := "ca07230b0b68ad7f6c1a7b1aa5f012a5d1c81fd9230d7f1b54d2594614a780f8", func := "loop.example/bonddesk/laws.FnDivRangeOne", spec := "fnDivRangeOne", inPlace := ["internal/reflectlite.TypeOf"], unfollowed := true, recurses := true, named := ["loop.example/bonddesk/impl.errRange"], ifaces := true, apart := false, laid := [("loop.example/bonddesk/impl.errRange", laid_loop_example_bonddesk_impl_errRange)] }
def FnDivRangeOneSaid : Prop := fnDivRangeOneRow.holds Tryd.pinned (OpenSpec.ofChange fnDivRangeOneSpec)

/-- ITS FALSE NEIGHBOUR: 'it returns false'. Refute it at one input. -/
def fnDivRangeOneWrong : ChangeSpec := { name := "fnDivRangeOne", vars := ["loop.example/bonddesk/impl.errRange"], fn := fun _ => fun
  | [d, g1] => { results := [.lit (.bool false)], args := [d], vars := [g1] }
  | _ => none }
def FnDivRangeOneWrongFalsely : Prop := fnDivRangeOneRow.holds Tryd.pinned (OpenSpec.ofChange fnDivRangeOneWrong)

/-- 'laws.FnPowRangeSum': WHATEVER THE INPUT: true; the input reads as it did. -/
def fnPowRangeSumSpec : ChangeSpec := { name := "fnPowRangeSum", vars := ["loop.example/bonddesk/impl.errRange"], fn := fun _ => fun
  | [d, g1] => { results := [.lit (.bool true)], args := [d], vars := [g1] }
  | _ => none }
def fnPowRangeSumRow : OpenClaim := { program := "ytcoljkafbpnpnaadoor", sum := "ca07230b0b68ad7f6c1a7b1aa5f012a5d1c81fd9230d7f1b54d2594614a780f8", func := "loop.example/bonddesk/laws.FnPowRangeSum", spec := "fnPowRangeSum", inPlace := ["internal/reflectlite.TypeOf"], unfollowed := true, recurses := true, named := ["loop.example/bonddesk/impl.errRange"], ifaces := true, apart := false, laid := [("loop.example/bonddesk/impl.errRange", laid_loop_example_bonddesk_impl_errRange)] }
def FnPowRangeSumSaid : Prop := fnPowRangeSumRow.holds Tryd.pinned (OpenSpec.ofChange fnPowRangeSumSpec)

/-- ITS FALSE NEIGHBOUR: 'it returns false'. Refute it at one input. -/
def fnPowRangeSumWrong : ChangeSpec := { name := "fnPowRangeSum", vars := ["loop.example/bonddesk/impl.errRange"], fn := fun _ => fun
  | [d, g1] => { results := [.lit (.bool false)], args := [d], vars := [g1] }
  | _ => none }
def FnPowRangeSumWrongFalsely : Prop := fnPowRangeSumRow.holds Tryd.pinned (OpenSpec.ofChange fnPowRangeSumWrong)

/-- 'laws.FnExactAddRange': WHATEVER THE INPUT: true; the input reads as it did. -/
def fnExactAddRangeSpec : ChangeSpec := { name := "fnExactAddRange", vars := ["loop.example/bonddesk/impl.errRange"], fn := fun _ => fun
  | [d1, d2, g1] => { results := [.lit (.bool true)], args := [d1, d2], vars := [g1] }
  | _ => none }
def fnExactAddRangeRow : OpenClaim := { program := "ytcoljkafbpnpnaadoor", sum := "ca07230b0b68ad7f6c1a7b1aa5f012a5d1c81fd9230d7f1b54d2594614a780f8", func := "loop.example/bonddesk/laws.FnExactAddRange", spec := "fnExactAddRange", inPlace := ["internal/reflectlite.TypeOf"], unfollowed := true, recurses := true, named := ["loop.example/bonddesk/impl.errRange"], ifaces := true, apart := false, laid := [("loop.example/bonddesk/impl.errRange", laid_loop_example_bonddesk_impl_errRange)] }
def FnExactAddRangeSaid : Prop := fnExactAddRangeRow.holds Tryd.pinned (OpenSpec.ofChange fnExactAddRangeSpec)

/-- ITS FALSE NEIGHBOUR: 'it returns false'. Refute it at one input. -/
def fnExactAddRangeWrong : ChangeSpec := { name := "fnExactAddRange", vars := ["loop.example/bonddesk/impl.errRange"], fn := fun _ => fun
  | [d1, d2, g1] => { results := [.lit (.bool false)], args := [d1, d2], vars := [g1] }
  | _ => none }
def FnExactAddRangeWrongFalsely : Prop := fnExactAddRangeRow.holds Tryd.pinned (OpenSpec.ofChange fnExactAddRangeWrong)

/-- 'laws.FnExactMulRange': WHATEVER THE INPUT: true; the input reads as it did. -/
def fnExactMulRangeSpec : ChangeSpec := { name := "fnExactMulRange", vars := ["loop.example/bonddesk/impl.errRange"], fn := fun _ => fun
  | [d1, d2, g1] => { results := [.lit (.bool true)], args := [d1, d2], vars := [g1] }
  | _ => none }
def fnExactMulRangeRow : OpenClaim := { program := "ytcoljkafbpnpnaadoor", sum := "ca07230b0b68ad7f6c1a7b1aa5f012a5d1c81fd9230d7f1b54d2594614a780f8", func := "loop.example/bonddesk/laws.FnExactMulRange", spec := "fnExactMulRange", inPlace := ["internal/reflectlite.TypeOf"], unfollowed := true, recurses := true, named := ["loop.example/bonddesk/impl.errRange"], ifaces := true, apart := false, laid := [("loop.example/bonddesk/impl.errRange", laid_loop_example_bonddesk_impl_errRange)] }
def FnExactMulRangeSaid : Prop := fnExactMulRangeRow.holds Tryd.pinned (OpenSpec.ofChange fnExactMulRangeSpec)

/-- ITS FALSE NEIGHBOUR: 'it returns false'. Refute it at one input. -/
def fnExactMulRangeWrong : ChangeSpec := { name := "fnExactMulRange", vars := ["loop.example/bonddesk/impl.errRange"], fn := fun _ => fun
  | [d1, d2, g1] => { results := [.lit (.bool false)], args := [d1, d2], vars := [g1] }
  | _ => none }
def FnExactMulRangeWrongFalsely : Prop := fnExactMulRangeRow.holds Tryd.pinned (OpenSpec.ofChange fnExactMulRangeWrong)

/-- 'laws.FnExactDivRange': WHATEVER THE INPUT: true; the input reads as it did. -/
def fnExactDivRangeSpec : ChangeSpec := { name := "fnExactDivRange", vars := ["loop.example/bonddesk/impl.errRange"], fn := fun _ => fun
  | [d1, d2, g1] => { results := [.lit (.bool true)], args := [d1, d2], vars := [g1] }
  | _ => none }
def fnExactDivRangeRow : OpenClaim := { program := "ytcoljkafbpnpnaadoor", sum := "ca07230b0b68ad7f6c1a7b1aa5f012a5d1c81fd9230d7f1b54d2594614a780f8", func := "loop.example/bonddesk/laws.FnExactDivRange", spec := "fnExactDivRange", inPlace := ["internal/reflectlite.TypeOf"], unfollowed := true, recurses := true, named := ["loop.example/bonddesk/impl.errRange"], ifaces := true, apart := false, laid := [("loop.example/bonddesk/impl.errRange", laid_loop_example_bonddesk_impl_errRange)] }
def FnExactDivRangeSaid : Prop := fnExactDivRangeRow.holds Tryd.pinned (OpenSpec.ofChange fnExactDivRangeSpec)

/-- ITS FALSE NEIGHBOUR: 'it returns false'. Refute it at one input. -/
def fnExactDivRangeWrong : ChangeSpec := { name := "fnExactDivRange", vars := ["loop.example/bonddesk/impl.errRange"], fn := fun _ => fun
  | [d1, d2, g1] => { results := [.lit (.bool false)], args := [d1, d2], vars := [g1] }
  | _ => none }
def FnExactDivRangeWrongFalsely : Prop := fnExactDivRangeRow.holds Tryd.pinned (OpenSpec.ofChange fnExactDivRangeWrong)

/-- 'laws.FnExactPowRange': WHATEVER THE INPUT: true; the input reads as it did. -/
def fnExactPowRangeSpec : ChangeSpec := { name := "fnExactPowRange", vars := ["loop.example/bonddesk/impl.errRange"], fn := fun _ => fun
  | [d1, d2, g1] => { results := [.lit (.bool true)], args := [d1, d2], vars := [g1] }
  | _ => none }
def fnExactPowRangeRow : OpenClaim := { program := "ytcoljkafbpnpnaadoor", sum := "ca07230b0b68ad7f6c1a7b1aa5f012a5d1c81fd9230d7f1b54d2594614a780f8", func := "loop.example/bonddesk/laws.FnExactPowRange", spec := "fnExactPowRange", inPlace := ["internal/reflectlite.TypeOf"], unfollowed := true, recurses := true, named := ["loop.example/bonddesk/impl.errRange"], ifaces := true, apart := false, laid := [("loop.example/bonddesk/impl.errRange", laid_loop_example_bonddesk_impl_errRange)] }
def FnExactPowRangeSaid : Prop := fnExactPowRangeRow.holds Tryd.pinned (OpenSpec.ofChange fnExactPowRangeSpec)

/-- ITS FALSE NEIGHBOUR: 'it returns false'. Refute it at one input. -/
def fnExactPowRangeWrong : ChangeSpec := { name := "fnExactPowRange", vars := ["loop.example/bonddesk/impl.errRange"], fn := fun _ => fun
  | [d1, d2, g1] => { results := [.lit (.bool false)], args := [d1, d2], vars := [g1] }
  | _ => none }
def FnExactPowRangeWrongFalsely : Prop := fnExactPowRangeRow.holds Tryd.pinned (OpenSpec.ofChange fnExactPowRangeWrong)

/- THE SECOND FORM. 'bulk': how many values and letters a reading holds, each counted each time it is reached (what is shared counts as often as it is met; a slice's spare places count too). A statement '..UptoSaid' is the law's where the arguments, and the package variables that the reading takes, are together of bulk at most 1048576: NARROWER than '..Said'. Prove '..Said' where nothing that the law and all that it calls make is longer than what came in: it says more and counts as full. Else prove '..UptoSaid'. A law counts once. -/
mutual
def uptoBulk {H : Type} : DataW H → Nat
  | .lit (.string bytes) => bytes.length + 1
  | .lit _ => 1
  | .nil => 1
  | .ptr d => uptoBulk d + 1
  | .slice elems spare => uptoBulkAll elems + uptoBulkAll spare + 1
  | .agg parts => uptoBulkAll parts + 1
  | .iface _ d => uptoBulk d + 1
  | .map entries => uptoBulkEntries entries + 1
  | .held _ => 1
def uptoBulkAll {H : Type} : List (DataW H) → Nat
  | [] => 0
  | d :: r => uptoBulk d + uptoBulkAll r
def uptoBulkEntries {H : Type} : List (Lit × DataW H) → Nat
  | [] => 0
  | x :: r => uptoBulkEntry x + uptoBulkEntries r
def uptoBulkEntry {H : Type} : Lit × DataW H → Nat
  | (.string bytes, d) => bytes.length + uptoBulk d + 1
  | (_, d) => uptoBulk d + 1
 end
def uptoSmall : (H : Type) → List (DataW H) → Bool := fun _ ds => decide (uptoBulkAll ds ≤ 1048576)
def OpenSpec.upto (s : _root_.Go.ChangeSpec) : _root_.Go.OpenSpec := { _root_.Go.OpenSpec.ofChange s with cond := some uptoSmall }

/-- 'laws.FnAddRange', WHERE WHAT IT READS IS OF BULK AT MOST 1048576: true; the input reads as it did. -/
def fnAddRangeUptoRow : OpenClaim := { program := "ytcoljkafbpnpnaadoor", sum := "ca07230b0b68ad7f6c1a7b1aa5f012a5d1c81fd9230d7f1b54d2594614a780f8", func := "loop.example/bonddesk/laws.FnAddRange", spec := "fnAddRange", inPlace := ["internal/reflectlite.TypeOf"], unfollowed := true, recurses := true, named := ["loop.example/bonddesk/impl.errRange"], ifaces := true, apart := false, laid := [("loop.example/bonddesk/impl.errRange", laid_loop_example_bonddesk_impl_errRange)], narrowed := true }
def FnAddRangeUptoSaid : Prop := fnAddRangeUptoRow.holds Tryd.pinned (OpenSpec.upto fnAddRangeSpec)

/-- 'laws.FnMulRange', WHERE WHAT IT READS IS OF BULK AT MOST 1048576: true; the input reads as it did. -/
def fnMulRangeUptoRow : OpenClaim := { program := "ytcoljkafbpnpnaadoor", sum := "ca07230b0b68ad7f6c1a7b1aa5f012a5d1c81fd9230d7f1b54d2594614a780f8", func := "loop.example/bonddesk/laws.FnMulRange", spec := "fnMulRange", inPlace := ["internal/reflectlite.TypeOf"], unfollowed := true, recurses := true, named := ["loop.example/bonddesk/impl.errRange"], ifaces := true, apart := false, laid := [("loop.example/bonddesk/impl.errRange", laid_loop_example_bonddesk_impl_errRange)], narrowed := true }
def FnMulRangeUptoSaid : Prop := fnMulRangeUptoRow.holds Tryd.pinned (OpenSpec.upto fnMulRangeSpec)

/-- 'laws.FnMulRangeInside', WHERE WHAT IT READS IS OF BULK AT MOST 1048576: true; the input reads as it did. -/
def fnMulRangeInsideUptoRow : OpenClaim := { program := "ytcoljkafbpnpnaadoor", sum := "ca07230b0b68ad7f6c1a7b1aa5f012a5d1c81fd9230d7f1b54d2594614a780f8", func := "loop.example/bonddesk/laws.FnMulRangeInside", spec := "fnMulRangeInside", inPlace := ["internal/reflectlite.TypeOf"], unfollowed := true, recurses := true, named := ["loop.example/bonddesk/impl.errRange"], ifaces := true, apart := false, laid := [("loop.example/bonddesk/impl.errRange", laid_loop_example_bonddesk_impl_errRange)], narrowed := true }
def FnMulRangeInsideUptoSaid : Prop := fnMulRangeInsideUptoRow.holds Tryd.pinned (OpenSpec.upto fnMulRangeInsideSpec)

/-- 'laws.FnDivRange', WHERE WHAT IT READS IS OF BULK AT MOST 1048576: true; the input reads as it did. -/
def fnDivRangeUptoRow : OpenClaim := { program := "ytcoljkafbpnpnaadoor", sum := "ca07230b0b68ad7f6c1a7b1aa5f012a5d1c81fd9230d7f1b54d2594614a780f8", func := "loop.example/bonddesk/laws.FnDivRange", spec := "fnDivRange", inPlace := ["internal/reflectlite.TypeOf"], unfollowed := true, recurses := true, named := ["loop.example/bonddesk/impl.errRange"], ifaces := true, apart := false, laid := [("loop.example/bonddesk/impl.errRange", laid_loop_example_bonddesk_impl_errRange)], narrowed := true }
def FnDivRangeUptoSaid : Prop := fnDivRangeUptoRow.holds Tryd.pinned (OpenSpec.upto fnDivRangeSpec)

/-- 'laws.FnPowRange', WHERE WHAT IT READS IS OF BULK AT MOST 1048576: true; the input reads as it did. -/
def fnPowRangeUptoRow : OpenClaim := { program := "ytcoljkafbpnpnaadoor", sum := "ca07230b0b68ad7f6c1a7b1aa5f012a5d1c81fd9230d7f1b54d2594614a780f8", func := "loop.example/bonddesk/laws.FnPowRange", spec := "fnPowRange", inPlace := ["internal/reflectlite.TypeOf"], unfollowed := true, recurses := true, named := ["loop.example/bonddesk/impl.errRange"], ifaces := true, apart := false, laid := [("loop.example/bonddesk/impl.errRange", laid_loop_example_bonddesk_impl_errRange)], narrowed := true }
def FnPowRangeUptoSaid : Prop := fnPowRangeUptoRow.holds Tryd.pinned (OpenSpec.upto fnPowRangeSpec)

/-- 'laws.FnAddRangeThree', WHERE WHAT IT READS IS OF BULK AT MOST 1048576: true; the input reads as it did. -/
def fnAddRangeThreeUptoRow : OpenClaim := { program := "ytcoljkafbpnpnaadoor", sum := "ca07230b0b68ad7f6c1a7b1aa5f012a5d1c81fd9230d7f1b54d2594614a780f8", func := "loop.example/bonddesk/laws.FnAddRangeThree", spec := "fnAddRangeThree", inPlace := ["internal/reflectlite.TypeOf"], unfollowed := true, recurses := true, named := ["loop.example/bonddesk/impl.errRange"], ifaces := true, apart := false, laid := [("loop.example/bonddesk/impl.errRange", laid_loop_example_bonddesk_impl_errRange)], narrowed := true }
def FnAddRangeThreeUptoSaid : Prop := fnAddRangeThreeUptoRow.holds Tryd.pinned (OpenSpec.upto fnAddRangeThreeSpec)

/-- 'laws.FnDivRangeOne', WHERE WHAT IT READS IS OF BULK AT MOST 1048576: true; the input reads as it did. -/
def fnDivRangeOneUptoRow : OpenClaim := { program := "ytcoljkafbpnpnaadoor", sum := "ca07230b0b68ad7f6c1a7b1aa5f012a5d1c81fd9230d7f1b54d2594614a780f8", func := "loop.example/bonddesk/laws.FnDivRangeOne", spec := "fnDivRangeOne", inPlace := ["internal/reflectlite.TypeOf"], unfollowed := true, recurses := true, named := ["loop.example/bonddesk/impl.errRange"], ifaces := true, apart := false, laid := [("loop.example/bonddesk/impl.errRange", laid_loop_example_bonddesk_impl_errRange)], narrowed := true }
def FnDivRangeOneUptoSaid : Prop := fnDivRangeOneUptoRow.holds Tryd.pinned (OpenSpec.upto fnDivRangeOneSpec)

/-- 'laws.FnPowRangeSum', WHERE WHAT IT READS IS OF BULK AT MOST 1048576: true; the input reads as it did. -/
def fnPowRangeSumUptoRow : OpenClaim := { program := "ytcoljkafbpnpnaadoor", sum := "ca07230b0b68ad7f6c1a7b1aa5f012a5d1c81fd9230d7f1b54d2594614a780f8", func := "loop.example/bonddesk/laws.FnPowRangeSum", spec := "fnPowRangeSum", inPlace := ["internal/reflectlite.TypeOf"], unfollowed := true, recurses := true, named := ["loop.example/bonddesk/impl.errRange"], ifaces := true, apart := false, laid := [("loop.example/bonddesk/impl.errRange", laid_loop_example_bonddesk_impl_errRange)], narrowed := true }
def FnPowRangeSumUptoSaid : Prop := fnPowRangeSumUptoRow.holds Tryd.pinned (OpenSpec.upto fnPowRangeSumSpec)

/-- 'laws.FnExactAddRange', WHERE WHAT IT READS IS OF BULK AT MOST 1048576: true; the input reads as it did. -/
def fnExactAddRangeUptoRow : OpenClaim := { program := "ytcoljkafbpnpnaadoor", sum := "ca07230b0b68ad7f6c1a7b1aa5f012a5d1c81fd9230d7f1b54d2594614a780f8", func := "loop.example/bonddesk/laws.FnExactAddRange", spec := "fnExactAddRange", inPlace := ["internal/reflectlite.TypeOf"], unfollowed := true, recurses := true, named := ["loop.example/bonddesk/impl.errRange"], ifaces := true, apart := false, laid := [("loop.example/bonddesk/impl.errRange", laid_loop_example_bonddesk_impl_errRange)], narrowed := true }
def FnExactAddRangeUptoSaid : Prop := fnExactAddRangeUptoRow.holds Tryd.pinned (OpenSpec.upto fnExactAddRangeSpec)

/-- 'laws.FnExactMulRange', WHERE WHAT IT READS IS OF BULK AT MOST 1048576: true; the input reads as it did. -/
def fnExactMulRangeUptoRow : OpenClaim := { program := "ytcoljkafbpnpnaadoor", sum := "ca07230b0b68ad7f6c1a7b1aa5f012a5d1c81fd9230d7f1b54d2594614a780f8", func := "loop.example/bonddesk/laws.FnExactMulRange", spec := "fnExactMulRange", inPlace := ["internal/reflectlite.TypeOf"], unfollowed := true, recurses := true, named := ["loop.example/bonddesk/impl.errRange"], ifaces := true, apart := false, laid := [("loop.example/bonddesk/impl.errRange", laid_loop_example_bonddesk_impl_errRange)], narrowed := true }
def FnExactMulRangeUptoSaid : Prop := fnExactMulRangeUptoRow.holds Tryd.pinned (OpenSpec.upto fnExactMulRangeSpec)

/-- 'laws.FnExactDivRange', WHERE WHAT IT READS IS OF BULK AT MOST 1048576: true; the input reads as it did. -/
def fnExactDivRangeUptoRow : OpenClaim := { program := "ytcoljkafbpnpnaadoor", sum := "ca07230b0b68ad7f6c1a7b1aa5f012a5d1c81fd9230d7f1b54d2594614a780f8", func := "loop.example/bonddesk/laws.FnExactDivRange", spec := "fnExactDivRange", inPlace := ["internal/reflectlite.TypeOf"], unfollowed := true, recurses := true, named := ["loop.example/bonddesk/impl.errRange"], ifaces := true, apart := false, laid := [("loop.example/bonddesk/impl.errRange", laid_loop_example_bonddesk_impl_errRange)], narrowed := true }
def FnExactDivRangeUptoSaid : Prop := fnExactDivRangeUptoRow.holds Tryd.pinned (OpenSpec.upto fnExactDivRangeSpec)

/-- 'laws.FnExactPowRange', WHERE WHAT IT READS IS OF BULK AT MOST 1048576: true; the input reads as it did. -/
def fnExactPowRangeUptoRow : OpenClaim := { program := "ytcoljkafbpnpnaadoor", sum := "ca07230b0b68ad7f6c1a7b1aa5f012a5d1c81fd9230d7f1b54d2594614a780f8", func := "loop.example/bonddesk/laws.FnExactPowRange", spec := "fnExactPowRange", inPlace := ["internal/reflectlite.TypeOf"], unfollowed := true, recurses := true, named := ["loop.example/bonddesk/impl.errRange"], ifaces := true, apart := false, laid := [("loop.example/bonddesk/impl.errRange", laid_loop_example_bonddesk_impl_errRange)], narrowed := true }
def FnExactPowRangeUptoSaid : Prop := fnExactPowRangeUptoRow.holds Tryd.pinned (OpenSpec.upto fnExactPowRangeSpec)

end Rows
end Go.Proofs.YtcoljkafbpnpnaaDoor
