/-
  NARROWER THAN 'FOR EVERY INPUT', by the rows' own cells (each row's printed sentence says how): FnDivRange: ifaces, laid · FnDivRangeOne: ifaces, laid · FnExactDivRange: ifaces, laid.
  DERIVED. THE GIVEN ROWS OF THIS SEAT. 3 by the template 'for every input the law returns true; each argument reads behind the call as it read before'; 0 by the template 'total and deterministic' (their statements: YtdmamojidefdaaaDoorTotals.lean).
  GIVEN WITH THE SEED: the statements are not yours to turn. If you find one false, say at which input.
  Laid BY PROGRAM, IN A SANDBOX (cutbox-rows.mjs): the forced cells as the released guide's own fill.sh prints them over the translation 3999ae7820dda1fd… (all of the seat's roots in one cut). By AI agents, Wed Nov 11 2026. No macro, syntax, notation, axiom, sorry.
-/
import Derived.Test.YtdmamojidefdaaaDoorChecked
import GoSem.Claim
import GoSem.ClaimJoined
import GoSem.ClaimMapViews
import Derived.JoinedTies
import Derived.KernelRfl
namespace Go.Proofs.YtdmamojidefdaaaDoor
/- THE CELL 'sum', in the pinned program and in every row, IS THE sha256 OF THE DUMP (.gsa) THAT YtdmamojidefdaaaDoorProg.lean LOADS. Nothing in Lean hashes anything: it is a label: what it is worth is what the hold of that sum in a sandbox is worth. -/
noncomputable def Tryd.pinned : Pinned := { name := "ytdmamojidefdaaadoor", sum := "3999ae7820dda1fd4410fec51123145be6e03bd77c5237f427e060f0d2811dd9", checked := Tryd.checked }
namespace Rows
def none {H : Type} : Left H := { results := [], args := [] }

/- WHAT THE LISTED PACKAGE-LEVEL VARIABLES READ AS WHEN THE CALL BEGINS. Each datum BY PROGRAM (the guide's laid-datum.mjs) off the statement by which the dump's own 'gosem.cut.vars' lays the variable. In a bare row this is a premise. The card (YtdmamojidefdaaaDoorCards.lean) ties it to the program's text. -/
def laid_loop_example_bonddesk_impl_errRange {H : Type} : DataW H := .iface "*errors.errorString" (.ptr (.agg [.lit (.string [110, 111, 32, 118, 97, 108, 105, 100, 32, 114, 97, 110, 103, 101])]))

/-- 'laws.FnDivRange': WHATEVER THE INPUT: true; the input reads as it did. -/
def fnDivRangeSpec : ChangeSpec := { name := "fnDivRange", vars := ["loop.example/bonddesk/impl.errRange"], fn := fun _ => fun
  | [d, g1] => { results := [.lit (.bool true)], args := [d], vars := [g1] }
  | _ => none }
def fnDivRangeRow : OpenClaim := { program := "ytdmamojidefdaaadoor", sum := "3999ae7820dda1fd4410fec51123145be6e03bd77c5237f427e060f0d2811dd9", func := "loop.example/bonddesk/laws.FnDivRange", spec := "fnDivRange", inPlace := ["internal/reflectlite.TypeOf"], unfollowed := true, recurses := true, named := ["loop.example/bonddesk/impl.errRange"], ifaces := true, apart := false, laid := [("loop.example/bonddesk/impl.errRange", laid_loop_example_bonddesk_impl_errRange)] }
def FnDivRangeSaid : Prop := fnDivRangeRow.holds Tryd.pinned (OpenSpec.ofChange fnDivRangeSpec)

/-- ITS FALSE NEIGHBOUR: 'it returns false'. Refute it at one input. -/
def fnDivRangeWrong : ChangeSpec := { name := "fnDivRange", vars := ["loop.example/bonddesk/impl.errRange"], fn := fun _ => fun
  | [d, g1] => { results := [.lit (.bool false)], args := [d], vars := [g1] }
  | _ => none }
def FnDivRangeWrongFalsely : Prop := fnDivRangeRow.holds Tryd.pinned (OpenSpec.ofChange fnDivRangeWrong)

/-- 'laws.FnDivRangeOne': WHATEVER THE INPUT: true; the input reads as it did. -/
def fnDivRangeOneSpec : ChangeSpec := { name := "fnDivRangeOne", vars := ["loop.example/bonddesk/impl.errRange"], fn := fun _ => fun
  | [d, g1] => { results := [.lit (.bool true)], args := [d], vars := [g1] }
  | _ => none }
def fnDivRangeOneRow : OpenClaim := { program := "ytdmamojidefdaaadoor", sum := "3999ae7820dda1fd4410fec51123145be6e03bd77c5237f427e060f0d2811dd9", func := "loop.example/bonddesk/laws.FnDivRangeOne", spec := "fnDivRangeOne", inPlace := ["internal/reflectlite.TypeOf"], unfollowed := true, recurses := true, named := ["loop.example/bonddesk/impl.errRange"], ifaces := true, apart := false, laid := [("loop.example/bonddesk/impl.errRange", laid_loop_example_bonddesk_impl_errRange)] }
def FnDivRangeOneSaid : Prop := fnDivRangeOneRow.holds Tryd.pinned (OpenSpec.ofChange fnDivRangeOneSpec)

/-- ITS FALSE NEIGHBOUR: 'it returns false'. Refute it at one input. -/
def fnDivRangeOneWrong : ChangeSpec := { name := "fnDivRangeOne", vars := ["loop.example/bonddesk/impl.errRange"], fn := fun _ => fun
  | [d, g1] => { results := [.lit (.bool false)], args := [d], vars := [g1] }
  | _ => none }
def FnDivRangeOneWrongFalsely : Prop := fnDivRangeOneRow.holds Tryd.pinned (OpenSpec.ofChange fnDivRangeOneWrong)

/-- 'laws.FnExactDivRange': WHATEVER THE INPUT: true; the input reads as it did. -/
def fnExactDivRangeSpec : ChangeSpec := { name := "fnExactDivRange", vars := ["loop.example/bonddesk/impl.errRange"], fn := fun _ => fun
  | [d1, d2, g1] => { results := [.lit (.bool true)], args := [d1, d2], vars := [g1] }
  | _ => none }
def fnExactDivRangeRow : OpenClaim := { program := "ytdmamojidefdaaadoor", sum := "3999ae7820dda1fd4410fec51123145be6e03bd77c5237f427e060f0d2811dd9", func := "loop.example/bonddesk/laws.FnExactDivRange", spec := "fnExactDivRange", inPlace := ["internal/reflectlite.TypeOf"], unfollowed := true, recurses := true, named := ["loop.example/bonddesk/impl.errRange"], ifaces := true, apart := false, laid := [("loop.example/bonddesk/impl.errRange", laid_loop_example_bonddesk_impl_errRange)] }
def FnExactDivRangeSaid : Prop := fnExactDivRangeRow.holds Tryd.pinned (OpenSpec.ofChange fnExactDivRangeSpec)

/-- ITS FALSE NEIGHBOUR: 'it returns false'. Refute it at one input. -/
def fnExactDivRangeWrong : ChangeSpec := { name := "fnExactDivRange", vars := ["loop.example/bonddesk/impl.errRange"], fn := fun _ => fun
  | [d1, d2, g1] => { results := [.lit (.bool false)], args := [d1, d2], vars := [g1] }
  | _ => none }
def FnExactDivRangeWrongFalsely : Prop := fnExactDivRangeRow.holds Tryd.pinned (OpenSpec.ofChange fnExactDivRangeWrong)

/- THE SECOND FORM. 'bulk': how many values and letters a reading holds, each counted each time it is reached (what is shared counts as often as it is met; a slice's spare places count too). A statement '..UptoSaid' is the law's where the arguments, and the package variables that the reading takes, are together of bulk at most 1048576: NARROWER than '..Said'. Prove '..Said' where nothing that the law and all that it calls make is longer than what came in: it says more and counts as full. Else prove '..UptoSaid'. A law counts once. -/
mutual
def uptoBulk {H : Type} : DataW H → Nat
  | .lit (.string bytes) => bytes.length + 1
  | .lit _ => 1
  | .nil => 1
  | .ptr d => uptoBulk d + 1
  | .slice elems spare => uptoBulkAll elems + uptoBulkAll spare + 1
  | .agg parts => uptoBulkAll parts + 1
  | .iface _ d => uptoBulk d + 1
  | .map entries => uptoBulkEntries entries + 1
  | .held _ => 1
def uptoBulkAll {H : Type} : List (DataW H) → Nat
  | [] => 0
  | d :: r => uptoBulk d + uptoBulkAll r
def uptoBulkEntries {H : Type} : List (Lit × DataW H) → Nat
  | [] => 0
  | x :: r => uptoBulkEntry x + uptoBulkEntries r
def uptoBulkEntry {H : Type} : Lit × DataW H → Nat
  | (.string bytes, d) => bytes.length + uptoBulk d + 1
  | (_, d) => uptoBulk d + 1
 end
def uptoSmall : (H : Type) → List (DataW H) → Bool := fun _ ds => decide (uptoBulkAll ds ≤ 1048576)
def OpenSpec.upto (s : _root_.Go.ChangeSpec) : _root_.Go.OpenSpec := { _root_.Go.OpenSpec.ofChange s with cond := some uptoSmall }

/-- 'laws.FnDivRange', WHERE WHAT IT READS IS OF BULK AT MOST 1048576: true; the input reads as it did. -/
def fnDivRangeUptoRow : OpenClaim := { program := "ytdmamojidefdaaadoor", sum := "3999ae7820dda1fd4410fec51123145be6e03bd77c5237f427e060f0d2811dd9", func := "loop.example/bonddesk/laws.FnDivRange", spec := "fnDivRange", inPlace := ["internal/reflectlite.TypeOf"], unfollowed := true, recurses := true, named := ["loop.example/bonddesk/impl.errRange"], ifaces := true, apart := false, laid := [("loop.example/bonddesk/impl.errRange", laid_loop_example_bonddesk_impl_errRange)], narrowed := true }
def FnDivRangeUptoSaid : Prop := fnDivRangeUptoRow.holds Tryd.pinned (OpenSpec.upto fnDivRangeSpec)

/-- 'laws.FnDivRangeOne', WHERE WHAT IT READS IS OF BULK AT MOST 1048576: true; the input reads as it did. -/
def fnDivRangeOneUptoRow : OpenClaim := { program := "ytdmamojidefdaaadoor", sum := "3999ae7820dda1fd4410fec51123145be6e03bd77c5237f427e060f0d2811dd9", func := "loop.example/bonddesk/laws.FnDivRangeOne", spec := "fnDivRangeOne", inPlace := ["internal/reflectlite.TypeOf"], unfollowed := true, recurses := true, named := ["loop.example/bonddesk/impl.errRange"], ifaces := true, apart := false, laid := [("loop.example/bonddesk/impl.errRange", laid_loop_example_bonddesk_impl_errRange)], narrowed := true }
def FnDivRangeOneUptoSaid : Prop := fnDivRangeOneUptoRow.holds Tryd.pinned (OpenSpec.upto fnDivRangeOneSpec)

/-- 'laws.FnExactDivRange', WHERE WHAT IT READS IS OF BULK AT MOST 1048576: true; the input reads as it did. -/
def fnExactDivRangeUptoRow : OpenClaim := { program := "ytdmamojidefdaaadoor", sum := "3999ae7820dda1fd4410fec51123145be6e03bd77c5237f427e060f0d2811dd9", func := "loop.example/bonddesk/laws.FnExactDivRange", spec := "fnExactDivRange", inPlace := ["internal/reflectlite.TypeOf"], unfollowed := true, recurses := true, named := ["loop.example/bonddesk/impl.errRange"], ifaces := true, apart := false, laid := [("loop.example/bonddesk/impl.errRange", laid_loop_example_bonddesk_impl_errRange)], narrowed := true }
def FnExactDivRangeUptoSaid : Prop := fnExactDivRangeUptoRow.holds Tryd.pinned (OpenSpec.upto fnExactDivRangeSpec)

end Rows
end Go.Proofs.YtdmamojidefdaaaDoor
