/-
  NARROWER THAN 'FOR EVERY INPUT', by the rows' own cells (each row's printed sentence says how): FnFlowsAfter: laid · FnFlowsAfterNone: laid · FnExactFlowsAfter: laid · FnNextFlow: laid · FnExactNextFlow: laid.
  DERIVED. THE GIVEN ROWS OF THIS SEAT. 5 by the template 'for every input the law returns true; each argument reads behind the call as it read before'; 0 by the template 'total and deterministic' (their statements: YtojhiclkaedplaaDoorTotals.lean).
  GIVEN WITH THE SEED: the statements are not yours to turn. If you find one false, say at which input.
  Laid BY PROGRAM, IN A SANDBOX (cutbox-rows.mjs): the forced cells as the released guide's own fill.sh prints them over the translation 4b56ca19e5429815… (all of the seat's roots in one cut). By AI agents, Wed Nov 11 2026. No macro, syntax, notation, axiom, sorry.
-/
import Derived.Test.YtojhiclkaedplaaDoorChecked
import GoSem.Claim
import GoSem.ClaimJoined
import GoSem.ClaimMapViews
import Derived.JoinedTies
import Derived.KernelRfl
namespace Go.Proofs.YtojhiclkaedplaaDoor
/- THE CELL 'sum', in the pinned program and in every row, IS THE sha256 OF THE DUMP (.gsa) THAT YtojhiclkaedplaaDoorProg.lean LOADS. Nothing in Lean hashes anything: it is a label: what it is worth is what the hold of that sum in a sandbox is worth. -/
noncomputable def Tryd.pinned : Pinned := { name := "ytojhiclkaedplaadoor", sum := "4b56ca19e5429815d6591ddfa3f174b7820ff9fd4dbd5e1f452016b63728a2b2", checked := Tryd.checked }
namespace Rows
def none {H : Type} : Left H := { results := [], args := [] }

/- WHAT THE LISTED PACKAGE-LEVEL VARIABLES READ AS WHEN THE CALL BEGINS. Each datum BY PROGRAM (the guide's laid-datum.mjs) off the statement by which the dump's own 'gosem.cut.vars' lays the variable. In a bare row this is a premise. The card (YtojhiclkaedplaaDoorCards.lean) ties it to the program's text. -/
def laid_loop_example_bonddesk_impl_monthStart {H : Type} : DataW H := .agg [.lit (.int .i64 0), .lit (.int .i64 31), .lit (.int .i64 59), .lit (.int .i64 90), .lit (.int .i64 120), .lit (.int .i64 151), .lit (.int .i64 181), .lit (.int .i64 212), .lit (.int .i64 243), .lit (.int .i64 273), .lit (.int .i64 304), .lit (.int .i64 334), .lit (.int .i64 365)]

/-- 'laws.FnFlowsAfter': WHATEVER THE INPUT: true; the input reads as it did. -/
def fnFlowsAfterSpec : ChangeSpec := { name := "fnFlowsAfter", vars := ["loop.example/bonddesk/impl.monthStart"], fn := fun _ => fun
  | [d, g1] => { results := [.lit (.bool true)], args := [d], vars := [g1] }
  | _ => none }
def fnFlowsAfterRow : OpenClaim := { program := "ytojhiclkaedplaadoor", sum := "4b56ca19e5429815d6591ddfa3f174b7820ff9fd4dbd5e1f452016b63728a2b2", func := "loop.example/bonddesk/laws.FnFlowsAfter", spec := "fnFlowsAfter", unfollowed := true, recurses := true, named := ["loop.example/bonddesk/impl.monthStart"], apart := false, laid := [("loop.example/bonddesk/impl.monthStart", laid_loop_example_bonddesk_impl_monthStart)] }
def FnFlowsAfterSaid : Prop := fnFlowsAfterRow.holds Tryd.pinned (OpenSpec.ofChange fnFlowsAfterSpec)

/-- ITS FALSE NEIGHBOUR: 'it returns false'. Refute it at one input. -/
def fnFlowsAfterWrong : ChangeSpec := { name := "fnFlowsAfter", vars := ["loop.example/bonddesk/impl.monthStart"], fn := fun _ => fun
  | [d, g1] => { results := [.lit (.bool false)], args := [d], vars := [g1] }
  | _ => none }
def FnFlowsAfterWrongFalsely : Prop := fnFlowsAfterRow.holds Tryd.pinned (OpenSpec.ofChange fnFlowsAfterWrong)

/-- 'laws.FnFlowsAfterNone': WHATEVER THE INPUT: true; the input reads as it did. -/
def fnFlowsAfterNoneSpec : ChangeSpec := { name := "fnFlowsAfterNone", vars := ["loop.example/bonddesk/impl.monthStart"], fn := fun _ => fun
  | [d, g1] => { results := [.lit (.bool true)], args := [d], vars := [g1] }
  | _ => none }
def fnFlowsAfterNoneRow : OpenClaim := { program := "ytojhiclkaedplaadoor", sum := "4b56ca19e5429815d6591ddfa3f174b7820ff9fd4dbd5e1f452016b63728a2b2", func := "loop.example/bonddesk/laws.FnFlowsAfterNone", spec := "fnFlowsAfterNone", unfollowed := true, recurses := true, named := ["loop.example/bonddesk/impl.monthStart"], apart := false, laid := [("loop.example/bonddesk/impl.monthStart", laid_loop_example_bonddesk_impl_monthStart)] }
def FnFlowsAfterNoneSaid : Prop := fnFlowsAfterNoneRow.holds Tryd.pinned (OpenSpec.ofChange fnFlowsAfterNoneSpec)

/-- ITS FALSE NEIGHBOUR: 'it returns false'. Refute it at one input. -/
def fnFlowsAfterNoneWrong : ChangeSpec := { name := "fnFlowsAfterNone", vars := ["loop.example/bonddesk/impl.monthStart"], fn := fun _ => fun
  | [d, g1] => { results := [.lit (.bool false)], args := [d], vars := [g1] }
  | _ => none }
def FnFlowsAfterNoneWrongFalsely : Prop := fnFlowsAfterNoneRow.holds Tryd.pinned (OpenSpec.ofChange fnFlowsAfterNoneWrong)

/-- 'laws.FnExactFlowsAfter': WHATEVER THE INPUT: true; the input reads as it did. -/
def fnExactFlowsAfterSpec : ChangeSpec := { name := "fnExactFlowsAfter", vars := ["loop.example/bonddesk/impl.monthStart"], fn := fun _ => fun
  | [d1, d2, g1] => { results := [.lit (.bool true)], args := [d1, d2], vars := [g1] }
  | _ => none }
def fnExactFlowsAfterRow : OpenClaim := { program := "ytojhiclkaedplaadoor", sum := "4b56ca19e5429815d6591ddfa3f174b7820ff9fd4dbd5e1f452016b63728a2b2", func := "loop.example/bonddesk/laws.FnExactFlowsAfter", spec := "fnExactFlowsAfter", unfollowed := true, recurses := true, named := ["loop.example/bonddesk/impl.monthStart"], apart := false, laid := [("loop.example/bonddesk/impl.monthStart", laid_loop_example_bonddesk_impl_monthStart)] }
def FnExactFlowsAfterSaid : Prop := fnExactFlowsAfterRow.holds Tryd.pinned (OpenSpec.ofChange fnExactFlowsAfterSpec)

/-- ITS FALSE NEIGHBOUR: 'it returns false'. Refute it at one input. -/
def fnExactFlowsAfterWrong : ChangeSpec := { name := "fnExactFlowsAfter", vars := ["loop.example/bonddesk/impl.monthStart"], fn := fun _ => fun
  | [d1, d2, g1] => { results := [.lit (.bool false)], args := [d1, d2], vars := [g1] }
  | _ => none }
def FnExactFlowsAfterWrongFalsely : Prop := fnExactFlowsAfterRow.holds Tryd.pinned (OpenSpec.ofChange fnExactFlowsAfterWrong)

/-- 'laws.FnNextFlow': WHATEVER THE INPUT: true; the input reads as it did. -/
def fnNextFlowSpec : ChangeSpec := { name := "fnNextFlow", vars := ["loop.example/bonddesk/impl.monthStart"], fn := fun _ => fun
  | [d, g1] => { results := [.lit (.bool true)], args := [d], vars := [g1] }
  | _ => none }
def fnNextFlowRow : OpenClaim := { program := "ytojhiclkaedplaadoor", sum := "4b56ca19e5429815d6591ddfa3f174b7820ff9fd4dbd5e1f452016b63728a2b2", func := "loop.example/bonddesk/laws.FnNextFlow", spec := "fnNextFlow", unfollowed := true, recurses := true, named := ["loop.example/bonddesk/impl.monthStart"], apart := false, laid := [("loop.example/bonddesk/impl.monthStart", laid_loop_example_bonddesk_impl_monthStart)] }
def FnNextFlowSaid : Prop := fnNextFlowRow.holds Tryd.pinned (OpenSpec.ofChange fnNextFlowSpec)

/-- ITS FALSE NEIGHBOUR: 'it returns false'. Refute it at one input. -/
def fnNextFlowWrong : ChangeSpec := { name := "fnNextFlow", vars := ["loop.example/bonddesk/impl.monthStart"], fn := fun _ => fun
  | [d, g1] => { results := [.lit (.bool false)], args := [d], vars := [g1] }
  | _ => none }
def FnNextFlowWrongFalsely : Prop := fnNextFlowRow.holds Tryd.pinned (OpenSpec.ofChange fnNextFlowWrong)

/-- 'laws.FnExactNextFlow': WHATEVER THE INPUT: true; the input reads as it did. -/
def fnExactNextFlowSpec : ChangeSpec := { name := "fnExactNextFlow", vars := ["loop.example/bonddesk/impl.monthStart"], fn := fun _ => fun
  | [d1, d2, g1] => { results := [.lit (.bool true)], args := [d1, d2], vars := [g1] }
  | _ => none }
def fnExactNextFlowRow : OpenClaim := { program := "ytojhiclkaedplaadoor", sum := "4b56ca19e5429815d6591ddfa3f174b7820ff9fd4dbd5e1f452016b63728a2b2", func := "loop.example/bonddesk/laws.FnExactNextFlow", spec := "fnExactNextFlow", unfollowed := true, recurses := true, named := ["loop.example/bonddesk/impl.monthStart"], apart := false, laid := [("loop.example/bonddesk/impl.monthStart", laid_loop_example_bonddesk_impl_monthStart)] }
def FnExactNextFlowSaid : Prop := fnExactNextFlowRow.holds Tryd.pinned (OpenSpec.ofChange fnExactNextFlowSpec)

/-- ITS FALSE NEIGHBOUR: 'it returns false'. Refute it at one input. -/
def fnExactNextFlowWrong : ChangeSpec := { name := "fnExactNextFlow", vars := ["loop.example/bonddesk/impl.monthStart"], fn := fun _ => fun
  | [d1, d2, g1] => { results := [.lit (.bool false)], args := [d1, d2], vars := [g1] }
  | _ => none }
def FnExactNextFlowWrongFalsely : Prop := fnExactNextFlowRow.holds Tryd.pinned (OpenSpec.ofChange fnExactNextFlowWrong)

/- THE SECOND FORM. 'bulk': how many values and letters a reading holds, each counted each time it is reached (what is shared counts as often as it is met; a slice's spare places count too). A statement '..UptoSaid' is the law's where the arguments, and the package variables that the reading takes, are together of bulk at most 1048576: NARROWER than '..Said'. Prove '..Said' where nothing that the law and all that it calls make is longer than what came in: it says more and counts as full. Else prove '..UptoSaid'. A law counts once. -/
mutual
def uptoBulk {H : Type} : DataW H → Nat
  | .lit (.string bytes) => bytes.length + 1
  | .lit _ => 1
  | .nil => 1
  | .ptr d => uptoBulk d + 1
  | .slice elems spare => uptoBulkAll elems + uptoBulkAll spare + 1
  | .agg parts => uptoBulkAll parts + 1
  | .iface _ d => uptoBulk d + 1
  | .map entries => uptoBulkEntries entries + 1
  | .held _ => 1
def uptoBulkAll {H : Type} : List (DataW H) → Nat
  | [] => 0
  | d :: r => uptoBulk d + uptoBulkAll r
def uptoBulkEntries {H : Type} : List (Lit × DataW H) → Nat
  | [] => 0
  | x :: r => uptoBulkEntry x + uptoBulkEntries r
def uptoBulkEntry {H : Type} : Lit × DataW H → Nat
  | (.string bytes, d) => bytes.length + uptoBulk d + 1
  | (_, d) => uptoBulk d + 1
 end
def uptoSmall : (H : Type) → List (DataW H) → Bool := fun _ ds => decide (uptoBulkAll ds ≤ 1048576)
def OpenSpec.upto (s : _root_.Go.ChangeSpec) : _root_.Go.OpenSpec := { _root_.Go.OpenSpec.ofChange s with cond := some uptoSmall }

/-- 'laws.FnFlowsAfter', WHERE WHAT IT READS IS OF BULK AT MOST 1048576: true; the input reads as it did. -/
def fnFlowsAfterUptoRow : OpenClaim := { program := "ytojhiclkaedplaadoor", sum := "4b56ca19e5429815d6591ddfa3f174b7820ff9fd4dbd5e1f452016b63728a2b2", func := "loop.example/bonddesk/laws.FnFlowsAfter", spec := "fnFlowsAfter", unfollowed := true, recurses := true, named := ["loop.example/bonddesk/impl.monthStart"], apart := false, laid := [("loop.example/bonddesk/impl.monthStart", laid_loop_example_bonddesk_impl_monthStart)], narrowed := true }
def FnFlowsAfterUptoSaid : Prop := fnFlowsAfterUptoRow.holds Tryd.pinned (OpenSpec.upto fnFlowsAfterSpec)

/-- 'laws.FnFlowsAfterNone', WHERE WHAT IT READS IS OF BULK AT MOST 1048576: true; the input reads as it did. -/
def fnFlowsAfterNoneUptoRow : OpenClaim := { program := "ytojhiclkaedplaadoor", sum := "4b56ca19e5429815d6591ddfa3f174b7820ff9fd4dbd5e1f452016b63728a2b2", func := "loop.example/bonddesk/laws.FnFlowsAfterNone", spec := "fnFlowsAfterNone", unfollowed := true, recurses := true, named := ["loop.example/bonddesk/impl.monthStart"], apart := false, laid := [("loop.example/bonddesk/impl.monthStart", laid_loop_example_bonddesk_impl_monthStart)], narrowed := true }
def FnFlowsAfterNoneUptoSaid : Prop := fnFlowsAfterNoneUptoRow.holds Tryd.pinned (OpenSpec.upto fnFlowsAfterNoneSpec)

/-- 'laws.FnExactFlowsAfter', WHERE WHAT IT READS IS OF BULK AT MOST 1048576: true; the input reads as it did. -/
def fnExactFlowsAfterUptoRow : OpenClaim := { program := "ytojhiclkaedplaadoor", sum := "4b56ca19e5429815d6591ddfa3f174b7820ff9fd4dbd5e1f452016b63728a2b2", func := "loop.example/bonddesk/laws.FnExactFlowsAfter", spec := "fnExactFlowsAfter", unfollowed := true, recurses := true, named := ["loop.example/bonddesk/impl.monthStart"], apart := false, laid := [("loop.example/bonddesk/impl.monthStart", laid_loop_example_bonddesk_impl_monthStart)], narrowed := true }
def FnExactFlowsAfterUptoSaid : Prop := fnExactFlowsAfterUptoRow.holds Tryd.pinned (OpenSpec.upto fnExactFlowsAfterSpec)

/-- 'laws.FnNextFlow', WHERE WHAT IT READS IS OF BULK AT MOST 1048576: true; the input reads as it did. -/
def fnNextFlowUptoRow : OpenClaim := { program := "ytojhiclkaedplaadoor", sum := "4b56ca19e5429815d6591ddfa3f174b7820ff9fd4dbd5e1f452016b63728a2b2", func := "loop.example/bonddesk/laws.FnNextFlow", spec := "fnNextFlow", unfollowed := true, recurses := true, named := ["loop.example/bonddesk/impl.monthStart"], apart := false, laid := [("loop.example/bonddesk/impl.monthStart", laid_loop_example_bonddesk_impl_monthStart)], narrowed := true }
def FnNextFlowUptoSaid : Prop := fnNextFlowUptoRow.holds Tryd.pinned (OpenSpec.upto fnNextFlowSpec)

/-- 'laws.FnExactNextFlow', WHERE WHAT IT READS IS OF BULK AT MOST 1048576: true; the input reads as it did. -/
def fnExactNextFlowUptoRow : OpenClaim := { program := "ytojhiclkaedplaadoor", sum := "4b56ca19e5429815d6591ddfa3f174b7820ff9fd4dbd5e1f452016b63728a2b2", func := "loop.example/bonddesk/laws.FnExactNextFlow", spec := "fnExactNextFlow", unfollowed := true, recurses := true, named := ["loop.example/bonddesk/impl.monthStart"], apart := false, laid := [("loop.example/bonddesk/impl.monthStart", laid_loop_example_bonddesk_impl_monthStart)], narrowed := true }
def FnExactNextFlowUptoSaid : Prop := fnExactNextFlowUptoRow.holds Tryd.pinned (OpenSpec.upto fnExactNextFlowSpec)

end Rows
end Go.Proofs.YtojhiclkaedplaaDoor
