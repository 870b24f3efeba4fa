/-
  NARROWER THAN 'FOR EVERY INPUT', by the rows' own cells (each row's printed sentence says how): FnDaysIn: laid · FnValidDate: laid · FnDayOf: laid · FnDateOf: laid · FnAddMonths: laid · FnAddMonthsOrder: laid · FnDaysInLeap: laid · FnAddMonthsBack: laid · FnAddMonthsYear: laid · FnExactDaysIn: laid · FnExactValidDate: laid · FnExactDayOf: laid · FnExactDateOf: laid · FnExactAddMonths: laid.
  DERIVED. THE GIVEN ROWS OF THIS SEAT. 14 by the template 'for every input the law returns true; each argument reads behind the call as it read before'; 0 by the template 'total and deterministic' (their statements: YtgjiogdekihhdaaDoorTotals.lean).
  GIVEN WITH THE SEED: the statements are not yours to turn. If you find one false, say at which input.
  Laid BY PROGRAM, IN A SANDBOX (cutbox-rows.mjs): the forced cells as the released guide's own fill.sh prints them over the translation 2213942418aaa017… (all of the seat's roots in one cut). By AI agents, Wed Nov 11 2026. No macro, syntax, notation, axiom, sorry.
-/
import Derived.Test.YtgjiogdekihhdaaDoorChecked
import GoSem.Claim
import GoSem.ClaimJoined
import GoSem.ClaimMapViews
import Derived.JoinedTies
import Derived.KernelRfl
namespace Go.Proofs.YtgjiogdekihhdaaDoor
/- THE CELL 'sum', in the pinned program and in every row, IS THE sha256 OF THE DUMP (.gsa) THAT YtgjiogdekihhdaaDoorProg.lean LOADS. Nothing in Lean hashes anything: it is a label: what it is worth is what the hold of that sum in a sandbox is worth. -/
noncomputable def Tryd.pinned : Pinned := { name := "ytgjiogdekihhdaadoor", sum := "2213942418aaa017dff50daec9f07f01e79a0c6e0343bbbc527fa94d4528ecd3", checked := Tryd.checked }
namespace Rows
def none {H : Type} : Left H := { results := [], args := [] }

/- WHAT THE LISTED PACKAGE-LEVEL VARIABLES READ AS WHEN THE CALL BEGINS. Each datum BY PROGRAM (the guide's laid-datum.mjs) off the statement by which the dump's own 'gosem.cut.vars' lays the variable. In a bare row this is a premise. The card (YtgjiogdekihhdaaDoorCards.lean) ties it to the program's text. -/
def laid_loop_example_bonddesk_impl_monthStart {H : Type} : DataW H := .agg [.lit (.int .i64 0), .lit (.int .i64 31), .lit (.int .i64 59), .lit (.int .i64 90), .lit (.int .i64 120), .lit (.int .i64 151), .lit (.int .i64 181), .lit (.int .i64 212), .lit (.int .i64 243), .lit (.int .i64 273), .lit (.int .i64 304), .lit (.int .i64 334), .lit (.int .i64 365)]

/-- 'laws.FnDaysIn': WHATEVER THE INPUT: true; the input reads as it did. -/
def fnDaysInSpec : ChangeSpec := { name := "fnDaysIn", vars := ["loop.example/bonddesk/impl.monthStart"], fn := fun _ => fun
  | [d, g1] => { results := [.lit (.bool true)], args := [d], vars := [g1] }
  | _ => none }
def fnDaysInRow : OpenClaim := { program := "ytgjiogdekihhdaadoor", sum := "2213942418aaa017dff50daec9f07f01e79a0c6e0343bbbc527fa94d4528ecd3", func := "loop.example/bonddesk/laws.FnDaysIn", spec := "fnDaysIn", named := ["loop.example/bonddesk/impl.monthStart"], apart := false, laid := [("loop.example/bonddesk/impl.monthStart", laid_loop_example_bonddesk_impl_monthStart)] }
def FnDaysInSaid : Prop := fnDaysInRow.holds Tryd.pinned (OpenSpec.ofChange fnDaysInSpec)

/-- ITS FALSE NEIGHBOUR: 'it returns false'. Refute it at one input. -/
def fnDaysInWrong : ChangeSpec := { name := "fnDaysIn", vars := ["loop.example/bonddesk/impl.monthStart"], fn := fun _ => fun
  | [d, g1] => { results := [.lit (.bool false)], args := [d], vars := [g1] }
  | _ => none }
def FnDaysInWrongFalsely : Prop := fnDaysInRow.holds Tryd.pinned (OpenSpec.ofChange fnDaysInWrong)

/-- 'laws.FnValidDate': WHATEVER THE INPUT: true; the input reads as it did. -/
def fnValidDateSpec : ChangeSpec := { name := "fnValidDate", vars := ["loop.example/bonddesk/impl.monthStart"], fn := fun _ => fun
  | [d, g1] => { results := [.lit (.bool true)], args := [d], vars := [g1] }
  | _ => none }
def fnValidDateRow : OpenClaim := { program := "ytgjiogdekihhdaadoor", sum := "2213942418aaa017dff50daec9f07f01e79a0c6e0343bbbc527fa94d4528ecd3", func := "loop.example/bonddesk/laws.FnValidDate", spec := "fnValidDate", named := ["loop.example/bonddesk/impl.monthStart"], apart := false, laid := [("loop.example/bonddesk/impl.monthStart", laid_loop_example_bonddesk_impl_monthStart)] }
def FnValidDateSaid : Prop := fnValidDateRow.holds Tryd.pinned (OpenSpec.ofChange fnValidDateSpec)

/-- ITS FALSE NEIGHBOUR: 'it returns false'. Refute it at one input. -/
def fnValidDateWrong : ChangeSpec := { name := "fnValidDate", vars := ["loop.example/bonddesk/impl.monthStart"], fn := fun _ => fun
  | [d, g1] => { results := [.lit (.bool false)], args := [d], vars := [g1] }
  | _ => none }
def FnValidDateWrongFalsely : Prop := fnValidDateRow.holds Tryd.pinned (OpenSpec.ofChange fnValidDateWrong)

/-- 'laws.FnDayOf': WHATEVER THE INPUT: true; the input reads as it did. -/
def fnDayOfSpec : ChangeSpec := { name := "fnDayOf", vars := ["loop.example/bonddesk/impl.monthStart"], fn := fun _ => fun
  | [d, g1] => { results := [.lit (.bool true)], args := [d], vars := [g1] }
  | _ => none }
def fnDayOfRow : OpenClaim := { program := "ytgjiogdekihhdaadoor", sum := "2213942418aaa017dff50daec9f07f01e79a0c6e0343bbbc527fa94d4528ecd3", func := "loop.example/bonddesk/laws.FnDayOf", spec := "fnDayOf", named := ["loop.example/bonddesk/impl.monthStart"], apart := false, laid := [("loop.example/bonddesk/impl.monthStart", laid_loop_example_bonddesk_impl_monthStart)] }
def FnDayOfSaid : Prop := fnDayOfRow.holds Tryd.pinned (OpenSpec.ofChange fnDayOfSpec)

/-- ITS FALSE NEIGHBOUR: 'it returns false'. Refute it at one input. -/
def fnDayOfWrong : ChangeSpec := { name := "fnDayOf", vars := ["loop.example/bonddesk/impl.monthStart"], fn := fun _ => fun
  | [d, g1] => { results := [.lit (.bool false)], args := [d], vars := [g1] }
  | _ => none }
def FnDayOfWrongFalsely : Prop := fnDayOfRow.holds Tryd.pinned (OpenSpec.ofChange fnDayOfWrong)

/-- 'laws.FnDateOf': WHATEVER THE INPUT: true; the input reads as it did. -/
def fnDateOfSpec : ChangeSpec := { name := "fnDateOf", vars := ["loop.example/bonddesk/impl.monthStart"], fn := fun _ => fun
  | [d, g1] => { results := [.lit (.bool true)], args := [d], vars := [g1] }
  | _ => none }
def fnDateOfRow : OpenClaim := { program := "ytgjiogdekihhdaadoor", sum := "2213942418aaa017dff50daec9f07f01e79a0c6e0343bbbc527fa94d4528ecd3", func := "loop.example/bonddesk/laws.FnDateOf", spec := "fnDateOf", named := ["loop.example/bonddesk/impl.monthStart"], apart := false, laid := [("loop.example/bonddesk/impl.monthStart", laid_loop_example_bonddesk_impl_monthStart)] }
def FnDateOfSaid : Prop := fnDateOfRow.holds Tryd.pinned (OpenSpec.ofChange fnDateOfSpec)

/-- ITS FALSE NEIGHBOUR: 'it returns false'. Refute it at one input. -/
def fnDateOfWrong : ChangeSpec := { name := "fnDateOf", vars := ["loop.example/bonddesk/impl.monthStart"], fn := fun _ => fun
  | [d, g1] => { results := [.lit (.bool false)], args := [d], vars := [g1] }
  | _ => none }
def FnDateOfWrongFalsely : Prop := fnDateOfRow.holds Tryd.pinned (OpenSpec.ofChange fnDateOfWrong)

/-- 'laws.FnAddMonths': WHATEVER THE INPUT: true; the input reads as it did. -/
def fnAddMonthsSpec : ChangeSpec := { name := "fnAddMonths", vars := ["loop.example/bonddesk/impl.monthStart"], fn := fun _ => fun
  | [d, g1] => { results := [.lit (.bool true)], args := [d], vars := [g1] }
  | _ => none }
def fnAddMonthsRow : OpenClaim := { program := "ytgjiogdekihhdaadoor", sum := "2213942418aaa017dff50daec9f07f01e79a0c6e0343bbbc527fa94d4528ecd3", func := "loop.example/bonddesk/laws.FnAddMonths", spec := "fnAddMonths", named := ["loop.example/bonddesk/impl.monthStart"], apart := false, laid := [("loop.example/bonddesk/impl.monthStart", laid_loop_example_bonddesk_impl_monthStart)] }
def FnAddMonthsSaid : Prop := fnAddMonthsRow.holds Tryd.pinned (OpenSpec.ofChange fnAddMonthsSpec)

/-- ITS FALSE NEIGHBOUR: 'it returns false'. Refute it at one input. -/
def fnAddMonthsWrong : ChangeSpec := { name := "fnAddMonths", vars := ["loop.example/bonddesk/impl.monthStart"], fn := fun _ => fun
  | [d, g1] => { results := [.lit (.bool false)], args := [d], vars := [g1] }
  | _ => none }
def FnAddMonthsWrongFalsely : Prop := fnAddMonthsRow.holds Tryd.pinned (OpenSpec.ofChange fnAddMonthsWrong)

/-- 'laws.FnAddMonthsOrder': WHATEVER THE INPUT: true; the input reads as it did. -/
def fnAddMonthsOrderSpec : ChangeSpec := { name := "fnAddMonthsOrder", vars := ["loop.example/bonddesk/impl.monthStart"], fn := fun _ => fun
  | [d, g1] => { results := [.lit (.bool true)], args := [d], vars := [g1] }
  | _ => none }
def fnAddMonthsOrderRow : OpenClaim := { program := "ytgjiogdekihhdaadoor", sum := "2213942418aaa017dff50daec9f07f01e79a0c6e0343bbbc527fa94d4528ecd3", func := "loop.example/bonddesk/laws.FnAddMonthsOrder", spec := "fnAddMonthsOrder", named := ["loop.example/bonddesk/impl.monthStart"], apart := false, laid := [("loop.example/bonddesk/impl.monthStart", laid_loop_example_bonddesk_impl_monthStart)] }
def FnAddMonthsOrderSaid : Prop := fnAddMonthsOrderRow.holds Tryd.pinned (OpenSpec.ofChange fnAddMonthsOrderSpec)

/-- ITS FALSE NEIGHBOUR: 'it returns false'. Refute it at one input. -/
def fnAddMonthsOrderWrong : ChangeSpec := { name := "fnAddMonthsOrder", vars := ["loop.example/bonddesk/impl.monthStart"], fn := fun _ => fun
  | [d, g1] => { results := [.lit (.bool false)], args := [d], vars := [g1] }
  | _ => none }
def FnAddMonthsOrderWrongFalsely : Prop := fnAddMonthsOrderRow.holds Tryd.pinned (OpenSpec.ofChange fnAddMonthsOrderWrong)

/-- 'laws.FnDaysInLeap': WHATEVER THE INPUT: true; the input reads as it did. -/
def fnDaysInLeapSpec : ChangeSpec := { name := "fnDaysInLeap", vars := ["loop.example/bonddesk/impl.monthStart"], fn := fun _ => fun
  | [d, g1] => { results := [.lit (.bool true)], args := [d], vars := [g1] }
  | _ => none }
def fnDaysInLeapRow : OpenClaim := { program := "ytgjiogdekihhdaadoor", sum := "2213942418aaa017dff50daec9f07f01e79a0c6e0343bbbc527fa94d4528ecd3", func := "loop.example/bonddesk/laws.FnDaysInLeap", spec := "fnDaysInLeap", named := ["loop.example/bonddesk/impl.monthStart"], apart := false, laid := [("loop.example/bonddesk/impl.monthStart", laid_loop_example_bonddesk_impl_monthStart)] }
def FnDaysInLeapSaid : Prop := fnDaysInLeapRow.holds Tryd.pinned (OpenSpec.ofChange fnDaysInLeapSpec)

/-- ITS FALSE NEIGHBOUR: 'it returns false'. Refute it at one input. -/
def fnDaysInLeapWrong : ChangeSpec := { name := "fnDaysInLeap", vars := ["loop.example/bonddesk/impl.monthStart"], fn := fun _ => fun
  | [d, g1] => { results := [.lit (.bool false)], args := [d], vars := [g1] }
  | _ => none }
def FnDaysInLeapWrongFalsely : Prop := fnDaysInLeapRow.holds Tryd.pinned (OpenSpec.ofChange fnDaysInLeapWrong)

/-- 'laws.FnAddMonthsBack': WHATEVER THE INPUT: true; the input reads as it did. -/
def fnAddMonthsBackSpec : ChangeSpec := { name := "fnAddMonthsBack", vars := ["loop.example/bonddesk/impl.monthStart"], fn := fun _ => fun
  | [d, g1] => { results := [.lit (.bool true)], args := [d], vars := [g1] }
  | _ => none }
def fnAddMonthsBackRow : OpenClaim := { program := "ytgjiogdekihhdaadoor", sum := "2213942418aaa017dff50daec9f07f01e79a0c6e0343bbbc527fa94d4528ecd3", func := "loop.example/bonddesk/laws.FnAddMonthsBack", spec := "fnAddMonthsBack", named := ["loop.example/bonddesk/impl.monthStart"], apart := false, laid := [("loop.example/bonddesk/impl.monthStart", laid_loop_example_bonddesk_impl_monthStart)] }
def FnAddMonthsBackSaid : Prop := fnAddMonthsBackRow.holds Tryd.pinned (OpenSpec.ofChange fnAddMonthsBackSpec)

/-- ITS FALSE NEIGHBOUR: 'it returns false'. Refute it at one input. -/
def fnAddMonthsBackWrong : ChangeSpec := { name := "fnAddMonthsBack", vars := ["loop.example/bonddesk/impl.monthStart"], fn := fun _ => fun
  | [d, g1] => { results := [.lit (.bool false)], args := [d], vars := [g1] }
  | _ => none }
def FnAddMonthsBackWrongFalsely : Prop := fnAddMonthsBackRow.holds Tryd.pinned (OpenSpec.ofChange fnAddMonthsBackWrong)

/-- 'laws.FnAddMonthsYear': WHATEVER THE INPUT: true; the input reads as it did. -/
def fnAddMonthsYearSpec : ChangeSpec := { name := "fnAddMonthsYear", vars := ["loop.example/bonddesk/impl.monthStart"], fn := fun _ => fun
  | [d, g1] => { results := [.lit (.bool true)], args := [d], vars := [g1] }
  | _ => none }
def fnAddMonthsYearRow : OpenClaim := { program := "ytgjiogdekihhdaadoor", sum := "2213942418aaa017dff50daec9f07f01e79a0c6e0343bbbc527fa94d4528ecd3", func := "loop.example/bonddesk/laws.FnAddMonthsYear", spec := "fnAddMonthsYear", named := ["loop.example/bonddesk/impl.monthStart"], apart := false, laid := [("loop.example/bonddesk/impl.monthStart", laid_loop_example_bonddesk_impl_monthStart)] }
def FnAddMonthsYearSaid : Prop := fnAddMonthsYearRow.holds Tryd.pinned (OpenSpec.ofChange fnAddMonthsYearSpec)

/-- ITS FALSE NEIGHBOUR: 'it returns false'. Refute it at one input. -/
def fnAddMonthsYearWrong : ChangeSpec := { name := "fnAddMonthsYear", vars := ["loop.example/bonddesk/impl.monthStart"], fn := fun _ => fun
  | [d, g1] => { results := [.lit (.bool false)], args := [d], vars := [g1] }
  | _ => none }
def FnAddMonthsYearWrongFalsely : Prop := fnAddMonthsYearRow.holds Tryd.pinned (OpenSpec.ofChange fnAddMonthsYearWrong)

/-- 'laws.FnExactDaysIn': WHATEVER THE INPUT: true; the input reads as it did. -/
def fnExactDaysInSpec : ChangeSpec := { name := "fnExactDaysIn", vars := ["loop.example/bonddesk/impl.monthStart"], fn := fun _ => fun
  | [d1, d2, g1] => { results := [.lit (.bool true)], args := [d1, d2], vars := [g1] }
  | _ => none }
def fnExactDaysInRow : OpenClaim := { program := "ytgjiogdekihhdaadoor", sum := "2213942418aaa017dff50daec9f07f01e79a0c6e0343bbbc527fa94d4528ecd3", func := "loop.example/bonddesk/laws.FnExactDaysIn", spec := "fnExactDaysIn", named := ["loop.example/bonddesk/impl.monthStart"], apart := false, laid := [("loop.example/bonddesk/impl.monthStart", laid_loop_example_bonddesk_impl_monthStart)] }
def FnExactDaysInSaid : Prop := fnExactDaysInRow.holds Tryd.pinned (OpenSpec.ofChange fnExactDaysInSpec)

/-- ITS FALSE NEIGHBOUR: 'it returns false'. Refute it at one input. -/
def fnExactDaysInWrong : ChangeSpec := { name := "fnExactDaysIn", vars := ["loop.example/bonddesk/impl.monthStart"], fn := fun _ => fun
  | [d1, d2, g1] => { results := [.lit (.bool false)], args := [d1, d2], vars := [g1] }
  | _ => none }
def FnExactDaysInWrongFalsely : Prop := fnExactDaysInRow.holds Tryd.pinned (OpenSpec.ofChange fnExactDaysInWrong)

/-- 'laws.FnExactValidDate': WHATEVER THE INPUT: true; the input reads as it did. -/
def fnExactValidDateSpec : ChangeSpec := { name := "fnExactValidDate", vars := ["loop.example/bonddesk/impl.monthStart"], fn := fun _ => fun
  | [d, g1] => { results := [.lit (.bool true)], args := [d], vars := [g1] }
  | _ => none }
def fnExactValidDateRow : OpenClaim := { program := "ytgjiogdekihhdaadoor", sum := "2213942418aaa017dff50daec9f07f01e79a0c6e0343bbbc527fa94d4528ecd3", func := "loop.example/bonddesk/laws.FnExactValidDate", spec := "fnExactValidDate", named := ["loop.example/bonddesk/impl.monthStart"], apart := false, laid := [("loop.example/bonddesk/impl.monthStart", laid_loop_example_bonddesk_impl_monthStart)] }
def FnExactValidDateSaid : Prop := fnExactValidDateRow.holds Tryd.pinned (OpenSpec.ofChange fnExactValidDateSpec)

/-- ITS FALSE NEIGHBOUR: 'it returns false'. Refute it at one input. -/
def fnExactValidDateWrong : ChangeSpec := { name := "fnExactValidDate", vars := ["loop.example/bonddesk/impl.monthStart"], fn := fun _ => fun
  | [d, g1] => { results := [.lit (.bool false)], args := [d], vars := [g1] }
  | _ => none }
def FnExactValidDateWrongFalsely : Prop := fnExactValidDateRow.holds Tryd.pinned (OpenSpec.ofChange fnExactValidDateWrong)

/-- 'laws.FnExactDayOf': WHATEVER THE INPUT: true; the input reads as it did. -/
def fnExactDayOfSpec : ChangeSpec := { name := "fnExactDayOf", vars := ["loop.example/bonddesk/impl.monthStart"], fn := fun _ => fun
  | [d, g1] => { results := [.lit (.bool true)], args := [d], vars := [g1] }
  | _ => none }
def fnExactDayOfRow : OpenClaim := { program := "ytgjiogdekihhdaadoor", sum := "2213942418aaa017dff50daec9f07f01e79a0c6e0343bbbc527fa94d4528ecd3", func := "loop.example/bonddesk/laws.FnExactDayOf", spec := "fnExactDayOf", named := ["loop.example/bonddesk/impl.monthStart"], apart := false, laid := [("loop.example/bonddesk/impl.monthStart", laid_loop_example_bonddesk_impl_monthStart)] }
def FnExactDayOfSaid : Prop := fnExactDayOfRow.holds Tryd.pinned (OpenSpec.ofChange fnExactDayOfSpec)

/-- ITS FALSE NEIGHBOUR: 'it returns false'. Refute it at one input. -/
def fnExactDayOfWrong : ChangeSpec := { name := "fnExactDayOf", vars := ["loop.example/bonddesk/impl.monthStart"], fn := fun _ => fun
  | [d, g1] => { results := [.lit (.bool false)], args := [d], vars := [g1] }
  | _ => none }
def FnExactDayOfWrongFalsely : Prop := fnExactDayOfRow.holds Tryd.pinned (OpenSpec.ofChange fnExactDayOfWrong)

/-- 'laws.FnExactDateOf': WHATEVER THE INPUT: true; the input reads as it did. -/
def fnExactDateOfSpec : ChangeSpec := { name := "fnExactDateOf", vars := ["loop.example/bonddesk/impl.monthStart"], fn := fun _ => fun
  | [d, g1] => { results := [.lit (.bool true)], args := [d], vars := [g1] }
  | _ => none }
def fnExactDateOfRow : OpenClaim := { program := "ytgjiogdekihhdaadoor", sum := "2213942418aaa017dff50daec9f07f01e79a0c6e0343bbbc527fa94d4528ecd3", func := "loop.example/bonddesk/laws.FnExactDateOf", spec := "fnExactDateOf", named := ["loop.example/bonddesk/impl.monthStart"], apart := false, laid := [("loop.example/bonddesk/impl.monthStart", laid_loop_example_bonddesk_impl_monthStart)] }
def FnExactDateOfSaid : Prop := fnExactDateOfRow.holds Tryd.pinned (OpenSpec.ofChange fnExactDateOfSpec)

/-- ITS FALSE NEIGHBOUR: 'it returns false'. Refute it at one input. -/
def fnExactDateOfWrong : ChangeSpec := { name := "fnExactDateOf", vars := ["loop.example/bonddesk/impl.monthStart"], fn := fun _ => fun
  | [d, g1] => { results := [.lit (.bool false)], args := [d], vars := [g1] }
  | _ => none }
def FnExactDateOfWrongFalsely : Prop := fnExactDateOfRow.holds Tryd.pinned (OpenSpec.ofChange fnExactDateOfWrong)

/-- 'laws.FnExactAddMonths': WHATEVER THE INPUT: true; the input reads as it did. -/
def fnExactAddMonthsSpec : ChangeSpec := { name := "fnExactAddMonths", vars := ["loop.example/bonddesk/impl.monthStart"], fn := fun _ => fun
  | [d1, d2, g1] => { results := [.lit (.bool true)], args := [d1, d2], vars := [g1] }
  | _ => none }
def fnExactAddMonthsRow : OpenClaim := { program := "ytgjiogdekihhdaadoor", sum := "2213942418aaa017dff50daec9f07f01e79a0c6e0343bbbc527fa94d4528ecd3", func := "loop.example/bonddesk/laws.FnExactAddMonths", spec := "fnExactAddMonths", named := ["loop.example/bonddesk/impl.monthStart"], apart := false, laid := [("loop.example/bonddesk/impl.monthStart", laid_loop_example_bonddesk_impl_monthStart)] }
def FnExactAddMonthsSaid : Prop := fnExactAddMonthsRow.holds Tryd.pinned (OpenSpec.ofChange fnExactAddMonthsSpec)

/-- ITS FALSE NEIGHBOUR: 'it returns false'. Refute it at one input. -/
def fnExactAddMonthsWrong : ChangeSpec := { name := "fnExactAddMonths", vars := ["loop.example/bonddesk/impl.monthStart"], fn := fun _ => fun
  | [d1, d2, g1] => { results := [.lit (.bool false)], args := [d1, d2], vars := [g1] }
  | _ => none }
def FnExactAddMonthsWrongFalsely : Prop := fnExactAddMonthsRow.holds Tryd.pinned (OpenSpec.ofChange fnExactAddMonthsWrong)

/- THE SECOND FORM. 'bulk': how many values and letters a reading holds, each counted each time it is reached (what is shared counts as often as it is met; a slice's spare places count too). A statement '..UptoSaid' is the law's where the arguments, and the package variables that the reading takes, are together of bulk at most 1048576: NARROWER than '..Said'. Prove '..Said' where nothing that the law and all that it calls make is longer than what came in: it says more and counts as full. Else prove '..UptoSaid'. A law counts once. -/
mutual
def uptoBulk {H : Type} : DataW H → Nat
  | .lit (.string bytes) => bytes.length + 1
  | .lit _ => 1
  | .nil => 1
  | .ptr d => uptoBulk d + 1
  | .slice elems spare => uptoBulkAll elems + uptoBulkAll spare + 1
  | .agg parts => uptoBulkAll parts + 1
  | .iface _ d => uptoBulk d + 1
  | .map entries => uptoBulkEntries entries + 1
  | .held _ => 1
def uptoBulkAll {H : Type} : List (DataW H) → Nat
  | [] => 0
  | d :: r => uptoBulk d + uptoBulkAll r
def uptoBulkEntries {H : Type} : List (Lit × DataW H) → Nat
  | [] => 0
  | x :: r => uptoBulkEntry x + uptoBulkEntries r
def uptoBulkEntry {H : Type} : Lit × DataW H → Nat
  | (.string bytes, d) => bytes.length + uptoBulk d + 1
  | (_, d) => uptoBulk d + 1
 end
def uptoSmall : (H : Type) → List (DataW H) → Bool := fun _ ds => decide (uptoBulkAll ds ≤ 1048576)
def OpenSpec.upto (s : _root_.Go.ChangeSpec) : _root_.Go.OpenSpec := { _root_.Go.OpenSpec.ofChange s with cond := some uptoSmall }

/-- 'laws.FnDaysIn', WHERE WHAT IT READS IS OF BULK AT MOST 1048576: true; the input reads as it did. -/
def fnDaysInUptoRow : OpenClaim := { program := "ytgjiogdekihhdaadoor", sum := "2213942418aaa017dff50daec9f07f01e79a0c6e0343bbbc527fa94d4528ecd3", func := "loop.example/bonddesk/laws.FnDaysIn", spec := "fnDaysIn", named := ["loop.example/bonddesk/impl.monthStart"], apart := false, laid := [("loop.example/bonddesk/impl.monthStart", laid_loop_example_bonddesk_impl_monthStart)], narrowed := true }
def FnDaysInUptoSaid : Prop := fnDaysInUptoRow.holds Tryd.pinned (OpenSpec.upto fnDaysInSpec)

/-- 'laws.FnValidDate', WHERE WHAT IT READS IS OF BULK AT MOST 1048576: true; the input reads as it did. -/
def fnValidDateUptoRow : OpenClaim := { program := "ytgjiogdekihhdaadoor", sum := "2213942418aaa017dff50daec9f07f01e79a0c6e0343bbbc527fa94d4528ecd3", func := "loop.example/bonddesk/laws.FnValidDate", spec := "fnValidDate", named := ["loop.example/bonddesk/impl.monthStart"], apart := false, laid := [("loop.example/bonddesk/impl.monthStart", laid_loop_example_bonddesk_impl_monthStart)], narrowed := true }
def FnValidDateUptoSaid : Prop := fnValidDateUptoRow.holds Tryd.pinned (OpenSpec.upto fnValidDateSpec)

/-- 'laws.FnDayOf', WHERE WHAT IT READS IS OF BULK AT MOST 1048576: true; the input reads as it did. -/
def fnDayOfUptoRow : OpenClaim := { program := "ytgjiogdekihhdaadoor", sum := "2213942418aaa017dff50daec9f07f01e79a0c6e0343bbbc527fa94d4528ecd3", func := "loop.example/bonddesk/laws.FnDayOf", spec := "fnDayOf", named := ["loop.example/bonddesk/impl.monthStart"], apart := false, laid := [("loop.example/bonddesk/impl.monthStart", laid_loop_example_bonddesk_impl_monthStart)], narrowed := true }
def FnDayOfUptoSaid : Prop := fnDayOfUptoRow.holds Tryd.pinned (OpenSpec.upto fnDayOfSpec)

/-- 'laws.FnDateOf', WHERE WHAT IT READS IS OF BULK AT MOST 1048576: true; the input reads as it did. -/
def fnDateOfUptoRow : OpenClaim := { program := "ytgjiogdekihhdaadoor", sum := "2213942418aaa017dff50daec9f07f01e79a0c6e0343bbbc527fa94d4528ecd3", func := "loop.example/bonddesk/laws.FnDateOf", spec := "fnDateOf", named := ["loop.example/bonddesk/impl.monthStart"], apart := false, laid := [("loop.example/bonddesk/impl.monthStart", laid_loop_example_bonddesk_impl_monthStart)], narrowed := true }
def FnDateOfUptoSaid : Prop := fnDateOfUptoRow.holds Tryd.pinned (OpenSpec.upto fnDateOfSpec)

/-- 'laws.FnAddMonths', WHERE WHAT IT READS IS OF BULK AT MOST 1048576: true; the input reads as it did. -/
def fnAddMonthsUptoRow : OpenClaim := { program := "ytgjiogdekihhdaadoor", sum := "2213942418aaa017dff50daec9f07f01e79a0c6e0343bbbc527fa94d4528ecd3", func := "loop.example/bonddesk/laws.FnAddMonths", spec := "fnAddMonths", named := ["loop.example/bonddesk/impl.monthStart"], apart := false, laid := [("loop.example/bonddesk/impl.monthStart", laid_loop_example_bonddesk_impl_monthStart)], narrowed := true }
def FnAddMonthsUptoSaid : Prop := fnAddMonthsUptoRow.holds Tryd.pinned (OpenSpec.upto fnAddMonthsSpec)

/-- 'laws.FnAddMonthsOrder', WHERE WHAT IT READS IS OF BULK AT MOST 1048576: true; the input reads as it did. -/
def fnAddMonthsOrderUptoRow : OpenClaim := { program := "ytgjiogdekihhdaadoor", sum := "2213942418aaa017dff50daec9f07f01e79a0c6e0343bbbc527fa94d4528ecd3", func := "loop.example/bonddesk/laws.FnAddMonthsOrder", spec := "fnAddMonthsOrder", named := ["loop.example/bonddesk/impl.monthStart"], apart := false, laid := [("loop.example/bonddesk/impl.monthStart", laid_loop_example_bonddesk_impl_monthStart)], narrowed := true }
def FnAddMonthsOrderUptoSaid : Prop := fnAddMonthsOrderUptoRow.holds Tryd.pinned (OpenSpec.upto fnAddMonthsOrderSpec)

/-- 'laws.FnDaysInLeap', WHERE WHAT IT READS IS OF BULK AT MOST 1048576: true; the input reads as it did. -/
def fnDaysInLeapUptoRow : OpenClaim := { program := "ytgjiogdekihhdaadoor", sum := "2213942418aaa017dff50daec9f07f01e79a0c6e0343bbbc527fa94d4528ecd3", func := "loop.example/bonddesk/laws.FnDaysInLeap", spec := "fnDaysInLeap", named := ["loop.example/bonddesk/impl.monthStart"], apart := false, laid := [("loop.example/bonddesk/impl.monthStart", laid_loop_example_bonddesk_impl_monthStart)], narrowed := true }
def FnDaysInLeapUptoSaid : Prop := fnDaysInLeapUptoRow.holds Tryd.pinned (OpenSpec.upto fnDaysInLeapSpec)

/-- 'laws.FnAddMonthsBack', WHERE WHAT IT READS IS OF BULK AT MOST 1048576: true; the input reads as it did. -/
def fnAddMonthsBackUptoRow : OpenClaim := { program := "ytgjiogdekihhdaadoor", sum := "2213942418aaa017dff50daec9f07f01e79a0c6e0343bbbc527fa94d4528ecd3", func := "loop.example/bonddesk/laws.FnAddMonthsBack", spec := "fnAddMonthsBack", named := ["loop.example/bonddesk/impl.monthStart"], apart := false, laid := [("loop.example/bonddesk/impl.monthStart", laid_loop_example_bonddesk_impl_monthStart)], narrowed := true }
def FnAddMonthsBackUptoSaid : Prop := fnAddMonthsBackUptoRow.holds Tryd.pinned (OpenSpec.upto fnAddMonthsBackSpec)

/-- 'laws.FnAddMonthsYear', WHERE WHAT IT READS IS OF BULK AT MOST 1048576: true; the input reads as it did. -/
def fnAddMonthsYearUptoRow : OpenClaim := { program := "ytgjiogdekihhdaadoor", sum := "2213942418aaa017dff50daec9f07f01e79a0c6e0343bbbc527fa94d4528ecd3", func := "loop.example/bonddesk/laws.FnAddMonthsYear", spec := "fnAddMonthsYear", named := ["loop.example/bonddesk/impl.monthStart"], apart := false, laid := [("loop.example/bonddesk/impl.monthStart", laid_loop_example_bonddesk_impl_monthStart)], narrowed := true }
def FnAddMonthsYearUptoSaid : Prop := fnAddMonthsYearUptoRow.holds Tryd.pinned (OpenSpec.upto fnAddMonthsYearSpec)

/-- 'laws.FnExactDaysIn', WHERE WHAT IT READS IS OF BULK AT MOST 1048576: true; the input reads as it did. -/
def fnExactDaysInUptoRow : OpenClaim := { program := "ytgjiogdekihhdaadoor", sum := "2213942418aaa017dff50daec9f07f01e79a0c6e0343bbbc527fa94d4528ecd3", func := "loop.example/bonddesk/laws.FnExactDaysIn", spec := "fnExactDaysIn", named := ["loop.example/bonddesk/impl.monthStart"], apart := false, laid := [("loop.example/bonddesk/impl.monthStart", laid_loop_example_bonddesk_impl_monthStart)], narrowed := true }
def FnExactDaysInUptoSaid : Prop := fnExactDaysInUptoRow.holds Tryd.pinned (OpenSpec.upto fnExactDaysInSpec)

/-- 'laws.FnExactValidDate', WHERE WHAT IT READS IS OF BULK AT MOST 1048576: true; the input reads as it did. -/
def fnExactValidDateUptoRow : OpenClaim := { program := "ytgjiogdekihhdaadoor", sum := "2213942418aaa017dff50daec9f07f01e79a0c6e0343bbbc527fa94d4528ecd3", func := "loop.example/bonddesk/laws.FnExactValidDate", spec := "fnExactValidDate", named := ["loop.example/bonddesk/impl.monthStart"], apart := false, laid := [("loop.example/bonddesk/impl.monthStart", laid_loop_example_bonddesk_impl_monthStart)], narrowed := true }
def FnExactValidDateUptoSaid : Prop := fnExactValidDateUptoRow.holds Tryd.pinned (OpenSpec.upto fnExactValidDateSpec)

/-- 'laws.FnExactDayOf', WHERE WHAT IT READS IS OF BULK AT MOST 1048576: true; the input reads as it did. -/
def fnExactDayOfUptoRow : OpenClaim := { program := "ytgjiogdekihhdaadoor", sum := "2213942418aaa017dff50daec9f07f01e79a0c6e0343bbbc527fa94d4528ecd3", func := "loop.example/bonddesk/laws.FnExactDayOf", spec := "fnExactDayOf", named := ["loop.example/bonddesk/impl.monthStart"], apart := false, laid := [("loop.example/bonddesk/impl.monthStart", laid_loop_example_bonddesk_impl_monthStart)], narrowed := true }
def FnExactDayOfUptoSaid : Prop := fnExactDayOfUptoRow.holds Tryd.pinned (OpenSpec.upto fnExactDayOfSpec)

/-- 'laws.FnExactDateOf', WHERE WHAT IT READS IS OF BULK AT MOST 1048576: true; the input reads as it did. -/
def fnExactDateOfUptoRow : OpenClaim := { program := "ytgjiogdekihhdaadoor", sum := "2213942418aaa017dff50daec9f07f01e79a0c6e0343bbbc527fa94d4528ecd3", func := "loop.example/bonddesk/laws.FnExactDateOf", spec := "fnExactDateOf", named := ["loop.example/bonddesk/impl.monthStart"], apart := false, laid := [("loop.example/bonddesk/impl.monthStart", laid_loop_example_bonddesk_impl_monthStart)], narrowed := true }
def FnExactDateOfUptoSaid : Prop := fnExactDateOfUptoRow.holds Tryd.pinned (OpenSpec.upto fnExactDateOfSpec)

/-- 'laws.FnExactAddMonths', WHERE WHAT IT READS IS OF BULK AT MOST 1048576: true; the input reads as it did. -/
def fnExactAddMonthsUptoRow : OpenClaim := { program := "ytgjiogdekihhdaadoor", sum := "2213942418aaa017dff50daec9f07f01e79a0c6e0343bbbc527fa94d4528ecd3", func := "loop.example/bonddesk/laws.FnExactAddMonths", spec := "fnExactAddMonths", named := ["loop.example/bonddesk/impl.monthStart"], apart := false, laid := [("loop.example/bonddesk/impl.monthStart", laid_loop_example_bonddesk_impl_monthStart)], narrowed := true }
def FnExactAddMonthsUptoSaid : Prop := fnExactAddMonthsUptoRow.holds Tryd.pinned (OpenSpec.upto fnExactAddMonthsSpec)

end Rows
end Go.Proofs.YtgjiogdekihhdaaDoor
