/-
  NARROWER THAN 'FOR EVERY INPUT', by the rows' own cells (each row's printed sentence says how): FnAdjustDay: laid · FnAdjustDayNear: laid · FnAddBusiness: laid · FnAdjustDayMonth: laid · FnExactAdjustDay: laid.
  DERIVED. THE GIVEN ROWS OF THIS SEAT. 5 by the template 'for every input the law returns true; each argument reads behind the call as it read before'; 0 by the template 'total and deterministic' (their statements: YtcmmlgpaijfkeaaDoorTotals.lean).
  GIVEN WITH THE SEED: the statements are not yours to turn. If you find one false, say at which input.
  Laid BY PROGRAM, IN A SANDBOX (cutbox-rows.mjs): the forced cells as the released guide's own fill.sh prints them over the translation 9ac09b9206631aec… (all of the seat's roots in one cut). By AI agents, Wed Nov 11 2026. No macro, syntax, notation, axiom, sorry.
-/
import Derived.Test.YtcmmlgpaijfkeaaDoorChecked
import GoSem.Claim
import GoSem.ClaimJoined
import GoSem.ClaimMapViews
import Derived.JoinedTies
import Derived.KernelRfl
namespace Go.Proofs.YtcmmlgpaijfkeaaDoor
/- THE CELL 'sum', in the pinned program and in every row, IS THE sha256 OF THE DUMP (.gsa) THAT YtcmmlgpaijfkeaaDoorProg.lean LOADS. Nothing in Lean hashes anything: it is a label: what it is worth is what the hold of that sum in a sandbox is worth. -/
noncomputable def Tryd.pinned : Pinned := { name := "ytcmmlgpaijfkeaadoor", sum := "9ac09b9206631aec1dd856b3a0a4240ea70cd68862cc96eeb1e55bb0a4efeb09", checked := Tryd.checked }
namespace Rows
def none {H : Type} : Left H := { results := [], args := [] }

/- WHAT THE LISTED PACKAGE-LEVEL VARIABLES READ AS WHEN THE CALL BEGINS. Each datum BY PROGRAM (the guide's laid-datum.mjs) off the statement by which the dump's own 'gosem.cut.vars' lays the variable. In a bare row this is a premise. The card (YtcmmlgpaijfkeaaDoorCards.lean) ties it to the program's text. -/
def laid_loop_example_bonddesk_impl_monthStart {H : Type} : DataW H := .agg [.lit (.int .i64 0), .lit (.int .i64 31), .lit (.int .i64 59), .lit (.int .i64 90), .lit (.int .i64 120), .lit (.int .i64 151), .lit (.int .i64 181), .lit (.int .i64 212), .lit (.int .i64 243), .lit (.int .i64 273), .lit (.int .i64 304), .lit (.int .i64 334), .lit (.int .i64 365)]

/-- 'laws.FnAdjustDay': WHATEVER THE INPUT: true; the input reads as it did. -/
def fnAdjustDaySpec : ChangeSpec := { name := "fnAdjustDay", vars := ["loop.example/bonddesk/impl.monthStart"], fn := fun _ => fun
  | [d, g1] => { results := [.lit (.bool true)], args := [d], vars := [g1] }
  | _ => none }
def fnAdjustDayRow : OpenClaim := { program := "ytcmmlgpaijfkeaadoor", sum := "9ac09b9206631aec1dd856b3a0a4240ea70cd68862cc96eeb1e55bb0a4efeb09", func := "loop.example/bonddesk/laws.FnAdjustDay", spec := "fnAdjustDay", unfollowed := true, recurses := true, named := ["loop.example/bonddesk/impl.monthStart"], apart := false, laid := [("loop.example/bonddesk/impl.monthStart", laid_loop_example_bonddesk_impl_monthStart)] }
def FnAdjustDaySaid : Prop := fnAdjustDayRow.holds Tryd.pinned (OpenSpec.ofChange fnAdjustDaySpec)

/-- ITS FALSE NEIGHBOUR: 'it returns false'. Refute it at one input. -/
def fnAdjustDayWrong : ChangeSpec := { name := "fnAdjustDay", vars := ["loop.example/bonddesk/impl.monthStart"], fn := fun _ => fun
  | [d, g1] => { results := [.lit (.bool false)], args := [d], vars := [g1] }
  | _ => none }
def FnAdjustDayWrongFalsely : Prop := fnAdjustDayRow.holds Tryd.pinned (OpenSpec.ofChange fnAdjustDayWrong)

/-- 'laws.FnAdjustDayNear': WHATEVER THE INPUT: true; the input reads as it did. -/
def fnAdjustDayNearSpec : ChangeSpec := { name := "fnAdjustDayNear", vars := ["loop.example/bonddesk/impl.monthStart"], fn := fun _ => fun
  | [d, g1] => { results := [.lit (.bool true)], args := [d], vars := [g1] }
  | _ => none }
def fnAdjustDayNearRow : OpenClaim := { program := "ytcmmlgpaijfkeaadoor", sum := "9ac09b9206631aec1dd856b3a0a4240ea70cd68862cc96eeb1e55bb0a4efeb09", func := "loop.example/bonddesk/laws.FnAdjustDayNear", spec := "fnAdjustDayNear", unfollowed := true, recurses := true, named := ["loop.example/bonddesk/impl.monthStart"], apart := false, laid := [("loop.example/bonddesk/impl.monthStart", laid_loop_example_bonddesk_impl_monthStart)] }
def FnAdjustDayNearSaid : Prop := fnAdjustDayNearRow.holds Tryd.pinned (OpenSpec.ofChange fnAdjustDayNearSpec)

/-- ITS FALSE NEIGHBOUR: 'it returns false'. Refute it at one input. -/
def fnAdjustDayNearWrong : ChangeSpec := { name := "fnAdjustDayNear", vars := ["loop.example/bonddesk/impl.monthStart"], fn := fun _ => fun
  | [d, g1] => { results := [.lit (.bool false)], args := [d], vars := [g1] }
  | _ => none }
def FnAdjustDayNearWrongFalsely : Prop := fnAdjustDayNearRow.holds Tryd.pinned (OpenSpec.ofChange fnAdjustDayNearWrong)

/-- 'laws.FnAddBusiness': WHATEVER THE INPUT: true; the input reads as it did. -/
def fnAddBusinessSpec : ChangeSpec := { name := "fnAddBusiness", vars := ["loop.example/bonddesk/impl.monthStart"], fn := fun _ => fun
  | [d, g1] => { results := [.lit (.bool true)], args := [d], vars := [g1] }
  | _ => none }
def fnAddBusinessRow : OpenClaim := { program := "ytcmmlgpaijfkeaadoor", sum := "9ac09b9206631aec1dd856b3a0a4240ea70cd68862cc96eeb1e55bb0a4efeb09", func := "loop.example/bonddesk/laws.FnAddBusiness", spec := "fnAddBusiness", unfollowed := true, recurses := true, named := ["loop.example/bonddesk/impl.monthStart"], apart := false, laid := [("loop.example/bonddesk/impl.monthStart", laid_loop_example_bonddesk_impl_monthStart)] }
def FnAddBusinessSaid : Prop := fnAddBusinessRow.holds Tryd.pinned (OpenSpec.ofChange fnAddBusinessSpec)

/-- ITS FALSE NEIGHBOUR: 'it returns false'. Refute it at one input. -/
def fnAddBusinessWrong : ChangeSpec := { name := "fnAddBusiness", vars := ["loop.example/bonddesk/impl.monthStart"], fn := fun _ => fun
  | [d, g1] => { results := [.lit (.bool false)], args := [d], vars := [g1] }
  | _ => none }
def FnAddBusinessWrongFalsely : Prop := fnAddBusinessRow.holds Tryd.pinned (OpenSpec.ofChange fnAddBusinessWrong)

/-- 'laws.FnAdjustDayMonth': WHATEVER THE INPUT: true; the input reads as it did. -/
def fnAdjustDayMonthSpec : ChangeSpec := { name := "fnAdjustDayMonth", vars := ["loop.example/bonddesk/impl.monthStart"], fn := fun _ => fun
  | [d, g1] => { results := [.lit (.bool true)], args := [d], vars := [g1] }
  | _ => none }
def fnAdjustDayMonthRow : OpenClaim := { program := "ytcmmlgpaijfkeaadoor", sum := "9ac09b9206631aec1dd856b3a0a4240ea70cd68862cc96eeb1e55bb0a4efeb09", func := "loop.example/bonddesk/laws.FnAdjustDayMonth", spec := "fnAdjustDayMonth", unfollowed := true, recurses := true, named := ["loop.example/bonddesk/impl.monthStart"], apart := false, laid := [("loop.example/bonddesk/impl.monthStart", laid_loop_example_bonddesk_impl_monthStart)] }
def FnAdjustDayMonthSaid : Prop := fnAdjustDayMonthRow.holds Tryd.pinned (OpenSpec.ofChange fnAdjustDayMonthSpec)

/-- ITS FALSE NEIGHBOUR: 'it returns false'. Refute it at one input. -/
def fnAdjustDayMonthWrong : ChangeSpec := { name := "fnAdjustDayMonth", vars := ["loop.example/bonddesk/impl.monthStart"], fn := fun _ => fun
  | [d, g1] => { results := [.lit (.bool false)], args := [d], vars := [g1] }
  | _ => none }
def FnAdjustDayMonthWrongFalsely : Prop := fnAdjustDayMonthRow.holds Tryd.pinned (OpenSpec.ofChange fnAdjustDayMonthWrong)

/-- 'laws.FnExactAdjustDay': WHATEVER THE INPUT: true; the input reads as it did. -/
def fnExactAdjustDaySpec : ChangeSpec := { name := "fnExactAdjustDay", vars := ["loop.example/bonddesk/impl.monthStart"], fn := fun _ => fun
  | [d1, d2, d3, g1] => { results := [.lit (.bool true)], args := [d1, d2, d3], vars := [g1] }
  | _ => none }
def fnExactAdjustDayRow : OpenClaim := { program := "ytcmmlgpaijfkeaadoor", sum := "9ac09b9206631aec1dd856b3a0a4240ea70cd68862cc96eeb1e55bb0a4efeb09", func := "loop.example/bonddesk/laws.FnExactAdjustDay", spec := "fnExactAdjustDay", unfollowed := true, recurses := true, named := ["loop.example/bonddesk/impl.monthStart"], apart := false, laid := [("loop.example/bonddesk/impl.monthStart", laid_loop_example_bonddesk_impl_monthStart)] }
def FnExactAdjustDaySaid : Prop := fnExactAdjustDayRow.holds Tryd.pinned (OpenSpec.ofChange fnExactAdjustDaySpec)

/-- ITS FALSE NEIGHBOUR: 'it returns false'. Refute it at one input. -/
def fnExactAdjustDayWrong : ChangeSpec := { name := "fnExactAdjustDay", vars := ["loop.example/bonddesk/impl.monthStart"], fn := fun _ => fun
  | [d1, d2, d3, g1] => { results := [.lit (.bool false)], args := [d1, d2, d3], vars := [g1] }
  | _ => none }
def FnExactAdjustDayWrongFalsely : Prop := fnExactAdjustDayRow.holds Tryd.pinned (OpenSpec.ofChange fnExactAdjustDayWrong)

/- THE SECOND FORM. 'bulk': how many values and letters a reading holds, each counted each time it is reached (what is shared counts as often as it is met; a slice's spare places count too). A statement '..UptoSaid' is the law's where the arguments, and the package variables that the reading takes, are together of bulk at most 1048576: NARROWER than '..Said'. Prove '..Said' where nothing that the law and all that it calls make is longer than what came in: it says more and counts as full. Else prove '..UptoSaid'. A law counts once. -/
mutual
def uptoBulk {H : Type} : DataW H → Nat
  | .lit (.string bytes) => bytes.length + 1
  | .lit _ => 1
  | .nil => 1
  | .ptr d => uptoBulk d + 1
  | .slice elems spare => uptoBulkAll elems + uptoBulkAll spare + 1
  | .agg parts => uptoBulkAll parts + 1
  | .iface _ d => uptoBulk d + 1
  | .map entries => uptoBulkEntries entries + 1
  | .held _ => 1
def uptoBulkAll {H : Type} : List (DataW H) → Nat
  | [] => 0
  | d :: r => uptoBulk d + uptoBulkAll r
def uptoBulkEntries {H : Type} : List (Lit × DataW H) → Nat
  | [] => 0
  | x :: r => uptoBulkEntry x + uptoBulkEntries r
def uptoBulkEntry {H : Type} : Lit × DataW H → Nat
  | (.string bytes, d) => bytes.length + uptoBulk d + 1
  | (_, d) => uptoBulk d + 1
 end
def uptoSmall : (H : Type) → List (DataW H) → Bool := fun _ ds => decide (uptoBulkAll ds ≤ 1048576)
def OpenSpec.upto (s : _root_.Go.ChangeSpec) : _root_.Go.OpenSpec := { _root_.Go.OpenSpec.ofChange s with cond := some uptoSmall }

/-- 'laws.FnAdjustDay', WHERE WHAT IT READS IS OF BULK AT MOST 1048576: true; the input reads as it did. -/
def fnAdjustDayUptoRow : OpenClaim := { program := "ytcmmlgpaijfkeaadoor", sum := "9ac09b9206631aec1dd856b3a0a4240ea70cd68862cc96eeb1e55bb0a4efeb09", func := "loop.example/bonddesk/laws.FnAdjustDay", spec := "fnAdjustDay", unfollowed := true, recurses := true, named := ["loop.example/bonddesk/impl.monthStart"], apart := false, laid := [("loop.example/bonddesk/impl.monthStart", laid_loop_example_bonddesk_impl_monthStart)], narrowed := true }
def FnAdjustDayUptoSaid : Prop := fnAdjustDayUptoRow.holds Tryd.pinned (OpenSpec.upto fnAdjustDaySpec)

/-- 'laws.FnAdjustDayNear', WHERE WHAT IT READS IS OF BULK AT MOST 1048576: true; the input reads as it did. -/
def fnAdjustDayNearUptoRow : OpenClaim := { program := "ytcmmlgpaijfkeaadoor", sum := "9ac09b9206631aec1dd856b3a0a4240ea70cd68862cc96eeb1e55bb0a4efeb09", func := "loop.example/bonddesk/laws.FnAdjustDayNear", spec := "fnAdjustDayNear", unfollowed := true, recurses := true, named := ["loop.example/bonddesk/impl.monthStart"], apart := false, laid := [("loop.example/bonddesk/impl.monthStart", laid_loop_example_bonddesk_impl_monthStart)], narrowed := true }
def FnAdjustDayNearUptoSaid : Prop := fnAdjustDayNearUptoRow.holds Tryd.pinned (OpenSpec.upto fnAdjustDayNearSpec)

/-- 'laws.FnAddBusiness', WHERE WHAT IT READS IS OF BULK AT MOST 1048576: true; the input reads as it did. -/
def fnAddBusinessUptoRow : OpenClaim := { program := "ytcmmlgpaijfkeaadoor", sum := "9ac09b9206631aec1dd856b3a0a4240ea70cd68862cc96eeb1e55bb0a4efeb09", func := "loop.example/bonddesk/laws.FnAddBusiness", spec := "fnAddBusiness", unfollowed := true, recurses := true, named := ["loop.example/bonddesk/impl.monthStart"], apart := false, laid := [("loop.example/bonddesk/impl.monthStart", laid_loop_example_bonddesk_impl_monthStart)], narrowed := true }
def FnAddBusinessUptoSaid : Prop := fnAddBusinessUptoRow.holds Tryd.pinned (OpenSpec.upto fnAddBusinessSpec)

/-- 'laws.FnAdjustDayMonth', WHERE WHAT IT READS IS OF BULK AT MOST 1048576: true; the input reads as it did. -/
def fnAdjustDayMonthUptoRow : OpenClaim := { program := "ytcmmlgpaijfkeaadoor", sum := "9ac09b9206631aec1dd856b3a0a4240ea70cd68862cc96eeb1e55bb0a4efeb09", func := "loop.example/bonddesk/laws.FnAdjustDayMonth", spec := "fnAdjustDayMonth", unfollowed := true, recurses := true, named := ["loop.example/bonddesk/impl.monthStart"], apart := false, laid := [("loop.example/bonddesk/impl.monthStart", laid_loop_example_bonddesk_impl_monthStart)], narrowed := true }
def FnAdjustDayMonthUptoSaid : Prop := fnAdjustDayMonthUptoRow.holds Tryd.pinned (OpenSpec.upto fnAdjustDayMonthSpec)

/-- 'laws.FnExactAdjustDay', WHERE WHAT IT READS IS OF BULK AT MOST 1048576: true; the input reads as it did. -/
def fnExactAdjustDayUptoRow : OpenClaim := { program := "ytcmmlgpaijfkeaadoor", sum := "9ac09b9206631aec1dd856b3a0a4240ea70cd68862cc96eeb1e55bb0a4efeb09", func := "loop.example/bonddesk/laws.FnExactAdjustDay", spec := "fnExactAdjustDay", unfollowed := true, recurses := true, named := ["loop.example/bonddesk/impl.monthStart"], apart := false, laid := [("loop.example/bonddesk/impl.monthStart", laid_loop_example_bonddesk_impl_monthStart)], narrowed := true }
def FnExactAdjustDayUptoSaid : Prop := fnExactAdjustDayUptoRow.holds Tryd.pinned (OpenSpec.upto fnExactAdjustDaySpec)

end Rows
end Go.Proofs.YtcmmlgpaijfkeaaDoor
