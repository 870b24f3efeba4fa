/-
  NARROWER THAN 'FOR EVERY INPUT', by the rows' own cells (each row's printed sentence says how): FnYearPart: laid · FnYearPartYear: laid · FnYearPartSum: laid · FnInterestOf: laid · FnInterestOfDouble: laid · FnScheduleOf: laid · FnScheduleOfEnd: laid · FnYearPartMoney: laid · FnScheduleOfWhole: laid · FnScheduleOfFiner: laid · FnExactYearPart: laid · FnExactInterestOf: laid · FnExactScheduleOf: laid.
  DERIVED. THE GIVEN ROWS OF THIS SEAT. 13 by the template 'for every input the law returns true; each argument reads behind the call as it read before'; 0 by the template 'total and deterministic' (their statements: YtpbcfffhhdojmaaDoorTotals.lean).
  GIVEN WITH THE SEED: the statements are not yours to turn. If you find one false, say at which input.
  Laid BY PROGRAM, IN A SANDBOX (cutbox-rows.mjs): the forced cells as the released guide's own fill.sh prints them over the translation 40a8023a877be875… (all of the seat's roots in one cut). By AI agents, Wed Nov 11 2026. No macro, syntax, notation, axiom, sorry.
-/
import Derived.Test.YtpbcfffhhdojmaaDoorChecked
import GoSem.Claim
import GoSem.ClaimJoined
import GoSem.ClaimMapViews
import Derived.JoinedTies
import Derived.KernelRfl
namespace Go.Proofs.YtpbcfffhhdojmaaDoor
/- THE CELL 'sum', in the pinned program and in every row, IS THE sha256 OF THE DUMP (.gsa) THAT YtpbcfffhhdojmaaDoorProg.lean LOADS. Nothing in Lean hashes anything: it is a label: what it is worth is what the hold of that sum in a sandbox is worth. -/
noncomputable def Tryd.pinned : Pinned := { name := "ytpbcfffhhdojmaadoor", sum := "40a8023a877be875245cebb8d0d8519b78fcb0d44aab32b44f80bb3ee5f8739e", checked := Tryd.checked }
namespace Rows
def none {H : Type} : Left H := { results := [], args := [] }

/- WHAT THE LISTED PACKAGE-LEVEL VARIABLES READ AS WHEN THE CALL BEGINS. Each datum BY PROGRAM (the guide's laid-datum.mjs) off the statement by which the dump's own 'gosem.cut.vars' lays the variable. In a bare row this is a premise. The card (YtpbcfffhhdojmaaDoorCards.lean) ties it to the program's text. -/
def laid_loop_example_bonddesk_impl_monthStart {H : Type} : DataW H := .agg [.lit (.int .i64 0), .lit (.int .i64 31), .lit (.int .i64 59), .lit (.int .i64 90), .lit (.int .i64 120), .lit (.int .i64 151), .lit (.int .i64 181), .lit (.int .i64 212), .lit (.int .i64 243), .lit (.int .i64 273), .lit (.int .i64 304), .lit (.int .i64 334), .lit (.int .i64 365)]

/-- 'laws.FnYearPart': WHATEVER THE INPUT: true; the input reads as it did. -/
def fnYearPartSpec : ChangeSpec := { name := "fnYearPart", vars := ["loop.example/bonddesk/impl.monthStart"], fn := fun _ => fun
  | [d, g1] => { results := [.lit (.bool true)], args := [d], vars := [g1] }
  | _ => none }
def fnYearPartRow : OpenClaim := { program := "ytpbcfffhhdojmaadoor", sum := "40a8023a877be875245cebb8d0d8519b78fcb0d44aab32b44f80bb3ee5f8739e", func := "loop.example/bonddesk/laws.FnYearPart", spec := "fnYearPart", unfollowed := true, recurses := true, named := ["loop.example/bonddesk/impl.monthStart"], apart := false, laid := [("loop.example/bonddesk/impl.monthStart", laid_loop_example_bonddesk_impl_monthStart)] }
def FnYearPartSaid : Prop := fnYearPartRow.holds Tryd.pinned (OpenSpec.ofChange fnYearPartSpec)

/-- ITS FALSE NEIGHBOUR: 'it returns false'. Refute it at one input. -/
def fnYearPartWrong : ChangeSpec := { name := "fnYearPart", vars := ["loop.example/bonddesk/impl.monthStart"], fn := fun _ => fun
  | [d, g1] => { results := [.lit (.bool false)], args := [d], vars := [g1] }
  | _ => none }
def FnYearPartWrongFalsely : Prop := fnYearPartRow.holds Tryd.pinned (OpenSpec.ofChange fnYearPartWrong)

/-- 'laws.FnYearPartYear': WHATEVER THE INPUT: true; the input reads as it did. -/
def fnYearPartYearSpec : ChangeSpec := { name := "fnYearPartYear", vars := ["loop.example/bonddesk/impl.monthStart"], fn := fun _ => fun
  | [d, g1] => { results := [.lit (.bool true)], args := [d], vars := [g1] }
  | _ => none }
def fnYearPartYearRow : OpenClaim := { program := "ytpbcfffhhdojmaadoor", sum := "40a8023a877be875245cebb8d0d8519b78fcb0d44aab32b44f80bb3ee5f8739e", func := "loop.example/bonddesk/laws.FnYearPartYear", spec := "fnYearPartYear", unfollowed := true, recurses := true, named := ["loop.example/bonddesk/impl.monthStart"], apart := false, laid := [("loop.example/bonddesk/impl.monthStart", laid_loop_example_bonddesk_impl_monthStart)] }
def FnYearPartYearSaid : Prop := fnYearPartYearRow.holds Tryd.pinned (OpenSpec.ofChange fnYearPartYearSpec)

/-- ITS FALSE NEIGHBOUR: 'it returns false'. Refute it at one input. -/
def fnYearPartYearWrong : ChangeSpec := { name := "fnYearPartYear", vars := ["loop.example/bonddesk/impl.monthStart"], fn := fun _ => fun
  | [d, g1] => { results := [.lit (.bool false)], args := [d], vars := [g1] }
  | _ => none }
def FnYearPartYearWrongFalsely : Prop := fnYearPartYearRow.holds Tryd.pinned (OpenSpec.ofChange fnYearPartYearWrong)

/-- 'laws.FnYearPartSum': WHATEVER THE INPUT: true; the input reads as it did. -/
def fnYearPartSumSpec : ChangeSpec := { name := "fnYearPartSum", vars := ["loop.example/bonddesk/impl.monthStart"], fn := fun _ => fun
  | [d, g1] => { results := [.lit (.bool true)], args := [d], vars := [g1] }
  | _ => none }
def fnYearPartSumRow : OpenClaim := { program := "ytpbcfffhhdojmaadoor", sum := "40a8023a877be875245cebb8d0d8519b78fcb0d44aab32b44f80bb3ee5f8739e", func := "loop.example/bonddesk/laws.FnYearPartSum", spec := "fnYearPartSum", unfollowed := true, recurses := true, named := ["loop.example/bonddesk/impl.monthStart"], apart := false, laid := [("loop.example/bonddesk/impl.monthStart", laid_loop_example_bonddesk_impl_monthStart)] }
def FnYearPartSumSaid : Prop := fnYearPartSumRow.holds Tryd.pinned (OpenSpec.ofChange fnYearPartSumSpec)

/-- ITS FALSE NEIGHBOUR: 'it returns false'. Refute it at one input. -/
def fnYearPartSumWrong : ChangeSpec := { name := "fnYearPartSum", vars := ["loop.example/bonddesk/impl.monthStart"], fn := fun _ => fun
  | [d, g1] => { results := [.lit (.bool false)], args := [d], vars := [g1] }
  | _ => none }
def FnYearPartSumWrongFalsely : Prop := fnYearPartSumRow.holds Tryd.pinned (OpenSpec.ofChange fnYearPartSumWrong)

/-- 'laws.FnInterestOf': WHATEVER THE INPUT: true; the input reads as it did. -/
def fnInterestOfSpec : ChangeSpec := { name := "fnInterestOf", vars := ["loop.example/bonddesk/impl.monthStart"], fn := fun _ => fun
  | [d, g1] => { results := [.lit (.bool true)], args := [d], vars := [g1] }
  | _ => none }
def fnInterestOfRow : OpenClaim := { program := "ytpbcfffhhdojmaadoor", sum := "40a8023a877be875245cebb8d0d8519b78fcb0d44aab32b44f80bb3ee5f8739e", func := "loop.example/bonddesk/laws.FnInterestOf", spec := "fnInterestOf", unfollowed := true, recurses := true, named := ["loop.example/bonddesk/impl.monthStart"], apart := false, laid := [("loop.example/bonddesk/impl.monthStart", laid_loop_example_bonddesk_impl_monthStart)] }
def FnInterestOfSaid : Prop := fnInterestOfRow.holds Tryd.pinned (OpenSpec.ofChange fnInterestOfSpec)

/-- ITS FALSE NEIGHBOUR: 'it returns false'. Refute it at one input. -/
def fnInterestOfWrong : ChangeSpec := { name := "fnInterestOf", vars := ["loop.example/bonddesk/impl.monthStart"], fn := fun _ => fun
  | [d, g1] => { results := [.lit (.bool false)], args := [d], vars := [g1] }
  | _ => none }
def FnInterestOfWrongFalsely : Prop := fnInterestOfRow.holds Tryd.pinned (OpenSpec.ofChange fnInterestOfWrong)

/-- 'laws.FnInterestOfDouble': WHATEVER THE INPUT: true; the input reads as it did. -/
def fnInterestOfDoubleSpec : ChangeSpec := { name := "fnInterestOfDouble", vars := ["loop.example/bonddesk/impl.monthStart"], fn := fun _ => fun
  | [d, g1] => { results := [.lit (.bool true)], args := [d], vars := [g1] }
  | _ => none }
def fnInterestOfDoubleRow : OpenClaim := { program := "ytpbcfffhhdojmaadoor", sum := "40a8023a877be875245cebb8d0d8519b78fcb0d44aab32b44f80bb3ee5f8739e", func := "loop.example/bonddesk/laws.FnInterestOfDouble", spec := "fnInterestOfDouble", unfollowed := true, recurses := true, named := ["loop.example/bonddesk/impl.monthStart"], apart := false, laid := [("loop.example/bonddesk/impl.monthStart", laid_loop_example_bonddesk_impl_monthStart)] }
def FnInterestOfDoubleSaid : Prop := fnInterestOfDoubleRow.holds Tryd.pinned (OpenSpec.ofChange fnInterestOfDoubleSpec)

/-- ITS FALSE NEIGHBOUR: 'it returns false'. Refute it at one input. -/
def fnInterestOfDoubleWrong : ChangeSpec := { name := "fnInterestOfDouble", vars := ["loop.example/bonddesk/impl.monthStart"], fn := fun _ => fun
  | [d, g1] => { results := [.lit (.bool false)], args := [d], vars := [g1] }
  | _ => none }
def FnInterestOfDoubleWrongFalsely : Prop := fnInterestOfDoubleRow.holds Tryd.pinned (OpenSpec.ofChange fnInterestOfDoubleWrong)

/-- 'laws.FnScheduleOf': WHATEVER THE INPUT: true; the input reads as it did. -/
def fnScheduleOfSpec : ChangeSpec := { name := "fnScheduleOf", vars := ["loop.example/bonddesk/impl.monthStart"], fn := fun _ => fun
  | [d, g1] => { results := [.lit (.bool true)], args := [d], vars := [g1] }
  | _ => none }
def fnScheduleOfRow : OpenClaim := { program := "ytpbcfffhhdojmaadoor", sum := "40a8023a877be875245cebb8d0d8519b78fcb0d44aab32b44f80bb3ee5f8739e", func := "loop.example/bonddesk/laws.FnScheduleOf", spec := "fnScheduleOf", unfollowed := true, recurses := true, named := ["loop.example/bonddesk/impl.monthStart"], apart := false, laid := [("loop.example/bonddesk/impl.monthStart", laid_loop_example_bonddesk_impl_monthStart)] }
def FnScheduleOfSaid : Prop := fnScheduleOfRow.holds Tryd.pinned (OpenSpec.ofChange fnScheduleOfSpec)

/-- ITS FALSE NEIGHBOUR: 'it returns false'. Refute it at one input. -/
def fnScheduleOfWrong : ChangeSpec := { name := "fnScheduleOf", vars := ["loop.example/bonddesk/impl.monthStart"], fn := fun _ => fun
  | [d, g1] => { results := [.lit (.bool false)], args := [d], vars := [g1] }
  | _ => none }
def FnScheduleOfWrongFalsely : Prop := fnScheduleOfRow.holds Tryd.pinned (OpenSpec.ofChange fnScheduleOfWrong)

/-- 'laws.FnScheduleOfEnd': WHATEVER THE INPUT: true; the input reads as it did. -/
def fnScheduleOfEndSpec : ChangeSpec := { name := "fnScheduleOfEnd", vars := ["loop.example/bonddesk/impl.monthStart"], fn := fun _ => fun
  | [d, g1] => { results := [.lit (.bool true)], args := [d], vars := [g1] }
  | _ => none }
def fnScheduleOfEndRow : OpenClaim := { program := "ytpbcfffhhdojmaadoor", sum := "40a8023a877be875245cebb8d0d8519b78fcb0d44aab32b44f80bb3ee5f8739e", func := "loop.example/bonddesk/laws.FnScheduleOfEnd", spec := "fnScheduleOfEnd", unfollowed := true, recurses := true, named := ["loop.example/bonddesk/impl.monthStart"], apart := false, laid := [("loop.example/bonddesk/impl.monthStart", laid_loop_example_bonddesk_impl_monthStart)] }
def FnScheduleOfEndSaid : Prop := fnScheduleOfEndRow.holds Tryd.pinned (OpenSpec.ofChange fnScheduleOfEndSpec)

/-- ITS FALSE NEIGHBOUR: 'it returns false'. Refute it at one input. -/
def fnScheduleOfEndWrong : ChangeSpec := { name := "fnScheduleOfEnd", vars := ["loop.example/bonddesk/impl.monthStart"], fn := fun _ => fun
  | [d, g1] => { results := [.lit (.bool false)], args := [d], vars := [g1] }
  | _ => none }
def FnScheduleOfEndWrongFalsely : Prop := fnScheduleOfEndRow.holds Tryd.pinned (OpenSpec.ofChange fnScheduleOfEndWrong)

/-- 'laws.FnYearPartMoney': WHATEVER THE INPUT: true; the input reads as it did. -/
def fnYearPartMoneySpec : ChangeSpec := { name := "fnYearPartMoney", vars := ["loop.example/bonddesk/impl.monthStart"], fn := fun _ => fun
  | [d, g1] => { results := [.lit (.bool true)], args := [d], vars := [g1] }
  | _ => none }
def fnYearPartMoneyRow : OpenClaim := { program := "ytpbcfffhhdojmaadoor", sum := "40a8023a877be875245cebb8d0d8519b78fcb0d44aab32b44f80bb3ee5f8739e", func := "loop.example/bonddesk/laws.FnYearPartMoney", spec := "fnYearPartMoney", unfollowed := true, recurses := true, named := ["loop.example/bonddesk/impl.monthStart"], apart := false, laid := [("loop.example/bonddesk/impl.monthStart", laid_loop_example_bonddesk_impl_monthStart)] }
def FnYearPartMoneySaid : Prop := fnYearPartMoneyRow.holds Tryd.pinned (OpenSpec.ofChange fnYearPartMoneySpec)

/-- ITS FALSE NEIGHBOUR: 'it returns false'. Refute it at one input. -/
def fnYearPartMoneyWrong : ChangeSpec := { name := "fnYearPartMoney", vars := ["loop.example/bonddesk/impl.monthStart"], fn := fun _ => fun
  | [d, g1] => { results := [.lit (.bool false)], args := [d], vars := [g1] }
  | _ => none }
def FnYearPartMoneyWrongFalsely : Prop := fnYearPartMoneyRow.holds Tryd.pinned (OpenSpec.ofChange fnYearPartMoneyWrong)

/-- 'laws.FnScheduleOfWhole': WHATEVER THE INPUT: true; the input reads as it did. -/
def fnScheduleOfWholeSpec : ChangeSpec := { name := "fnScheduleOfWhole", vars := ["loop.example/bonddesk/impl.monthStart"], fn := fun _ => fun
  | [d, g1] => { results := [.lit (.bool true)], args := [d], vars := [g1] }
  | _ => none }
def fnScheduleOfWholeRow : OpenClaim := { program := "ytpbcfffhhdojmaadoor", sum := "40a8023a877be875245cebb8d0d8519b78fcb0d44aab32b44f80bb3ee5f8739e", func := "loop.example/bonddesk/laws.FnScheduleOfWhole", spec := "fnScheduleOfWhole", unfollowed := true, recurses := true, named := ["loop.example/bonddesk/impl.monthStart"], apart := false, laid := [("loop.example/bonddesk/impl.monthStart", laid_loop_example_bonddesk_impl_monthStart)] }
def FnScheduleOfWholeSaid : Prop := fnScheduleOfWholeRow.holds Tryd.pinned (OpenSpec.ofChange fnScheduleOfWholeSpec)

/-- ITS FALSE NEIGHBOUR: 'it returns false'. Refute it at one input. -/
def fnScheduleOfWholeWrong : ChangeSpec := { name := "fnScheduleOfWhole", vars := ["loop.example/bonddesk/impl.monthStart"], fn := fun _ => fun
  | [d, g1] => { results := [.lit (.bool false)], args := [d], vars := [g1] }
  | _ => none }
def FnScheduleOfWholeWrongFalsely : Prop := fnScheduleOfWholeRow.holds Tryd.pinned (OpenSpec.ofChange fnScheduleOfWholeWrong)

/-- 'laws.FnScheduleOfFiner': WHATEVER THE INPUT: true; the input reads as it did. -/
def fnScheduleOfFinerSpec : ChangeSpec := { name := "fnScheduleOfFiner", vars := ["loop.example/bonddesk/impl.monthStart"], fn := fun _ => fun
  | [d, g1] => { results := [.lit (.bool true)], args := [d], vars := [g1] }
  | _ => none }
def fnScheduleOfFinerRow : OpenClaim := { program := "ytpbcfffhhdojmaadoor", sum := "40a8023a877be875245cebb8d0d8519b78fcb0d44aab32b44f80bb3ee5f8739e", func := "loop.example/bonddesk/laws.FnScheduleOfFiner", spec := "fnScheduleOfFiner", unfollowed := true, recurses := true, named := ["loop.example/bonddesk/impl.monthStart"], apart := false, laid := [("loop.example/bonddesk/impl.monthStart", laid_loop_example_bonddesk_impl_monthStart)] }
def FnScheduleOfFinerSaid : Prop := fnScheduleOfFinerRow.holds Tryd.pinned (OpenSpec.ofChange fnScheduleOfFinerSpec)

/-- ITS FALSE NEIGHBOUR: 'it returns false'. Refute it at one input. -/
def fnScheduleOfFinerWrong : ChangeSpec := { name := "fnScheduleOfFiner", vars := ["loop.example/bonddesk/impl.monthStart"], fn := fun _ => fun
  | [d, g1] => { results := [.lit (.bool false)], args := [d], vars := [g1] }
  | _ => none }
def FnScheduleOfFinerWrongFalsely : Prop := fnScheduleOfFinerRow.holds Tryd.pinned (OpenSpec.ofChange fnScheduleOfFinerWrong)

/-- 'laws.FnExactYearPart': WHATEVER THE INPUT: true; the input reads as it did. -/
def fnExactYearPartSpec : ChangeSpec := { name := "fnExactYearPart", vars := ["loop.example/bonddesk/impl.monthStart"], fn := fun _ => fun
  | [d1, d2, d3, g1] => { results := [.lit (.bool true)], args := [d1, d2, d3], vars := [g1] }
  | _ => none }
def fnExactYearPartRow : OpenClaim := { program := "ytpbcfffhhdojmaadoor", sum := "40a8023a877be875245cebb8d0d8519b78fcb0d44aab32b44f80bb3ee5f8739e", func := "loop.example/bonddesk/laws.FnExactYearPart", spec := "fnExactYearPart", unfollowed := true, recurses := true, named := ["loop.example/bonddesk/impl.monthStart"], apart := false, laid := [("loop.example/bonddesk/impl.monthStart", laid_loop_example_bonddesk_impl_monthStart)] }
def FnExactYearPartSaid : Prop := fnExactYearPartRow.holds Tryd.pinned (OpenSpec.ofChange fnExactYearPartSpec)

/-- ITS FALSE NEIGHBOUR: 'it returns false'. Refute it at one input. -/
def fnExactYearPartWrong : ChangeSpec := { name := "fnExactYearPart", vars := ["loop.example/bonddesk/impl.monthStart"], fn := fun _ => fun
  | [d1, d2, d3, g1] => { results := [.lit (.bool false)], args := [d1, d2, d3], vars := [g1] }
  | _ => none }
def FnExactYearPartWrongFalsely : Prop := fnExactYearPartRow.holds Tryd.pinned (OpenSpec.ofChange fnExactYearPartWrong)

/-- 'laws.FnExactInterestOf': WHATEVER THE INPUT: true; the input reads as it did. -/
def fnExactInterestOfSpec : ChangeSpec := { name := "fnExactInterestOf", vars := ["loop.example/bonddesk/impl.monthStart"], fn := fun _ => fun
  | [d1, d2, d3, d4, d5, g1] => { results := [.lit (.bool true)], args := [d1, d2, d3, d4, d5], vars := [g1] }
  | _ => none }
def fnExactInterestOfRow : OpenClaim := { program := "ytpbcfffhhdojmaadoor", sum := "40a8023a877be875245cebb8d0d8519b78fcb0d44aab32b44f80bb3ee5f8739e", func := "loop.example/bonddesk/laws.FnExactInterestOf", spec := "fnExactInterestOf", unfollowed := true, recurses := true, named := ["loop.example/bonddesk/impl.monthStart"], apart := false, laid := [("loop.example/bonddesk/impl.monthStart", laid_loop_example_bonddesk_impl_monthStart)] }
def FnExactInterestOfSaid : Prop := fnExactInterestOfRow.holds Tryd.pinned (OpenSpec.ofChange fnExactInterestOfSpec)

/-- ITS FALSE NEIGHBOUR: 'it returns false'. Refute it at one input. -/
def fnExactInterestOfWrong : ChangeSpec := { name := "fnExactInterestOf", vars := ["loop.example/bonddesk/impl.monthStart"], fn := fun _ => fun
  | [d1, d2, d3, d4, d5, g1] => { results := [.lit (.bool false)], args := [d1, d2, d3, d4, d5], vars := [g1] }
  | _ => none }
def FnExactInterestOfWrongFalsely : Prop := fnExactInterestOfRow.holds Tryd.pinned (OpenSpec.ofChange fnExactInterestOfWrong)

/-- 'laws.FnExactScheduleOf': WHATEVER THE INPUT: true; the input reads as it did. -/
def fnExactScheduleOfSpec : ChangeSpec := { name := "fnExactScheduleOf", vars := ["loop.example/bonddesk/impl.monthStart"], fn := fun _ => fun
  | [d1, d2, d3, g1] => { results := [.lit (.bool true)], args := [d1, d2, d3], vars := [g1] }
  | _ => none }
def fnExactScheduleOfRow : OpenClaim := { program := "ytpbcfffhhdojmaadoor", sum := "40a8023a877be875245cebb8d0d8519b78fcb0d44aab32b44f80bb3ee5f8739e", func := "loop.example/bonddesk/laws.FnExactScheduleOf", spec := "fnExactScheduleOf", unfollowed := true, recurses := true, named := ["loop.example/bonddesk/impl.monthStart"], apart := false, laid := [("loop.example/bonddesk/impl.monthStart", laid_loop_example_bonddesk_impl_monthStart)] }
def FnExactScheduleOfSaid : Prop := fnExactScheduleOfRow.holds Tryd.pinned (OpenSpec.ofChange fnExactScheduleOfSpec)

/-- ITS FALSE NEIGHBOUR: 'it returns false'. Refute it at one input. -/
def fnExactScheduleOfWrong : ChangeSpec := { name := "fnExactScheduleOf", vars := ["loop.example/bonddesk/impl.monthStart"], fn := fun _ => fun
  | [d1, d2, d3, g1] => { results := [.lit (.bool false)], args := [d1, d2, d3], vars := [g1] }
  | _ => none }
def FnExactScheduleOfWrongFalsely : Prop := fnExactScheduleOfRow.holds Tryd.pinned (OpenSpec.ofChange fnExactScheduleOfWrong)

/- THE SECOND FORM. 'bulk': how many values and letters a reading holds, each counted each time it is reached (what is shared counts as often as it is met; a slice's spare places count too). A statement '..UptoSaid' is the law's where the arguments, and the package variables that the reading takes, are together of bulk at most 1048576: NARROWER than '..Said'. Prove '..Said' where nothing that the law and all that it calls make is longer than what came in: it says more and counts as full. Else prove '..UptoSaid'. A law counts once. -/
mutual
def uptoBulk {H : Type} : DataW H → Nat
  | .lit (.string bytes) => bytes.length + 1
  | .lit _ => 1
  | .nil => 1
  | .ptr d => uptoBulk d + 1
  | .slice elems spare => uptoBulkAll elems + uptoBulkAll spare + 1
  | .agg parts => uptoBulkAll parts + 1
  | .iface _ d => uptoBulk d + 1
  | .map entries => uptoBulkEntries entries + 1
  | .held _ => 1
def uptoBulkAll {H : Type} : List (DataW H) → Nat
  | [] => 0
  | d :: r => uptoBulk d + uptoBulkAll r
def uptoBulkEntries {H : Type} : List (Lit × DataW H) → Nat
  | [] => 0
  | x :: r => uptoBulkEntry x + uptoBulkEntries r
def uptoBulkEntry {H : Type} : Lit × DataW H → Nat
  | (.string bytes, d) => bytes.length + uptoBulk d + 1
  | (_, d) => uptoBulk d + 1
 end
def uptoSmall : (H : Type) → List (DataW H) → Bool := fun _ ds => decide (uptoBulkAll ds ≤ 1048576)
def OpenSpec.upto (s : _root_.Go.ChangeSpec) : _root_.Go.OpenSpec := { _root_.Go.OpenSpec.ofChange s with cond := some uptoSmall }

/-- 'laws.FnYearPart', WHERE WHAT IT READS IS OF BULK AT MOST 1048576: true; the input reads as it did. -/
def fnYearPartUptoRow : OpenClaim := { program := "ytpbcfffhhdojmaadoor", sum := "40a8023a877be875245cebb8d0d8519b78fcb0d44aab32b44f80bb3ee5f8739e", func := "loop.example/bonddesk/laws.FnYearPart", spec := "fnYearPart", unfollowed := true, recurses := true, named := ["loop.example/bonddesk/impl.monthStart"], apart := false, laid := [("loop.example/bonddesk/impl.monthStart", laid_loop_example_bonddesk_impl_monthStart)], narrowed := true }
def FnYearPartUptoSaid : Prop := fnYearPartUptoRow.holds Tryd.pinned (OpenSpec.upto fnYearPartSpec)

/-- 'laws.FnYearPartYear', WHERE WHAT IT READS IS OF BULK AT MOST 1048576: true; the input reads as it did. -/
def fnYearPartYearUptoRow : OpenClaim := { program := "ytpbcfffhhdojmaadoor", sum := "40a8023a877be875245cebb8d0d8519b78fcb0d44aab32b44f80bb3ee5f8739e", func := "loop.example/bonddesk/laws.FnYearPartYear", spec := "fnYearPartYear", unfollowed := true, recurses := true, named := ["loop.example/bonddesk/impl.monthStart"], apart := false, laid := [("loop.example/bonddesk/impl.monthStart", laid_loop_example_bonddesk_impl_monthStart)], narrowed := true }
def FnYearPartYearUptoSaid : Prop := fnYearPartYearUptoRow.holds Tryd.pinned (OpenSpec.upto fnYearPartYearSpec)

/-- 'laws.FnYearPartSum', WHERE WHAT IT READS IS OF BULK AT MOST 1048576: true; the input reads as it did. -/
def fnYearPartSumUptoRow : OpenClaim := { program := "ytpbcfffhhdojmaadoor", sum := "40a8023a877be875245cebb8d0d8519b78fcb0d44aab32b44f80bb3ee5f8739e", func := "loop.example/bonddesk/laws.FnYearPartSum", spec := "fnYearPartSum", unfollowed := true, recurses := true, named := ["loop.example/bonddesk/impl.monthStart"], apart := false, laid := [("loop.example/bonddesk/impl.monthStart", laid_loop_example_bonddesk_impl_monthStart)], narrowed := true }
def FnYearPartSumUptoSaid : Prop := fnYearPartSumUptoRow.holds Tryd.pinned (OpenSpec.upto fnYearPartSumSpec)

/-- 'laws.FnInterestOf', WHERE WHAT IT READS IS OF BULK AT MOST 1048576: true; the input reads as it did. -/
def fnInterestOfUptoRow : OpenClaim := { program := "ytpbcfffhhdojmaadoor", sum := "40a8023a877be875245cebb8d0d8519b78fcb0d44aab32b44f80bb3ee5f8739e", func := "loop.example/bonddesk/laws.FnInterestOf", spec := "fnInterestOf", unfollowed := true, recurses := true, named := ["loop.example/bonddesk/impl.monthStart"], apart := false, laid := [("loop.example/bonddesk/impl.monthStart", laid_loop_example_bonddesk_impl_monthStart)], narrowed := true }
def FnInterestOfUptoSaid : Prop := fnInterestOfUptoRow.holds Tryd.pinned (OpenSpec.upto fnInterestOfSpec)

/-- 'laws.FnInterestOfDouble', WHERE WHAT IT READS IS OF BULK AT MOST 1048576: true; the input reads as it did. -/
def fnInterestOfDoubleUptoRow : OpenClaim := { program := "ytpbcfffhhdojmaadoor", sum := "40a8023a877be875245cebb8d0d8519b78fcb0d44aab32b44f80bb3ee5f8739e", func := "loop.example/bonddesk/laws.FnInterestOfDouble", spec := "fnInterestOfDouble", unfollowed := true, recurses := true, named := ["loop.example/bonddesk/impl.monthStart"], apart := false, laid := [("loop.example/bonddesk/impl.monthStart", laid_loop_example_bonddesk_impl_monthStart)], narrowed := true }
def FnInterestOfDoubleUptoSaid : Prop := fnInterestOfDoubleUptoRow.holds Tryd.pinned (OpenSpec.upto fnInterestOfDoubleSpec)

/-- 'laws.FnScheduleOf', WHERE WHAT IT READS IS OF BULK AT MOST 1048576: true; the input reads as it did. -/
def fnScheduleOfUptoRow : OpenClaim := { program := "ytpbcfffhhdojmaadoor", sum := "40a8023a877be875245cebb8d0d8519b78fcb0d44aab32b44f80bb3ee5f8739e", func := "loop.example/bonddesk/laws.FnScheduleOf", spec := "fnScheduleOf", unfollowed := true, recurses := true, named := ["loop.example/bonddesk/impl.monthStart"], apart := false, laid := [("loop.example/bonddesk/impl.monthStart", laid_loop_example_bonddesk_impl_monthStart)], narrowed := true }
def FnScheduleOfUptoSaid : Prop := fnScheduleOfUptoRow.holds Tryd.pinned (OpenSpec.upto fnScheduleOfSpec)

/-- 'laws.FnScheduleOfEnd', WHERE WHAT IT READS IS OF BULK AT MOST 1048576: true; the input reads as it did. -/
def fnScheduleOfEndUptoRow : OpenClaim := { program := "ytpbcfffhhdojmaadoor", sum := "40a8023a877be875245cebb8d0d8519b78fcb0d44aab32b44f80bb3ee5f8739e", func := "loop.example/bonddesk/laws.FnScheduleOfEnd", spec := "fnScheduleOfEnd", unfollowed := true, recurses := true, named := ["loop.example/bonddesk/impl.monthStart"], apart := false, laid := [("loop.example/bonddesk/impl.monthStart", laid_loop_example_bonddesk_impl_monthStart)], narrowed := true }
def FnScheduleOfEndUptoSaid : Prop := fnScheduleOfEndUptoRow.holds Tryd.pinned (OpenSpec.upto fnScheduleOfEndSpec)

/-- 'laws.FnYearPartMoney', WHERE WHAT IT READS IS OF BULK AT MOST 1048576: true; the input reads as it did. -/
def fnYearPartMoneyUptoRow : OpenClaim := { program := "ytpbcfffhhdojmaadoor", sum := "40a8023a877be875245cebb8d0d8519b78fcb0d44aab32b44f80bb3ee5f8739e", func := "loop.example/bonddesk/laws.FnYearPartMoney", spec := "fnYearPartMoney", unfollowed := true, recurses := true, named := ["loop.example/bonddesk/impl.monthStart"], apart := false, laid := [("loop.example/bonddesk/impl.monthStart", laid_loop_example_bonddesk_impl_monthStart)], narrowed := true }
def FnYearPartMoneyUptoSaid : Prop := fnYearPartMoneyUptoRow.holds Tryd.pinned (OpenSpec.upto fnYearPartMoneySpec)

/-- 'laws.FnScheduleOfWhole', WHERE WHAT IT READS IS OF BULK AT MOST 1048576: true; the input reads as it did. -/
def fnScheduleOfWholeUptoRow : OpenClaim := { program := "ytpbcfffhhdojmaadoor", sum := "40a8023a877be875245cebb8d0d8519b78fcb0d44aab32b44f80bb3ee5f8739e", func := "loop.example/bonddesk/laws.FnScheduleOfWhole", spec := "fnScheduleOfWhole", unfollowed := true, recurses := true, named := ["loop.example/bonddesk/impl.monthStart"], apart := false, laid := [("loop.example/bonddesk/impl.monthStart", laid_loop_example_bonddesk_impl_monthStart)], narrowed := true }
def FnScheduleOfWholeUptoSaid : Prop := fnScheduleOfWholeUptoRow.holds Tryd.pinned (OpenSpec.upto fnScheduleOfWholeSpec)

/-- 'laws.FnScheduleOfFiner', WHERE WHAT IT READS IS OF BULK AT MOST 1048576: true; the input reads as it did. -/
def fnScheduleOfFinerUptoRow : OpenClaim := { program := "ytpbcfffhhdojmaadoor", sum := "40a8023a877be875245cebb8d0d8519b78fcb0d44aab32b44f80bb3ee5f8739e", func := "loop.example/bonddesk/laws.FnScheduleOfFiner", spec := "fnScheduleOfFiner", unfollowed := true, recurses := true, named := ["loop.example/bonddesk/impl.monthStart"], apart := false, laid := [("loop.example/bonddesk/impl.monthStart", laid_loop_example_bonddesk_impl_monthStart)], narrowed := true }
def FnScheduleOfFinerUptoSaid : Prop := fnScheduleOfFinerUptoRow.holds Tryd.pinned (OpenSpec.upto fnScheduleOfFinerSpec)

/-- 'laws.FnExactYearPart', WHERE WHAT IT READS IS OF BULK AT MOST 1048576: true; the input reads as it did. -/
def fnExactYearPartUptoRow : OpenClaim := { program := "ytpbcfffhhdojmaadoor", sum := "40a8023a877be875245cebb8d0d8519b78fcb0d44aab32b44f80bb3ee5f8739e", func := "loop.example/bonddesk/laws.FnExactYearPart", spec := "fnExactYearPart", unfollowed := true, recurses := true, named := ["loop.example/bonddesk/impl.monthStart"], apart := false, laid := [("loop.example/bonddesk/impl.monthStart", laid_loop_example_bonddesk_impl_monthStart)], narrowed := true }
def FnExactYearPartUptoSaid : Prop := fnExactYearPartUptoRow.holds Tryd.pinned (OpenSpec.upto fnExactYearPartSpec)

/-- 'laws.FnExactInterestOf', WHERE WHAT IT READS IS OF BULK AT MOST 1048576: true; the input reads as it did. -/
def fnExactInterestOfUptoRow : OpenClaim := { program := "ytpbcfffhhdojmaadoor", sum := "40a8023a877be875245cebb8d0d8519b78fcb0d44aab32b44f80bb3ee5f8739e", func := "loop.example/bonddesk/laws.FnExactInterestOf", spec := "fnExactInterestOf", unfollowed := true, recurses := true, named := ["loop.example/bonddesk/impl.monthStart"], apart := false, laid := [("loop.example/bonddesk/impl.monthStart", laid_loop_example_bonddesk_impl_monthStart)], narrowed := true }
def FnExactInterestOfUptoSaid : Prop := fnExactInterestOfUptoRow.holds Tryd.pinned (OpenSpec.upto fnExactInterestOfSpec)

/-- 'laws.FnExactScheduleOf', WHERE WHAT IT READS IS OF BULK AT MOST 1048576: true; the input reads as it did. -/
def fnExactScheduleOfUptoRow : OpenClaim := { program := "ytpbcfffhhdojmaadoor", sum := "40a8023a877be875245cebb8d0d8519b78fcb0d44aab32b44f80bb3ee5f8739e", func := "loop.example/bonddesk/laws.FnExactScheduleOf", spec := "fnExactScheduleOf", unfollowed := true, recurses := true, named := ["loop.example/bonddesk/impl.monthStart"], apart := false, laid := [("loop.example/bonddesk/impl.monthStart", laid_loop_example_bonddesk_impl_monthStart)], narrowed := true }
def FnExactScheduleOfUptoSaid : Prop := fnExactScheduleOfUptoRow.holds Tryd.pinned (OpenSpec.upto fnExactScheduleOfSpec)

end Rows
end Go.Proofs.YtpbcfffhhdojmaaDoor
