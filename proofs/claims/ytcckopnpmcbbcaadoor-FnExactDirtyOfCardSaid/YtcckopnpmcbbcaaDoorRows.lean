/-
  NARROWER THAN 'FOR EVERY INPUT', by the rows' own cells (each row's printed sentence says how): FnValidBond: laid · FnFlowsOf: laid · FnFlowsOfRate: laid · FnTotalOf: laid · FnExactValidBond: laid · FnExactFlowsOf: laid · FnExactTotalOf: laid · FnFlowsOfEqual: laid · FnAccruedOf: laid · FnDirtyOf: laid · FnCleanOf: laid · FnAccruedOfRate: laid · FnExactAccruedOf: laid · FnExactDirtyOf: laid · FnExactCleanOf: laid.
  DERIVED. THE GIVEN ROWS OF THIS SEAT. 15 by the template 'for every input the law returns true; each argument reads behind the call as it read before'; 0 by the template 'total and deterministic' (their statements: YtcckopnpmcbbcaaDoorTotals.lean).
  GIVEN WITH THE SEED: the statements are not yours to turn. If you find one false, say at which input.
  Laid BY PROGRAM, IN A SANDBOX (cutbox-rows.mjs): the forced cells as the released guide's own fill.sh prints them over the translation c97a4fbfbd1cf983… (all of the seat's roots in one cut). By AI agents, Wed Nov 11 2026. No macro, syntax, notation, axiom, sorry.
-/
import Derived.Test.YtcckopnpmcbbcaaDoorChecked
import GoSem.Claim
import GoSem.ClaimJoined
import GoSem.ClaimMapViews
import Derived.JoinedTies
import Derived.KernelRfl
namespace Go.Proofs.YtcckopnpmcbbcaaDoor
/- THE CELL 'sum', in the pinned program and in every row, IS THE sha256 OF THE DUMP (.gsa) THAT YtcckopnpmcbbcaaDoorProg.lean LOADS. Nothing in Lean hashes anything: it is a label: what it is worth is what the hold of that sum in a sandbox is worth. -/
noncomputable def Tryd.pinned : Pinned := { name := "ytcckopnpmcbbcaadoor", sum := "c97a4fbfbd1cf983bfa3eafd1228fff02b8a8d6b1f47ec2ce1b2fb7796f69191", checked := Tryd.checked }
namespace Rows
def none {H : Type} : Left H := { results := [], args := [] }

/- WHAT THE LISTED PACKAGE-LEVEL VARIABLES READ AS WHEN THE CALL BEGINS. Each datum BY PROGRAM (the guide's laid-datum.mjs) off the statement by which the dump's own 'gosem.cut.vars' lays the variable. In a bare row this is a premise. The card (YtcckopnpmcbbcaaDoorCards.lean) ties it to the program's text. -/
def laid_loop_example_bonddesk_impl_monthStart {H : Type} : DataW H := .agg [.lit (.int .i64 0), .lit (.int .i64 31), .lit (.int .i64 59), .lit (.int .i64 90), .lit (.int .i64 120), .lit (.int .i64 151), .lit (.int .i64 181), .lit (.int .i64 212), .lit (.int .i64 243), .lit (.int .i64 273), .lit (.int .i64 304), .lit (.int .i64 334), .lit (.int .i64 365)]

/-- 'laws.FnValidBond': WHATEVER THE INPUT: true; the input reads as it did. -/
def fnValidBondSpec : ChangeSpec := { name := "fnValidBond", vars := ["loop.example/bonddesk/impl.monthStart"], fn := fun _ => fun
  | [d, g1] => { results := [.lit (.bool true)], args := [d], vars := [g1] }
  | _ => none }
def fnValidBondRow : OpenClaim := { program := "ytcckopnpmcbbcaadoor", sum := "c97a4fbfbd1cf983bfa3eafd1228fff02b8a8d6b1f47ec2ce1b2fb7796f69191", func := "loop.example/bonddesk/laws.FnValidBond", spec := "fnValidBond", unfollowed := true, recurses := true, named := ["loop.example/bonddesk/impl.monthStart"], apart := false, laid := [("loop.example/bonddesk/impl.monthStart", laid_loop_example_bonddesk_impl_monthStart)] }
def FnValidBondSaid : Prop := fnValidBondRow.holds Tryd.pinned (OpenSpec.ofChange fnValidBondSpec)

/-- ITS FALSE NEIGHBOUR: 'it returns false'. Refute it at one input. -/
def fnValidBondWrong : ChangeSpec := { name := "fnValidBond", vars := ["loop.example/bonddesk/impl.monthStart"], fn := fun _ => fun
  | [d, g1] => { results := [.lit (.bool false)], args := [d], vars := [g1] }
  | _ => none }
def FnValidBondWrongFalsely : Prop := fnValidBondRow.holds Tryd.pinned (OpenSpec.ofChange fnValidBondWrong)

/-- 'laws.FnFlowsOf': WHATEVER THE INPUT: true; the input reads as it did. -/
def fnFlowsOfSpec : ChangeSpec := { name := "fnFlowsOf", vars := ["loop.example/bonddesk/impl.monthStart"], fn := fun _ => fun
  | [d, g1] => { results := [.lit (.bool true)], args := [d], vars := [g1] }
  | _ => none }
def fnFlowsOfRow : OpenClaim := { program := "ytcckopnpmcbbcaadoor", sum := "c97a4fbfbd1cf983bfa3eafd1228fff02b8a8d6b1f47ec2ce1b2fb7796f69191", func := "loop.example/bonddesk/laws.FnFlowsOf", spec := "fnFlowsOf", unfollowed := true, recurses := true, named := ["loop.example/bonddesk/impl.monthStart"], apart := false, laid := [("loop.example/bonddesk/impl.monthStart", laid_loop_example_bonddesk_impl_monthStart)] }
def FnFlowsOfSaid : Prop := fnFlowsOfRow.holds Tryd.pinned (OpenSpec.ofChange fnFlowsOfSpec)

/-- ITS FALSE NEIGHBOUR: 'it returns false'. Refute it at one input. -/
def fnFlowsOfWrong : ChangeSpec := { name := "fnFlowsOf", vars := ["loop.example/bonddesk/impl.monthStart"], fn := fun _ => fun
  | [d, g1] => { results := [.lit (.bool false)], args := [d], vars := [g1] }
  | _ => none }
def FnFlowsOfWrongFalsely : Prop := fnFlowsOfRow.holds Tryd.pinned (OpenSpec.ofChange fnFlowsOfWrong)

/-- 'laws.FnFlowsOfRate': WHATEVER THE INPUT: true; the input reads as it did. -/
def fnFlowsOfRateSpec : ChangeSpec := { name := "fnFlowsOfRate", vars := ["loop.example/bonddesk/impl.monthStart"], fn := fun _ => fun
  | [d, g1] => { results := [.lit (.bool true)], args := [d], vars := [g1] }
  | _ => none }
def fnFlowsOfRateRow : OpenClaim := { program := "ytcckopnpmcbbcaadoor", sum := "c97a4fbfbd1cf983bfa3eafd1228fff02b8a8d6b1f47ec2ce1b2fb7796f69191", func := "loop.example/bonddesk/laws.FnFlowsOfRate", spec := "fnFlowsOfRate", unfollowed := true, recurses := true, named := ["loop.example/bonddesk/impl.monthStart"], apart := false, laid := [("loop.example/bonddesk/impl.monthStart", laid_loop_example_bonddesk_impl_monthStart)] }
def FnFlowsOfRateSaid : Prop := fnFlowsOfRateRow.holds Tryd.pinned (OpenSpec.ofChange fnFlowsOfRateSpec)

/-- ITS FALSE NEIGHBOUR: 'it returns false'. Refute it at one input. -/
def fnFlowsOfRateWrong : ChangeSpec := { name := "fnFlowsOfRate", vars := ["loop.example/bonddesk/impl.monthStart"], fn := fun _ => fun
  | [d, g1] => { results := [.lit (.bool false)], args := [d], vars := [g1] }
  | _ => none }
def FnFlowsOfRateWrongFalsely : Prop := fnFlowsOfRateRow.holds Tryd.pinned (OpenSpec.ofChange fnFlowsOfRateWrong)

/-- 'laws.FnTotalOf': WHATEVER THE INPUT: true; the input reads as it did. -/
def fnTotalOfSpec : ChangeSpec := { name := "fnTotalOf", vars := ["loop.example/bonddesk/impl.monthStart"], fn := fun _ => fun
  | [d, g1] => { results := [.lit (.bool true)], args := [d], vars := [g1] }
  | _ => none }
def fnTotalOfRow : OpenClaim := { program := "ytcckopnpmcbbcaadoor", sum := "c97a4fbfbd1cf983bfa3eafd1228fff02b8a8d6b1f47ec2ce1b2fb7796f69191", func := "loop.example/bonddesk/laws.FnTotalOf", spec := "fnTotalOf", unfollowed := true, recurses := true, named := ["loop.example/bonddesk/impl.monthStart"], apart := false, laid := [("loop.example/bonddesk/impl.monthStart", laid_loop_example_bonddesk_impl_monthStart)] }
def FnTotalOfSaid : Prop := fnTotalOfRow.holds Tryd.pinned (OpenSpec.ofChange fnTotalOfSpec)

/-- ITS FALSE NEIGHBOUR: 'it returns false'. Refute it at one input. -/
def fnTotalOfWrong : ChangeSpec := { name := "fnTotalOf", vars := ["loop.example/bonddesk/impl.monthStart"], fn := fun _ => fun
  | [d, g1] => { results := [.lit (.bool false)], args := [d], vars := [g1] }
  | _ => none }
def FnTotalOfWrongFalsely : Prop := fnTotalOfRow.holds Tryd.pinned (OpenSpec.ofChange fnTotalOfWrong)

/-- 'laws.FnExactValidBond': WHATEVER THE INPUT: true; the input reads as it did. -/
def fnExactValidBondSpec : ChangeSpec := { name := "fnExactValidBond", vars := ["loop.example/bonddesk/impl.monthStart"], fn := fun _ => fun
  | [d, g1] => { results := [.lit (.bool true)], args := [d], vars := [g1] }
  | _ => none }
def fnExactValidBondRow : OpenClaim := { program := "ytcckopnpmcbbcaadoor", sum := "c97a4fbfbd1cf983bfa3eafd1228fff02b8a8d6b1f47ec2ce1b2fb7796f69191", func := "loop.example/bonddesk/laws.FnExactValidBond", spec := "fnExactValidBond", unfollowed := true, recurses := true, named := ["loop.example/bonddesk/impl.monthStart"], apart := false, laid := [("loop.example/bonddesk/impl.monthStart", laid_loop_example_bonddesk_impl_monthStart)] }
def FnExactValidBondSaid : Prop := fnExactValidBondRow.holds Tryd.pinned (OpenSpec.ofChange fnExactValidBondSpec)

/-- ITS FALSE NEIGHBOUR: 'it returns false'. Refute it at one input. -/
def fnExactValidBondWrong : ChangeSpec := { name := "fnExactValidBond", vars := ["loop.example/bonddesk/impl.monthStart"], fn := fun _ => fun
  | [d, g1] => { results := [.lit (.bool false)], args := [d], vars := [g1] }
  | _ => none }
def FnExactValidBondWrongFalsely : Prop := fnExactValidBondRow.holds Tryd.pinned (OpenSpec.ofChange fnExactValidBondWrong)

/-- 'laws.FnExactFlowsOf': WHATEVER THE INPUT: true; the input reads as it did. -/
def fnExactFlowsOfSpec : ChangeSpec := { name := "fnExactFlowsOf", vars := ["loop.example/bonddesk/impl.monthStart"], fn := fun _ => fun
  | [d, g1] => { results := [.lit (.bool true)], args := [d], vars := [g1] }
  | _ => none }
def fnExactFlowsOfRow : OpenClaim := { program := "ytcckopnpmcbbcaadoor", sum := "c97a4fbfbd1cf983bfa3eafd1228fff02b8a8d6b1f47ec2ce1b2fb7796f69191", func := "loop.example/bonddesk/laws.FnExactFlowsOf", spec := "fnExactFlowsOf", unfollowed := true, recurses := true, named := ["loop.example/bonddesk/impl.monthStart"], apart := false, laid := [("loop.example/bonddesk/impl.monthStart", laid_loop_example_bonddesk_impl_monthStart)] }
def FnExactFlowsOfSaid : Prop := fnExactFlowsOfRow.holds Tryd.pinned (OpenSpec.ofChange fnExactFlowsOfSpec)

/-- ITS FALSE NEIGHBOUR: 'it returns false'. Refute it at one input. -/
def fnExactFlowsOfWrong : ChangeSpec := { name := "fnExactFlowsOf", vars := ["loop.example/bonddesk/impl.monthStart"], fn := fun _ => fun
  | [d, g1] => { results := [.lit (.bool false)], args := [d], vars := [g1] }
  | _ => none }
def FnExactFlowsOfWrongFalsely : Prop := fnExactFlowsOfRow.holds Tryd.pinned (OpenSpec.ofChange fnExactFlowsOfWrong)

/-- 'laws.FnExactTotalOf': WHATEVER THE INPUT: true; the input reads as it did. -/
def fnExactTotalOfSpec : ChangeSpec := { name := "fnExactTotalOf", vars := ["loop.example/bonddesk/impl.monthStart"], fn := fun _ => fun
  | [d, g1] => { results := [.lit (.bool true)], args := [d], vars := [g1] }
  | _ => none }
def fnExactTotalOfRow : OpenClaim := { program := "ytcckopnpmcbbcaadoor", sum := "c97a4fbfbd1cf983bfa3eafd1228fff02b8a8d6b1f47ec2ce1b2fb7796f69191", func := "loop.example/bonddesk/laws.FnExactTotalOf", spec := "fnExactTotalOf", unfollowed := true, recurses := true, named := ["loop.example/bonddesk/impl.monthStart"], apart := false, laid := [("loop.example/bonddesk/impl.monthStart", laid_loop_example_bonddesk_impl_monthStart)] }
def FnExactTotalOfSaid : Prop := fnExactTotalOfRow.holds Tryd.pinned (OpenSpec.ofChange fnExactTotalOfSpec)

/-- ITS FALSE NEIGHBOUR: 'it returns false'. Refute it at one input. -/
def fnExactTotalOfWrong : ChangeSpec := { name := "fnExactTotalOf", vars := ["loop.example/bonddesk/impl.monthStart"], fn := fun _ => fun
  | [d, g1] => { results := [.lit (.bool false)], args := [d], vars := [g1] }
  | _ => none }
def FnExactTotalOfWrongFalsely : Prop := fnExactTotalOfRow.holds Tryd.pinned (OpenSpec.ofChange fnExactTotalOfWrong)

/-- 'laws.FnFlowsOfEqual': WHATEVER THE INPUT: true; the input reads as it did. -/
def fnFlowsOfEqualSpec : ChangeSpec := { name := "fnFlowsOfEqual", vars := ["loop.example/bonddesk/impl.monthStart"], fn := fun _ => fun
  | [d, g1] => { results := [.lit (.bool true)], args := [d], vars := [g1] }
  | _ => none }
def fnFlowsOfEqualRow : OpenClaim := { program := "ytcckopnpmcbbcaadoor", sum := "c97a4fbfbd1cf983bfa3eafd1228fff02b8a8d6b1f47ec2ce1b2fb7796f69191", func := "loop.example/bonddesk/laws.FnFlowsOfEqual", spec := "fnFlowsOfEqual", unfollowed := true, recurses := true, named := ["loop.example/bonddesk/impl.monthStart"], apart := false, laid := [("loop.example/bonddesk/impl.monthStart", laid_loop_example_bonddesk_impl_monthStart)] }
def FnFlowsOfEqualSaid : Prop := fnFlowsOfEqualRow.holds Tryd.pinned (OpenSpec.ofChange fnFlowsOfEqualSpec)

/-- ITS FALSE NEIGHBOUR: 'it returns false'. Refute it at one input. -/
def fnFlowsOfEqualWrong : ChangeSpec := { name := "fnFlowsOfEqual", vars := ["loop.example/bonddesk/impl.monthStart"], fn := fun _ => fun
  | [d, g1] => { results := [.lit (.bool false)], args := [d], vars := [g1] }
  | _ => none }
def FnFlowsOfEqualWrongFalsely : Prop := fnFlowsOfEqualRow.holds Tryd.pinned (OpenSpec.ofChange fnFlowsOfEqualWrong)

/-- 'laws.FnAccruedOf': WHATEVER THE INPUT: true; the input reads as it did. -/
def fnAccruedOfSpec : ChangeSpec := { name := "fnAccruedOf", vars := ["loop.example/bonddesk/impl.monthStart"], fn := fun _ => fun
  | [d, g1] => { results := [.lit (.bool true)], args := [d], vars := [g1] }
  | _ => none }
def fnAccruedOfRow : OpenClaim := { program := "ytcckopnpmcbbcaadoor", sum := "c97a4fbfbd1cf983bfa3eafd1228fff02b8a8d6b1f47ec2ce1b2fb7796f69191", func := "loop.example/bonddesk/laws.FnAccruedOf", spec := "fnAccruedOf", unfollowed := true, recurses := true, named := ["loop.example/bonddesk/impl.monthStart"], apart := false, laid := [("loop.example/bonddesk/impl.monthStart", laid_loop_example_bonddesk_impl_monthStart)] }
def FnAccruedOfSaid : Prop := fnAccruedOfRow.holds Tryd.pinned (OpenSpec.ofChange fnAccruedOfSpec)

/-- ITS FALSE NEIGHBOUR: 'it returns false'. Refute it at one input. -/
def fnAccruedOfWrong : ChangeSpec := { name := "fnAccruedOf", vars := ["loop.example/bonddesk/impl.monthStart"], fn := fun _ => fun
  | [d, g1] => { results := [.lit (.bool false)], args := [d], vars := [g1] }
  | _ => none }
def FnAccruedOfWrongFalsely : Prop := fnAccruedOfRow.holds Tryd.pinned (OpenSpec.ofChange fnAccruedOfWrong)

/-- 'laws.FnDirtyOf': WHATEVER THE INPUT: true; the input reads as it did. -/
def fnDirtyOfSpec : ChangeSpec := { name := "fnDirtyOf", vars := ["loop.example/bonddesk/impl.monthStart"], fn := fun _ => fun
  | [d, g1] => { results := [.lit (.bool true)], args := [d], vars := [g1] }
  | _ => none }
def fnDirtyOfRow : OpenClaim := { program := "ytcckopnpmcbbcaadoor", sum := "c97a4fbfbd1cf983bfa3eafd1228fff02b8a8d6b1f47ec2ce1b2fb7796f69191", func := "loop.example/bonddesk/laws.FnDirtyOf", spec := "fnDirtyOf", unfollowed := true, recurses := true, named := ["loop.example/bonddesk/impl.monthStart"], apart := false, laid := [("loop.example/bonddesk/impl.monthStart", laid_loop_example_bonddesk_impl_monthStart)] }
def FnDirtyOfSaid : Prop := fnDirtyOfRow.holds Tryd.pinned (OpenSpec.ofChange fnDirtyOfSpec)

/-- ITS FALSE NEIGHBOUR: 'it returns false'. Refute it at one input. -/
def fnDirtyOfWrong : ChangeSpec := { name := "fnDirtyOf", vars := ["loop.example/bonddesk/impl.monthStart"], fn := fun _ => fun
  | [d, g1] => { results := [.lit (.bool false)], args := [d], vars := [g1] }
  | _ => none }
def FnDirtyOfWrongFalsely : Prop := fnDirtyOfRow.holds Tryd.pinned (OpenSpec.ofChange fnDirtyOfWrong)

/-- 'laws.FnCleanOf': WHATEVER THE INPUT: true; the input reads as it did. -/
def fnCleanOfSpec : ChangeSpec := { name := "fnCleanOf", vars := ["loop.example/bonddesk/impl.monthStart"], fn := fun _ => fun
  | [d, g1] => { results := [.lit (.bool true)], args := [d], vars := [g1] }
  | _ => none }
def fnCleanOfRow : OpenClaim := { program := "ytcckopnpmcbbcaadoor", sum := "c97a4fbfbd1cf983bfa3eafd1228fff02b8a8d6b1f47ec2ce1b2fb7796f69191", func := "loop.example/bonddesk/laws.FnCleanOf", spec := "fnCleanOf", unfollowed := true, recurses := true, named := ["loop.example/bonddesk/impl.monthStart"], apart := false, laid := [("loop.example/bonddesk/impl.monthStart", laid_loop_example_bonddesk_impl_monthStart)] }
def FnCleanOfSaid : Prop := fnCleanOfRow.holds Tryd.pinned (OpenSpec.ofChange fnCleanOfSpec)

/-- ITS FALSE NEIGHBOUR: 'it returns false'. Refute it at one input. -/
def fnCleanOfWrong : ChangeSpec := { name := "fnCleanOf", vars := ["loop.example/bonddesk/impl.monthStart"], fn := fun _ => fun
  | [d, g1] => { results := [.lit (.bool false)], args := [d], vars := [g1] }
  | _ => none }
def FnCleanOfWrongFalsely : Prop := fnCleanOfRow.holds Tryd.pinned (OpenSpec.ofChange fnCleanOfWrong)

/-- 'laws.FnAccruedOfRate': WHATEVER THE INPUT: true; the input reads as it did. -/
def fnAccruedOfRateSpec : ChangeSpec := { name := "fnAccruedOfRate", vars := ["loop.example/bonddesk/impl.monthStart"], fn := fun _ => fun
  | [d, g1] => { results := [.lit (.bool true)], args := [d], vars := [g1] }
  | _ => none }
def fnAccruedOfRateRow : OpenClaim := { program := "ytcckopnpmcbbcaadoor", sum := "c97a4fbfbd1cf983bfa3eafd1228fff02b8a8d6b1f47ec2ce1b2fb7796f69191", func := "loop.example/bonddesk/laws.FnAccruedOfRate", spec := "fnAccruedOfRate", unfollowed := true, recurses := true, named := ["loop.example/bonddesk/impl.monthStart"], apart := false, laid := [("loop.example/bonddesk/impl.monthStart", laid_loop_example_bonddesk_impl_monthStart)] }
def FnAccruedOfRateSaid : Prop := fnAccruedOfRateRow.holds Tryd.pinned (OpenSpec.ofChange fnAccruedOfRateSpec)

/-- ITS FALSE NEIGHBOUR: 'it returns false'. Refute it at one input. -/
def fnAccruedOfRateWrong : ChangeSpec := { name := "fnAccruedOfRate", vars := ["loop.example/bonddesk/impl.monthStart"], fn := fun _ => fun
  | [d, g1] => { results := [.lit (.bool false)], args := [d], vars := [g1] }
  | _ => none }
def FnAccruedOfRateWrongFalsely : Prop := fnAccruedOfRateRow.holds Tryd.pinned (OpenSpec.ofChange fnAccruedOfRateWrong)

/-- 'laws.FnExactAccruedOf': WHATEVER THE INPUT: true; the input reads as it did. -/
def fnExactAccruedOfSpec : ChangeSpec := { name := "fnExactAccruedOf", vars := ["loop.example/bonddesk/impl.monthStart"], fn := fun _ => fun
  | [d1, d2, g1] => { results := [.lit (.bool true)], args := [d1, d2], vars := [g1] }
  | _ => none }
def fnExactAccruedOfRow : OpenClaim := { program := "ytcckopnpmcbbcaadoor", sum := "c97a4fbfbd1cf983bfa3eafd1228fff02b8a8d6b1f47ec2ce1b2fb7796f69191", func := "loop.example/bonddesk/laws.FnExactAccruedOf", spec := "fnExactAccruedOf", unfollowed := true, recurses := true, named := ["loop.example/bonddesk/impl.monthStart"], apart := false, laid := [("loop.example/bonddesk/impl.monthStart", laid_loop_example_bonddesk_impl_monthStart)] }
def FnExactAccruedOfSaid : Prop := fnExactAccruedOfRow.holds Tryd.pinned (OpenSpec.ofChange fnExactAccruedOfSpec)

/-- ITS FALSE NEIGHBOUR: 'it returns false'. Refute it at one input. -/
def fnExactAccruedOfWrong : ChangeSpec := { name := "fnExactAccruedOf", vars := ["loop.example/bonddesk/impl.monthStart"], fn := fun _ => fun
  | [d1, d2, g1] => { results := [.lit (.bool false)], args := [d1, d2], vars := [g1] }
  | _ => none }
def FnExactAccruedOfWrongFalsely : Prop := fnExactAccruedOfRow.holds Tryd.pinned (OpenSpec.ofChange fnExactAccruedOfWrong)

/-- 'laws.FnExactDirtyOf': WHATEVER THE INPUT: true; the input reads as it did. -/
def fnExactDirtyOfSpec : ChangeSpec := { name := "fnExactDirtyOf", vars := ["loop.example/bonddesk/impl.monthStart"], fn := fun _ => fun
  | [d1, d2, d3, g1] => { results := [.lit (.bool true)], args := [d1, d2, d3], vars := [g1] }
  | _ => none }
def fnExactDirtyOfRow : OpenClaim := { program := "ytcckopnpmcbbcaadoor", sum := "c97a4fbfbd1cf983bfa3eafd1228fff02b8a8d6b1f47ec2ce1b2fb7796f69191", func := "loop.example/bonddesk/laws.FnExactDirtyOf", spec := "fnExactDirtyOf", unfollowed := true, recurses := true, named := ["loop.example/bonddesk/impl.monthStart"], apart := false, laid := [("loop.example/bonddesk/impl.monthStart", laid_loop_example_bonddesk_impl_monthStart)] }
def FnExactDirtyOfSaid : Prop := fnExactDirtyOfRow.holds Tryd.pinned (OpenSpec.ofChange fnExactDirtyOfSpec)

/-- ITS FALSE NEIGHBOUR: 'it returns false'. Refute it at one input. -/
def fnExactDirtyOfWrong : ChangeSpec := { name := "fnExactDirtyOf", vars := ["loop.example/bonddesk/impl.monthStart"], fn := fun _ => fun
  | [d1, d2, d3, g1] => { results := [.lit (.bool false)], args := [d1, d2, d3], vars := [g1] }
  | _ => none }
def FnExactDirtyOfWrongFalsely : Prop := fnExactDirtyOfRow.holds Tryd.pinned (OpenSpec.ofChange fnExactDirtyOfWrong)

/-- 'laws.FnExactCleanOf': WHATEVER THE INPUT: true; the input reads as it did. -/
def fnExactCleanOfSpec : ChangeSpec := { name := "fnExactCleanOf", vars := ["loop.example/bonddesk/impl.monthStart"], fn := fun _ => fun
  | [d1, d2, d3, g1] => { results := [.lit (.bool true)], args := [d1, d2, d3], vars := [g1] }
  | _ => none }
def fnExactCleanOfRow : OpenClaim := { program := "ytcckopnpmcbbcaadoor", sum := "c97a4fbfbd1cf983bfa3eafd1228fff02b8a8d6b1f47ec2ce1b2fb7796f69191", func := "loop.example/bonddesk/laws.FnExactCleanOf", spec := "fnExactCleanOf", unfollowed := true, recurses := true, named := ["loop.example/bonddesk/impl.monthStart"], apart := false, laid := [("loop.example/bonddesk/impl.monthStart", laid_loop_example_bonddesk_impl_monthStart)] }
def FnExactCleanOfSaid : Prop := fnExactCleanOfRow.holds Tryd.pinned (OpenSpec.ofChange fnExactCleanOfSpec)

/-- ITS FALSE NEIGHBOUR: 'it returns false'. Refute it at one input. -/
def fnExactCleanOfWrong : ChangeSpec := { name := "fnExactCleanOf", vars := ["loop.example/bonddesk/impl.monthStart"], fn := fun _ => fun
  | [d1, d2, d3, g1] => { results := [.lit (.bool false)], args := [d1, d2, d3], vars := [g1] }
  | _ => none }
def FnExactCleanOfWrongFalsely : Prop := fnExactCleanOfRow.holds Tryd.pinned (OpenSpec.ofChange fnExactCleanOfWrong)

/- THE SECOND FORM. 'bulk': how many values and letters a reading holds, each counted each time it is reached (what is shared counts as often as it is met; a slice's spare places count too). A statement '..UptoSaid' is the law's where the arguments, and the package variables that the reading takes, are together of bulk at most 1048576: NARROWER than '..Said'. Prove '..Said' where nothing that the law and all that it calls make is longer than what came in: it says more and counts as full. Else prove '..UptoSaid'. A law counts once. -/
mutual
def uptoBulk {H : Type} : DataW H → Nat
  | .lit (.string bytes) => bytes.length + 1
  | .lit _ => 1
  | .nil => 1
  | .ptr d => uptoBulk d + 1
  | .slice elems spare => uptoBulkAll elems + uptoBulkAll spare + 1
  | .agg parts => uptoBulkAll parts + 1
  | .iface _ d => uptoBulk d + 1
  | .map entries => uptoBulkEntries entries + 1
  | .held _ => 1
def uptoBulkAll {H : Type} : List (DataW H) → Nat
  | [] => 0
  | d :: r => uptoBulk d + uptoBulkAll r
def uptoBulkEntries {H : Type} : List (Lit × DataW H) → Nat
  | [] => 0
  | x :: r => uptoBulkEntry x + uptoBulkEntries r
def uptoBulkEntry {H : Type} : Lit × DataW H → Nat
  | (.string bytes, d) => bytes.length + uptoBulk d + 1
  | (_, d) => uptoBulk d + 1
 end
def uptoSmall : (H : Type) → List (DataW H) → Bool := fun _ ds => decide (uptoBulkAll ds ≤ 1048576)
def OpenSpec.upto (s : _root_.Go.ChangeSpec) : _root_.Go.OpenSpec := { _root_.Go.OpenSpec.ofChange s with cond := some uptoSmall }

/-- 'laws.FnValidBond', WHERE WHAT IT READS IS OF BULK AT MOST 1048576: true; the input reads as it did. -/
def fnValidBondUptoRow : OpenClaim := { program := "ytcckopnpmcbbcaadoor", sum := "c97a4fbfbd1cf983bfa3eafd1228fff02b8a8d6b1f47ec2ce1b2fb7796f69191", func := "loop.example/bonddesk/laws.FnValidBond", spec := "fnValidBond", unfollowed := true, recurses := true, named := ["loop.example/bonddesk/impl.monthStart"], apart := false, laid := [("loop.example/bonddesk/impl.monthStart", laid_loop_example_bonddesk_impl_monthStart)], narrowed := true }
def FnValidBondUptoSaid : Prop := fnValidBondUptoRow.holds Tryd.pinned (OpenSpec.upto fnValidBondSpec)

/-- 'laws.FnFlowsOf', WHERE WHAT IT READS IS OF BULK AT MOST 1048576: true; the input reads as it did. -/
def fnFlowsOfUptoRow : OpenClaim := { program := "ytcckopnpmcbbcaadoor", sum := "c97a4fbfbd1cf983bfa3eafd1228fff02b8a8d6b1f47ec2ce1b2fb7796f69191", func := "loop.example/bonddesk/laws.FnFlowsOf", spec := "fnFlowsOf", unfollowed := true, recurses := true, named := ["loop.example/bonddesk/impl.monthStart"], apart := false, laid := [("loop.example/bonddesk/impl.monthStart", laid_loop_example_bonddesk_impl_monthStart)], narrowed := true }
def FnFlowsOfUptoSaid : Prop := fnFlowsOfUptoRow.holds Tryd.pinned (OpenSpec.upto fnFlowsOfSpec)

/-- 'laws.FnFlowsOfRate', WHERE WHAT IT READS IS OF BULK AT MOST 1048576: true; the input reads as it did. -/
def fnFlowsOfRateUptoRow : OpenClaim := { program := "ytcckopnpmcbbcaadoor", sum := "c97a4fbfbd1cf983bfa3eafd1228fff02b8a8d6b1f47ec2ce1b2fb7796f69191", func := "loop.example/bonddesk/laws.FnFlowsOfRate", spec := "fnFlowsOfRate", unfollowed := true, recurses := true, named := ["loop.example/bonddesk/impl.monthStart"], apart := false, laid := [("loop.example/bonddesk/impl.monthStart", laid_loop_example_bonddesk_impl_monthStart)], narrowed := true }
def FnFlowsOfRateUptoSaid : Prop := fnFlowsOfRateUptoRow.holds Tryd.pinned (OpenSpec.upto fnFlowsOfRateSpec)

/-- 'laws.FnTotalOf', WHERE WHAT IT READS IS OF BULK AT MOST 1048576: true; the input reads as it did. -/
def fnTotalOfUptoRow : OpenClaim := { program := "ytcckopnpmcbbcaadoor", sum := "c97a4fbfbd1cf983bfa3eafd1228fff02b8a8d6b1f47ec2ce1b2fb7796f69191", func := "loop.example/bonddesk/laws.FnTotalOf", spec := "fnTotalOf", unfollowed := true, recurses := true, named := ["loop.example/bonddesk/impl.monthStart"], apart := false, laid := [("loop.example/bonddesk/impl.monthStart", laid_loop_example_bonddesk_impl_monthStart)], narrowed := true }
def FnTotalOfUptoSaid : Prop := fnTotalOfUptoRow.holds Tryd.pinned (OpenSpec.upto fnTotalOfSpec)

/-- 'laws.FnExactValidBond', WHERE WHAT IT READS IS OF BULK AT MOST 1048576: true; the input reads as it did. -/
def fnExactValidBondUptoRow : OpenClaim := { program := "ytcckopnpmcbbcaadoor", sum := "c97a4fbfbd1cf983bfa3eafd1228fff02b8a8d6b1f47ec2ce1b2fb7796f69191", func := "loop.example/bonddesk/laws.FnExactValidBond", spec := "fnExactValidBond", unfollowed := true, recurses := true, named := ["loop.example/bonddesk/impl.monthStart"], apart := false, laid := [("loop.example/bonddesk/impl.monthStart", laid_loop_example_bonddesk_impl_monthStart)], narrowed := true }
def FnExactValidBondUptoSaid : Prop := fnExactValidBondUptoRow.holds Tryd.pinned (OpenSpec.upto fnExactValidBondSpec)

/-- 'laws.FnExactFlowsOf', WHERE WHAT IT READS IS OF BULK AT MOST 1048576: true; the input reads as it did. -/
def fnExactFlowsOfUptoRow : OpenClaim := { program := "ytcckopnpmcbbcaadoor", sum := "c97a4fbfbd1cf983bfa3eafd1228fff02b8a8d6b1f47ec2ce1b2fb7796f69191", func := "loop.example/bonddesk/laws.FnExactFlowsOf", spec := "fnExactFlowsOf", unfollowed := true, recurses := true, named := ["loop.example/bonddesk/impl.monthStart"], apart := false, laid := [("loop.example/bonddesk/impl.monthStart", laid_loop_example_bonddesk_impl_monthStart)], narrowed := true }
def FnExactFlowsOfUptoSaid : Prop := fnExactFlowsOfUptoRow.holds Tryd.pinned (OpenSpec.upto fnExactFlowsOfSpec)

/-- 'laws.FnExactTotalOf', WHERE WHAT IT READS IS OF BULK AT MOST 1048576: true; the input reads as it did. -/
def fnExactTotalOfUptoRow : OpenClaim := { program := "ytcckopnpmcbbcaadoor", sum := "c97a4fbfbd1cf983bfa3eafd1228fff02b8a8d6b1f47ec2ce1b2fb7796f69191", func := "loop.example/bonddesk/laws.FnExactTotalOf", spec := "fnExactTotalOf", unfollowed := true, recurses := true, named := ["loop.example/bonddesk/impl.monthStart"], apart := false, laid := [("loop.example/bonddesk/impl.monthStart", laid_loop_example_bonddesk_impl_monthStart)], narrowed := true }
def FnExactTotalOfUptoSaid : Prop := fnExactTotalOfUptoRow.holds Tryd.pinned (OpenSpec.upto fnExactTotalOfSpec)

/-- 'laws.FnFlowsOfEqual', WHERE WHAT IT READS IS OF BULK AT MOST 1048576: true; the input reads as it did. -/
def fnFlowsOfEqualUptoRow : OpenClaim := { program := "ytcckopnpmcbbcaadoor", sum := "c97a4fbfbd1cf983bfa3eafd1228fff02b8a8d6b1f47ec2ce1b2fb7796f69191", func := "loop.example/bonddesk/laws.FnFlowsOfEqual", spec := "fnFlowsOfEqual", unfollowed := true, recurses := true, named := ["loop.example/bonddesk/impl.monthStart"], apart := false, laid := [("loop.example/bonddesk/impl.monthStart", laid_loop_example_bonddesk_impl_monthStart)], narrowed := true }
def FnFlowsOfEqualUptoSaid : Prop := fnFlowsOfEqualUptoRow.holds Tryd.pinned (OpenSpec.upto fnFlowsOfEqualSpec)

/-- 'laws.FnAccruedOf', WHERE WHAT IT READS IS OF BULK AT MOST 1048576: true; the input reads as it did. -/
def fnAccruedOfUptoRow : OpenClaim := { program := "ytcckopnpmcbbcaadoor", sum := "c97a4fbfbd1cf983bfa3eafd1228fff02b8a8d6b1f47ec2ce1b2fb7796f69191", func := "loop.example/bonddesk/laws.FnAccruedOf", spec := "fnAccruedOf", unfollowed := true, recurses := true, named := ["loop.example/bonddesk/impl.monthStart"], apart := false, laid := [("loop.example/bonddesk/impl.monthStart", laid_loop_example_bonddesk_impl_monthStart)], narrowed := true }
def FnAccruedOfUptoSaid : Prop := fnAccruedOfUptoRow.holds Tryd.pinned (OpenSpec.upto fnAccruedOfSpec)

/-- 'laws.FnDirtyOf', WHERE WHAT IT READS IS OF BULK AT MOST 1048576: true; the input reads as it did. -/
def fnDirtyOfUptoRow : OpenClaim := { program := "ytcckopnpmcbbcaadoor", sum := "c97a4fbfbd1cf983bfa3eafd1228fff02b8a8d6b1f47ec2ce1b2fb7796f69191", func := "loop.example/bonddesk/laws.FnDirtyOf", spec := "fnDirtyOf", unfollowed := true, recurses := true, named := ["loop.example/bonddesk/impl.monthStart"], apart := false, laid := [("loop.example/bonddesk/impl.monthStart", laid_loop_example_bonddesk_impl_monthStart)], narrowed := true }
def FnDirtyOfUptoSaid : Prop := fnDirtyOfUptoRow.holds Tryd.pinned (OpenSpec.upto fnDirtyOfSpec)

/-- 'laws.FnCleanOf', WHERE WHAT IT READS IS OF BULK AT MOST 1048576: true; the input reads as it did. -/
def fnCleanOfUptoRow : OpenClaim := { program := "ytcckopnpmcbbcaadoor", sum := "c97a4fbfbd1cf983bfa3eafd1228fff02b8a8d6b1f47ec2ce1b2fb7796f69191", func := "loop.example/bonddesk/laws.FnCleanOf", spec := "fnCleanOf", unfollowed := true, recurses := true, named := ["loop.example/bonddesk/impl.monthStart"], apart := false, laid := [("loop.example/bonddesk/impl.monthStart", laid_loop_example_bonddesk_impl_monthStart)], narrowed := true }
def FnCleanOfUptoSaid : Prop := fnCleanOfUptoRow.holds Tryd.pinned (OpenSpec.upto fnCleanOfSpec)

/-- 'laws.FnAccruedOfRate', WHERE WHAT IT READS IS OF BULK AT MOST 1048576: true; the input reads as it did. -/
def fnAccruedOfRateUptoRow : OpenClaim := { program := "ytcckopnpmcbbcaadoor", sum := "c97a4fbfbd1cf983bfa3eafd1228fff02b8a8d6b1f47ec2ce1b2fb7796f69191", func := "loop.example/bonddesk/laws.FnAccruedOfRate", spec := "fnAccruedOfRate", unfollowed := true, recurses := true, named := ["loop.example/bonddesk/impl.monthStart"], apart := false, laid := [("loop.example/bonddesk/impl.monthStart", laid_loop_example_bonddesk_impl_monthStart)], narrowed := true }
def FnAccruedOfRateUptoSaid : Prop := fnAccruedOfRateUptoRow.holds Tryd.pinned (OpenSpec.upto fnAccruedOfRateSpec)

/-- 'laws.FnExactAccruedOf', WHERE WHAT IT READS IS OF BULK AT MOST 1048576: true; the input reads as it did. -/
def fnExactAccruedOfUptoRow : OpenClaim := { program := "ytcckopnpmcbbcaadoor", sum := "c97a4fbfbd1cf983bfa3eafd1228fff02b8a8d6b1f47ec2ce1b2fb7796f69191", func := "loop.example/bonddesk/laws.FnExactAccruedOf", spec := "fnExactAccruedOf", unfollowed := true, recurses := true, named := ["loop.example/bonddesk/impl.monthStart"], apart := false, laid := [("loop.example/bonddesk/impl.monthStart", laid_loop_example_bonddesk_impl_monthStart)], narrowed := true }
def FnExactAccruedOfUptoSaid : Prop := fnExactAccruedOfUptoRow.holds Tryd.pinned (OpenSpec.upto fnExactAccruedOfSpec)

/-- 'laws.FnExactDirtyOf', WHERE WHAT IT READS IS OF BULK AT MOST 1048576: true; the input reads as it did. -/
def fnExactDirtyOfUptoRow : OpenClaim := { program := "ytcckopnpmcbbcaadoor", sum := "c97a4fbfbd1cf983bfa3eafd1228fff02b8a8d6b1f47ec2ce1b2fb7796f69191", func := "loop.example/bonddesk/laws.FnExactDirtyOf", spec := "fnExactDirtyOf", unfollowed := true, recurses := true, named := ["loop.example/bonddesk/impl.monthStart"], apart := false, laid := [("loop.example/bonddesk/impl.monthStart", laid_loop_example_bonddesk_impl_monthStart)], narrowed := true }
def FnExactDirtyOfUptoSaid : Prop := fnExactDirtyOfUptoRow.holds Tryd.pinned (OpenSpec.upto fnExactDirtyOfSpec)

/-- 'laws.FnExactCleanOf', WHERE WHAT IT READS IS OF BULK AT MOST 1048576: true; the input reads as it did. -/
def fnExactCleanOfUptoRow : OpenClaim := { program := "ytcckopnpmcbbcaadoor", sum := "c97a4fbfbd1cf983bfa3eafd1228fff02b8a8d6b1f47ec2ce1b2fb7796f69191", func := "loop.example/bonddesk/laws.FnExactCleanOf", spec := "fnExactCleanOf", unfollowed := true, recurses := true, named := ["loop.example/bonddesk/impl.monthStart"], apart := false, laid := [("loop.example/bonddesk/impl.monthStart", laid_loop_example_bonddesk_impl_monthStart)], narrowed := true }
def FnExactCleanOfUptoSaid : Prop := fnExactCleanOfUptoRow.holds Tryd.pinned (OpenSpec.upto fnExactCleanOfSpec)

end Rows
end Go.Proofs.YtcckopnpmcbbcaaDoor
