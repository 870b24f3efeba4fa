/-
  NARROWER THAN 'FOR EVERY INPUT', by the rows' own cells (each row's printed sentence says how): FnValidBond: laid · FnFlowsOf: laid · FnFlowsOfEqual: laid · FnFlowsOfRate: laid · FnFlowsAfter: laid · FnTotalOf: laid · FnFlowsAfterNone: laid · FnExactValidBond: laid · FnExactFlowsOf: laid · FnExactFlowsAfter: laid · FnExactTotalOf: laid.
  DERIVED. THE GIVEN ROWS OF THIS SEAT. 11 by the template 'for every input the law returns true; each argument reads behind the call as it read before'; 0 by the template 'total and deterministic' (their statements: YtjghcecannapcaaDoorTotals.lean).
  GIVEN WITH THE SEED: the statements are not yours to turn. If you find one false, say at which input.
  Laid BY PROGRAM, IN A SANDBOX (cutbox-rows.mjs): the forced cells as the released guide's own fill.sh prints them over the translation e052781fe534d578… (all of the seat's roots in one cut). By AI agents, Wed Nov 11 2026. No macro, syntax, notation, axiom, sorry.
-/
import Derived.Test.YtjghcecannapcaaDoorChecked
import GoSem.Claim
import GoSem.ClaimJoined
import GoSem.ClaimMapViews
import Derived.JoinedTies
import Derived.KernelRfl
namespace Go.Proofs.YtjghcecannapcaaDoor
/- THE CELL 'sum', in the pinned program and in every row, IS THE sha256 OF THE DUMP (.gsa) THAT YtjghcecannapcaaDoorProg.lean LOADS. Nothing in Lean hashes anything: it is a label: what it is worth is what the hold of that sum in a sandbox is worth. -/
noncomputable def Tryd.pinned : Pinned := { name := "ytjghcecannapcaadoor", sum := "e052781fe534d578a85aed71befed1731701a83b8bf4f1e5831864f255448c34", checked := Tryd.checked }
namespace Rows
def none {H : Type} : Left H := { results := [], args := [] }

/- WHAT THE LISTED PACKAGE-LEVEL VARIABLES READ AS WHEN THE CALL BEGINS. Each datum BY PROGRAM (the guide's laid-datum.mjs) off the statement by which the dump's own 'gosem.cut.vars' lays the variable. In a bare row this is a premise. The card (YtjghcecannapcaaDoorCards.lean) ties it to the program's text. -/
def laid_loop_example_bonddesk_impl_monthStart {H : Type} : DataW H := .agg [.lit (.int .i64 0), .lit (.int .i64 31), .lit (.int .i64 59), .lit (.int .i64 90), .lit (.int .i64 120), .lit (.int .i64 151), .lit (.int .i64 181), .lit (.int .i64 212), .lit (.int .i64 243), .lit (.int .i64 273), .lit (.int .i64 304), .lit (.int .i64 334), .lit (.int .i64 365)]

/-- 'laws.FnValidBond': WHATEVER THE INPUT: true; the input reads as it did. -/
def fnValidBondSpec : ChangeSpec := { name := "fnValidBond", vars := ["loop.example/bonddesk/impl.monthStart"], fn := fun _ => fun
  | [d, g1] => { results := [.lit (.bool true)], args := [d], vars := [g1] }
  | _ => none }
def fnValidBondRow : OpenClaim := { program := "ytjghcecannapcaadoor", sum := "e052781fe534d578a85aed71befed1731701a83b8bf4f1e5831864f255448c34", func := "loop.example/bonddesk/laws.FnValidBond", spec := "fnValidBond", unfollowed := true, recurses := true, named := ["loop.example/bonddesk/impl.monthStart"], apart := false, laid := [("loop.example/bonddesk/impl.monthStart", laid_loop_example_bonddesk_impl_monthStart)] }
def FnValidBondSaid : Prop := fnValidBondRow.holds Tryd.pinned (OpenSpec.ofChange fnValidBondSpec)

/-- ITS FALSE NEIGHBOUR: 'it returns false'. Refute it at one input. -/
def fnValidBondWrong : ChangeSpec := { name := "fnValidBond", vars := ["loop.example/bonddesk/impl.monthStart"], fn := fun _ => fun
  | [d, g1] => { results := [.lit (.bool false)], args := [d], vars := [g1] }
  | _ => none }
def FnValidBondWrongFalsely : Prop := fnValidBondRow.holds Tryd.pinned (OpenSpec.ofChange fnValidBondWrong)

/-- 'laws.FnFlowsOf': WHATEVER THE INPUT: true; the input reads as it did. -/
def fnFlowsOfSpec : ChangeSpec := { name := "fnFlowsOf", vars := ["loop.example/bonddesk/impl.monthStart"], fn := fun _ => fun
  | [d, g1] => { results := [.lit (.bool true)], args := [d], vars := [g1] }
  | _ => none }
def fnFlowsOfRow : OpenClaim := { program := "ytjghcecannapcaadoor", sum := "e052781fe534d578a85aed71befed1731701a83b8bf4f1e5831864f255448c34", func := "loop.example/bonddesk/laws.FnFlowsOf", spec := "fnFlowsOf", unfollowed := true, recurses := true, named := ["loop.example/bonddesk/impl.monthStart"], apart := false, laid := [("loop.example/bonddesk/impl.monthStart", laid_loop_example_bonddesk_impl_monthStart)] }
def FnFlowsOfSaid : Prop := fnFlowsOfRow.holds Tryd.pinned (OpenSpec.ofChange fnFlowsOfSpec)

/-- ITS FALSE NEIGHBOUR: 'it returns false'. Refute it at one input. -/
def fnFlowsOfWrong : ChangeSpec := { name := "fnFlowsOf", vars := ["loop.example/bonddesk/impl.monthStart"], fn := fun _ => fun
  | [d, g1] => { results := [.lit (.bool false)], args := [d], vars := [g1] }
  | _ => none }
def FnFlowsOfWrongFalsely : Prop := fnFlowsOfRow.holds Tryd.pinned (OpenSpec.ofChange fnFlowsOfWrong)

/-- 'laws.FnFlowsOfEqual': WHATEVER THE INPUT: true; the input reads as it did. -/
def fnFlowsOfEqualSpec : ChangeSpec := { name := "fnFlowsOfEqual", vars := ["loop.example/bonddesk/impl.monthStart"], fn := fun _ => fun
  | [d, g1] => { results := [.lit (.bool true)], args := [d], vars := [g1] }
  | _ => none }
def fnFlowsOfEqualRow : OpenClaim := { program := "ytjghcecannapcaadoor", sum := "e052781fe534d578a85aed71befed1731701a83b8bf4f1e5831864f255448c34", func := "loop.example/bonddesk/laws.FnFlowsOfEqual", spec := "fnFlowsOfEqual", unfollowed := true, recurses := true, named := ["loop.example/bonddesk/impl.monthStart"], apart := false, laid := [("loop.example/bonddesk/impl.monthStart", laid_loop_example_bonddesk_impl_monthStart)] }
def FnFlowsOfEqualSaid : Prop := fnFlowsOfEqualRow.holds Tryd.pinned (OpenSpec.ofChange fnFlowsOfEqualSpec)

/-- ITS FALSE NEIGHBOUR: 'it returns false'. Refute it at one input. -/
def fnFlowsOfEqualWrong : ChangeSpec := { name := "fnFlowsOfEqual", vars := ["loop.example/bonddesk/impl.monthStart"], fn := fun _ => fun
  | [d, g1] => { results := [.lit (.bool false)], args := [d], vars := [g1] }
  | _ => none }
def FnFlowsOfEqualWrongFalsely : Prop := fnFlowsOfEqualRow.holds Tryd.pinned (OpenSpec.ofChange fnFlowsOfEqualWrong)

/-- 'laws.FnFlowsOfRate': WHATEVER THE INPUT: true; the input reads as it did. -/
def fnFlowsOfRateSpec : ChangeSpec := { name := "fnFlowsOfRate", vars := ["loop.example/bonddesk/impl.monthStart"], fn := fun _ => fun
  | [d, g1] => { results := [.lit (.bool true)], args := [d], vars := [g1] }
  | _ => none }
def fnFlowsOfRateRow : OpenClaim := { program := "ytjghcecannapcaadoor", sum := "e052781fe534d578a85aed71befed1731701a83b8bf4f1e5831864f255448c34", func := "loop.example/bonddesk/laws.FnFlowsOfRate", spec := "fnFlowsOfRate", unfollowed := true, recurses := true, named := ["loop.example/bonddesk/impl.monthStart"], apart := false, laid := [("loop.example/bonddesk/impl.monthStart", laid_loop_example_bonddesk_impl_monthStart)] }
def FnFlowsOfRateSaid : Prop := fnFlowsOfRateRow.holds Tryd.pinned (OpenSpec.ofChange fnFlowsOfRateSpec)

/-- ITS FALSE NEIGHBOUR: 'it returns false'. Refute it at one input. -/
def fnFlowsOfRateWrong : ChangeSpec := { name := "fnFlowsOfRate", vars := ["loop.example/bonddesk/impl.monthStart"], fn := fun _ => fun
  | [d, g1] => { results := [.lit (.bool false)], args := [d], vars := [g1] }
  | _ => none }
def FnFlowsOfRateWrongFalsely : Prop := fnFlowsOfRateRow.holds Tryd.pinned (OpenSpec.ofChange fnFlowsOfRateWrong)

/-- 'laws.FnFlowsAfter': WHATEVER THE INPUT: true; the input reads as it did. -/
def fnFlowsAfterSpec : ChangeSpec := { name := "fnFlowsAfter", vars := ["loop.example/bonddesk/impl.monthStart"], fn := fun _ => fun
  | [d, g1] => { results := [.lit (.bool true)], args := [d], vars := [g1] }
  | _ => none }
def fnFlowsAfterRow : OpenClaim := { program := "ytjghcecannapcaadoor", sum := "e052781fe534d578a85aed71befed1731701a83b8bf4f1e5831864f255448c34", func := "loop.example/bonddesk/laws.FnFlowsAfter", spec := "fnFlowsAfter", unfollowed := true, recurses := true, named := ["loop.example/bonddesk/impl.monthStart"], apart := false, laid := [("loop.example/bonddesk/impl.monthStart", laid_loop_example_bonddesk_impl_monthStart)] }
def FnFlowsAfterSaid : Prop := fnFlowsAfterRow.holds Tryd.pinned (OpenSpec.ofChange fnFlowsAfterSpec)

/-- ITS FALSE NEIGHBOUR: 'it returns false'. Refute it at one input. -/
def fnFlowsAfterWrong : ChangeSpec := { name := "fnFlowsAfter", vars := ["loop.example/bonddesk/impl.monthStart"], fn := fun _ => fun
  | [d, g1] => { results := [.lit (.bool false)], args := [d], vars := [g1] }
  | _ => none }
def FnFlowsAfterWrongFalsely : Prop := fnFlowsAfterRow.holds Tryd.pinned (OpenSpec.ofChange fnFlowsAfterWrong)

/-- 'laws.FnTotalOf': WHATEVER THE INPUT: true; the input reads as it did. -/
def fnTotalOfSpec : ChangeSpec := { name := "fnTotalOf", vars := ["loop.example/bonddesk/impl.monthStart"], fn := fun _ => fun
  | [d, g1] => { results := [.lit (.bool true)], args := [d], vars := [g1] }
  | _ => none }
def fnTotalOfRow : OpenClaim := { program := "ytjghcecannapcaadoor", sum := "e052781fe534d578a85aed71befed1731701a83b8bf4f1e5831864f255448c34", func := "loop.example/bonddesk/laws.FnTotalOf", spec := "fnTotalOf", unfollowed := true, recurses := true, named := ["loop.example/bonddesk/impl.monthStart"], apart := false, laid := [("loop.example/bonddesk/impl.monthStart", laid_loop_example_bonddesk_impl_monthStart)] }
def FnTotalOfSaid : Prop := fnTotalOfRow.holds Tryd.pinned (OpenSpec.ofChange fnTotalOfSpec)

/-- ITS FALSE NEIGHBOUR: 'it returns false'. Refute it at one input. -/
def fnTotalOfWrong : ChangeSpec := { name := "fnTotalOf", vars := ["loop.example/bonddesk/impl.monthStart"], fn := fun _ => fun
  | [d, g1] => { results := [.lit (.bool false)], args := [d], vars := [g1] }
  | _ => none }
def FnTotalOfWrongFalsely : Prop := fnTotalOfRow.holds Tryd.pinned (OpenSpec.ofChange fnTotalOfWrong)

/-- 'laws.FnFlowsAfterNone': WHATEVER THE INPUT: true; the input reads as it did. -/
def fnFlowsAfterNoneSpec : ChangeSpec := { name := "fnFlowsAfterNone", vars := ["loop.example/bonddesk/impl.monthStart"], fn := fun _ => fun
  | [d, g1] => { results := [.lit (.bool true)], args := [d], vars := [g1] }
  | _ => none }
def fnFlowsAfterNoneRow : OpenClaim := { program := "ytjghcecannapcaadoor", sum := "e052781fe534d578a85aed71befed1731701a83b8bf4f1e5831864f255448c34", func := "loop.example/bonddesk/laws.FnFlowsAfterNone", spec := "fnFlowsAfterNone", unfollowed := true, recurses := true, named := ["loop.example/bonddesk/impl.monthStart"], apart := false, laid := [("loop.example/bonddesk/impl.monthStart", laid_loop_example_bonddesk_impl_monthStart)] }
def FnFlowsAfterNoneSaid : Prop := fnFlowsAfterNoneRow.holds Tryd.pinned (OpenSpec.ofChange fnFlowsAfterNoneSpec)

/-- ITS FALSE NEIGHBOUR: 'it returns false'. Refute it at one input. -/
def fnFlowsAfterNoneWrong : ChangeSpec := { name := "fnFlowsAfterNone", vars := ["loop.example/bonddesk/impl.monthStart"], fn := fun _ => fun
  | [d, g1] => { results := [.lit (.bool false)], args := [d], vars := [g1] }
  | _ => none }
def FnFlowsAfterNoneWrongFalsely : Prop := fnFlowsAfterNoneRow.holds Tryd.pinned (OpenSpec.ofChange fnFlowsAfterNoneWrong)

/-- 'laws.FnExactValidBond': WHATEVER THE INPUT: true; the input reads as it did. -/
def fnExactValidBondSpec : ChangeSpec := { name := "fnExactValidBond", vars := ["loop.example/bonddesk/impl.monthStart"], fn := fun _ => fun
  | [d, g1] => { results := [.lit (.bool true)], args := [d], vars := [g1] }
  | _ => none }
def fnExactValidBondRow : OpenClaim := { program := "ytjghcecannapcaadoor", sum := "e052781fe534d578a85aed71befed1731701a83b8bf4f1e5831864f255448c34", func := "loop.example/bonddesk/laws.FnExactValidBond", spec := "fnExactValidBond", unfollowed := true, recurses := true, named := ["loop.example/bonddesk/impl.monthStart"], apart := false, laid := [("loop.example/bonddesk/impl.monthStart", laid_loop_example_bonddesk_impl_monthStart)] }
def FnExactValidBondSaid : Prop := fnExactValidBondRow.holds Tryd.pinned (OpenSpec.ofChange fnExactValidBondSpec)

/-- ITS FALSE NEIGHBOUR: 'it returns false'. Refute it at one input. -/
def fnExactValidBondWrong : ChangeSpec := { name := "fnExactValidBond", vars := ["loop.example/bonddesk/impl.monthStart"], fn := fun _ => fun
  | [d, g1] => { results := [.lit (.bool false)], args := [d], vars := [g1] }
  | _ => none }
def FnExactValidBondWrongFalsely : Prop := fnExactValidBondRow.holds Tryd.pinned (OpenSpec.ofChange fnExactValidBondWrong)

/-- 'laws.FnExactFlowsOf': WHATEVER THE INPUT: true; the input reads as it did. -/
def fnExactFlowsOfSpec : ChangeSpec := { name := "fnExactFlowsOf", vars := ["loop.example/bonddesk/impl.monthStart"], fn := fun _ => fun
  | [d, g1] => { results := [.lit (.bool true)], args := [d], vars := [g1] }
  | _ => none }
def fnExactFlowsOfRow : OpenClaim := { program := "ytjghcecannapcaadoor", sum := "e052781fe534d578a85aed71befed1731701a83b8bf4f1e5831864f255448c34", func := "loop.example/bonddesk/laws.FnExactFlowsOf", spec := "fnExactFlowsOf", unfollowed := true, recurses := true, named := ["loop.example/bonddesk/impl.monthStart"], apart := false, laid := [("loop.example/bonddesk/impl.monthStart", laid_loop_example_bonddesk_impl_monthStart)] }
def FnExactFlowsOfSaid : Prop := fnExactFlowsOfRow.holds Tryd.pinned (OpenSpec.ofChange fnExactFlowsOfSpec)

/-- ITS FALSE NEIGHBOUR: 'it returns false'. Refute it at one input. -/
def fnExactFlowsOfWrong : ChangeSpec := { name := "fnExactFlowsOf", vars := ["loop.example/bonddesk/impl.monthStart"], fn := fun _ => fun
  | [d, g1] => { results := [.lit (.bool false)], args := [d], vars := [g1] }
  | _ => none }
def FnExactFlowsOfWrongFalsely : Prop := fnExactFlowsOfRow.holds Tryd.pinned (OpenSpec.ofChange fnExactFlowsOfWrong)

/-- 'laws.FnExactFlowsAfter': WHATEVER THE INPUT: true; the input reads as it did. -/
def fnExactFlowsAfterSpec : ChangeSpec := { name := "fnExactFlowsAfter", vars := ["loop.example/bonddesk/impl.monthStart"], fn := fun _ => fun
  | [d1, d2, g1] => { results := [.lit (.bool true)], args := [d1, d2], vars := [g1] }
  | _ => none }
def fnExactFlowsAfterRow : OpenClaim := { program := "ytjghcecannapcaadoor", sum := "e052781fe534d578a85aed71befed1731701a83b8bf4f1e5831864f255448c34", func := "loop.example/bonddesk/laws.FnExactFlowsAfter", spec := "fnExactFlowsAfter", unfollowed := true, recurses := true, named := ["loop.example/bonddesk/impl.monthStart"], apart := false, laid := [("loop.example/bonddesk/impl.monthStart", laid_loop_example_bonddesk_impl_monthStart)] }
def FnExactFlowsAfterSaid : Prop := fnExactFlowsAfterRow.holds Tryd.pinned (OpenSpec.ofChange fnExactFlowsAfterSpec)

/-- ITS FALSE NEIGHBOUR: 'it returns false'. Refute it at one input. -/
def fnExactFlowsAfterWrong : ChangeSpec := { name := "fnExactFlowsAfter", vars := ["loop.example/bonddesk/impl.monthStart"], fn := fun _ => fun
  | [d1, d2, g1] => { results := [.lit (.bool false)], args := [d1, d2], vars := [g1] }
  | _ => none }
def FnExactFlowsAfterWrongFalsely : Prop := fnExactFlowsAfterRow.holds Tryd.pinned (OpenSpec.ofChange fnExactFlowsAfterWrong)

/-- 'laws.FnExactTotalOf': WHATEVER THE INPUT: true; the input reads as it did. -/
def fnExactTotalOfSpec : ChangeSpec := { name := "fnExactTotalOf", vars := ["loop.example/bonddesk/impl.monthStart"], fn := fun _ => fun
  | [d, g1] => { results := [.lit (.bool true)], args := [d], vars := [g1] }
  | _ => none }
def fnExactTotalOfRow : OpenClaim := { program := "ytjghcecannapcaadoor", sum := "e052781fe534d578a85aed71befed1731701a83b8bf4f1e5831864f255448c34", func := "loop.example/bonddesk/laws.FnExactTotalOf", spec := "fnExactTotalOf", unfollowed := true, recurses := true, named := ["loop.example/bonddesk/impl.monthStart"], apart := false, laid := [("loop.example/bonddesk/impl.monthStart", laid_loop_example_bonddesk_impl_monthStart)] }
def FnExactTotalOfSaid : Prop := fnExactTotalOfRow.holds Tryd.pinned (OpenSpec.ofChange fnExactTotalOfSpec)

/-- ITS FALSE NEIGHBOUR: 'it returns false'. Refute it at one input. -/
def fnExactTotalOfWrong : ChangeSpec := { name := "fnExactTotalOf", vars := ["loop.example/bonddesk/impl.monthStart"], fn := fun _ => fun
  | [d, g1] => { results := [.lit (.bool false)], args := [d], vars := [g1] }
  | _ => none }
def FnExactTotalOfWrongFalsely : Prop := fnExactTotalOfRow.holds Tryd.pinned (OpenSpec.ofChange fnExactTotalOfWrong)

/- THE SECOND FORM. 'bulk': how many values and letters a reading holds, each counted each time it is reached (what is shared counts as often as it is met; a slice's spare places count too). A statement '..UptoSaid' is the law's where the arguments, and the package variables that the reading takes, are together of bulk at most 1048576: NARROWER than '..Said'. Prove '..Said' where nothing that the law and all that it calls make is longer than what came in: it says more and counts as full. Else prove '..UptoSaid'. A law counts once. -/
mutual
def uptoBulk {H : Type} : DataW H → Nat
  | .lit (.string bytes) => bytes.length + 1
  | .lit _ => 1
  | .nil => 1
  | .ptr d => uptoBulk d + 1
  | .slice elems spare => uptoBulkAll elems + uptoBulkAll spare + 1
  | .agg parts => uptoBulkAll parts + 1
  | .iface _ d => uptoBulk d + 1
  | .map entries => uptoBulkEntries entries + 1
  | .held _ => 1
def uptoBulkAll {H : Type} : List (DataW H) → Nat
  | [] => 0
  | d :: r => uptoBulk d + uptoBulkAll r
def uptoBulkEntries {H : Type} : List (Lit × DataW H) → Nat
  | [] => 0
  | x :: r => uptoBulkEntry x + uptoBulkEntries r
def uptoBulkEntry {H : Type} : Lit × DataW H → Nat
  | (.string bytes, d) => bytes.length + uptoBulk d + 1
  | (_, d) => uptoBulk d + 1
 end
def uptoSmall : (H : Type) → List (DataW H) → Bool := fun _ ds => decide (uptoBulkAll ds ≤ 1048576)
def OpenSpec.upto (s : _root_.Go.ChangeSpec) : _root_.Go.OpenSpec := { _root_.Go.OpenSpec.ofChange s with cond := some uptoSmall }

/-- 'laws.FnValidBond', WHERE WHAT IT READS IS OF BULK AT MOST 1048576: true; the input reads as it did. -/
def fnValidBondUptoRow : OpenClaim := { program := "ytjghcecannapcaadoor", sum := "e052781fe534d578a85aed71befed1731701a83b8bf4f1e5831864f255448c34", func := "loop.example/bonddesk/laws.FnValidBond", spec := "fnValidBond", unfollowed := true, recurses := true, named := ["loop.example/bonddesk/impl.monthStart"], apart := false, laid := [("loop.example/bonddesk/impl.monthStart", laid_loop_example_bonddesk_impl_monthStart)], narrowed := true }
def FnValidBondUptoSaid : Prop := fnValidBondUptoRow.holds Tryd.pinned (OpenSpec.upto fnValidBondSpec)

/-- 'laws.FnFlowsOf', WHERE WHAT IT READS IS OF BULK AT MOST 1048576: true; the input reads as it did. -/
def fnFlowsOfUptoRow : OpenClaim := { program := "ytjghcecannapcaadoor", sum := "e052781fe534d578a85aed71befed1731701a83b8bf4f1e5831864f255448c34", func := "loop.example/bonddesk/laws.FnFlowsOf", spec := "fnFlowsOf", unfollowed := true, recurses := true, named := ["loop.example/bonddesk/impl.monthStart"], apart := false, laid := [("loop.example/bonddesk/impl.monthStart", laid_loop_example_bonddesk_impl_monthStart)], narrowed := true }
def FnFlowsOfUptoSaid : Prop := fnFlowsOfUptoRow.holds Tryd.pinned (OpenSpec.upto fnFlowsOfSpec)

/-- 'laws.FnFlowsOfEqual', WHERE WHAT IT READS IS OF BULK AT MOST 1048576: true; the input reads as it did. -/
def fnFlowsOfEqualUptoRow : OpenClaim := { program := "ytjghcecannapcaadoor", sum := "e052781fe534d578a85aed71befed1731701a83b8bf4f1e5831864f255448c34", func := "loop.example/bonddesk/laws.FnFlowsOfEqual", spec := "fnFlowsOfEqual", unfollowed := true, recurses := true, named := ["loop.example/bonddesk/impl.monthStart"], apart := false, laid := [("loop.example/bonddesk/impl.monthStart", laid_loop_example_bonddesk_impl_monthStart)], narrowed := true }
def FnFlowsOfEqualUptoSaid : Prop := fnFlowsOfEqualUptoRow.holds Tryd.pinned (OpenSpec.upto fnFlowsOfEqualSpec)

/-- 'laws.FnFlowsOfRate', WHERE WHAT IT READS IS OF BULK AT MOST 1048576: true; the input reads as it did. -/
def fnFlowsOfRateUptoRow : OpenClaim := { program := "ytjghcecannapcaadoor", sum := "e052781fe534d578a85aed71befed1731701a83b8bf4f1e5831864f255448c34", func := "loop.example/bonddesk/laws.FnFlowsOfRate", spec := "fnFlowsOfRate", unfollowed := true, recurses := true, named := ["loop.example/bonddesk/impl.monthStart"], apart := false, laid := [("loop.example/bonddesk/impl.monthStart", laid_loop_example_bonddesk_impl_monthStart)], narrowed := true }
def FnFlowsOfRateUptoSaid : Prop := fnFlowsOfRateUptoRow.holds Tryd.pinned (OpenSpec.upto fnFlowsOfRateSpec)

/-- 'laws.FnFlowsAfter', WHERE WHAT IT READS IS OF BULK AT MOST 1048576: true; the input reads as it did. -/
def fnFlowsAfterUptoRow : OpenClaim := { program := "ytjghcecannapcaadoor", sum := "e052781fe534d578a85aed71befed1731701a83b8bf4f1e5831864f255448c34", func := "loop.example/bonddesk/laws.FnFlowsAfter", spec := "fnFlowsAfter", unfollowed := true, recurses := true, named := ["loop.example/bonddesk/impl.monthStart"], apart := false, laid := [("loop.example/bonddesk/impl.monthStart", laid_loop_example_bonddesk_impl_monthStart)], narrowed := true }
def FnFlowsAfterUptoSaid : Prop := fnFlowsAfterUptoRow.holds Tryd.pinned (OpenSpec.upto fnFlowsAfterSpec)

/-- 'laws.FnTotalOf', WHERE WHAT IT READS IS OF BULK AT MOST 1048576: true; the input reads as it did. -/
def fnTotalOfUptoRow : OpenClaim := { program := "ytjghcecannapcaadoor", sum := "e052781fe534d578a85aed71befed1731701a83b8bf4f1e5831864f255448c34", func := "loop.example/bonddesk/laws.FnTotalOf", spec := "fnTotalOf", unfollowed := true, recurses := true, named := ["loop.example/bonddesk/impl.monthStart"], apart := false, laid := [("loop.example/bonddesk/impl.monthStart", laid_loop_example_bonddesk_impl_monthStart)], narrowed := true }
def FnTotalOfUptoSaid : Prop := fnTotalOfUptoRow.holds Tryd.pinned (OpenSpec.upto fnTotalOfSpec)

/-- 'laws.FnFlowsAfterNone', WHERE WHAT IT READS IS OF BULK AT MOST 1048576: true; the input reads as it did. -/
def fnFlowsAfterNoneUptoRow : OpenClaim := { program := "ytjghcecannapcaadoor", sum := "e052781fe534d578a85aed71befed1731701a83b8bf4f1e5831864f255448c34", func := "loop.example/bonddesk/laws.FnFlowsAfterNone", spec := "fnFlowsAfterNone", unfollowed := true, recurses := true, named := ["loop.example/bonddesk/impl.monthStart"], apart := false, laid := [("loop.example/bonddesk/impl.monthStart", laid_loop_example_bonddesk_impl_monthStart)], narrowed := true }
def FnFlowsAfterNoneUptoSaid : Prop := fnFlowsAfterNoneUptoRow.holds Tryd.pinned (OpenSpec.upto fnFlowsAfterNoneSpec)

/-- 'laws.FnExactValidBond', WHERE WHAT IT READS IS OF BULK AT MOST 1048576: true; the input reads as it did. -/
def fnExactValidBondUptoRow : OpenClaim := { program := "ytjghcecannapcaadoor", sum := "e052781fe534d578a85aed71befed1731701a83b8bf4f1e5831864f255448c34", func := "loop.example/bonddesk/laws.FnExactValidBond", spec := "fnExactValidBond", unfollowed := true, recurses := true, named := ["loop.example/bonddesk/impl.monthStart"], apart := false, laid := [("loop.example/bonddesk/impl.monthStart", laid_loop_example_bonddesk_impl_monthStart)], narrowed := true }
def FnExactValidBondUptoSaid : Prop := fnExactValidBondUptoRow.holds Tryd.pinned (OpenSpec.upto fnExactValidBondSpec)

/-- 'laws.FnExactFlowsOf', WHERE WHAT IT READS IS OF BULK AT MOST 1048576: true; the input reads as it did. -/
def fnExactFlowsOfUptoRow : OpenClaim := { program := "ytjghcecannapcaadoor", sum := "e052781fe534d578a85aed71befed1731701a83b8bf4f1e5831864f255448c34", func := "loop.example/bonddesk/laws.FnExactFlowsOf", spec := "fnExactFlowsOf", unfollowed := true, recurses := true, named := ["loop.example/bonddesk/impl.monthStart"], apart := false, laid := [("loop.example/bonddesk/impl.monthStart", laid_loop_example_bonddesk_impl_monthStart)], narrowed := true }
def FnExactFlowsOfUptoSaid : Prop := fnExactFlowsOfUptoRow.holds Tryd.pinned (OpenSpec.upto fnExactFlowsOfSpec)

/-- 'laws.FnExactFlowsAfter', WHERE WHAT IT READS IS OF BULK AT MOST 1048576: true; the input reads as it did. -/
def fnExactFlowsAfterUptoRow : OpenClaim := { program := "ytjghcecannapcaadoor", sum := "e052781fe534d578a85aed71befed1731701a83b8bf4f1e5831864f255448c34", func := "loop.example/bonddesk/laws.FnExactFlowsAfter", spec := "fnExactFlowsAfter", unfollowed := true, recurses := true, named := ["loop.example/bonddesk/impl.monthStart"], apart := false, laid := [("loop.example/bonddesk/impl.monthStart", laid_loop_example_bonddesk_impl_monthStart)], narrowed := true }
def FnExactFlowsAfterUptoSaid : Prop := fnExactFlowsAfterUptoRow.holds Tryd.pinned (OpenSpec.upto fnExactFlowsAfterSpec)

/-- 'laws.FnExactTotalOf', WHERE WHAT IT READS IS OF BULK AT MOST 1048576: true; the input reads as it did. -/
def fnExactTotalOfUptoRow : OpenClaim := { program := "ytjghcecannapcaadoor", sum := "e052781fe534d578a85aed71befed1731701a83b8bf4f1e5831864f255448c34", func := "loop.example/bonddesk/laws.FnExactTotalOf", spec := "fnExactTotalOf", unfollowed := true, recurses := true, named := ["loop.example/bonddesk/impl.monthStart"], apart := false, laid := [("loop.example/bonddesk/impl.monthStart", laid_loop_example_bonddesk_impl_monthStart)], narrowed := true }
def FnExactTotalOfUptoSaid : Prop := fnExactTotalOfUptoRow.holds Tryd.pinned (OpenSpec.upto fnExactTotalOfSpec)

end Rows
end Go.Proofs.YtjghcecannapcaaDoor
