/-
  NARROWER THAN 'FOR EVERY INPUT', by the rows' own cells (each row's printed sentence says how): FnExactPriceOf: ifaces, laid · FnExactYieldOf: ifaces, laid · FnTopYield: ifaces, laid · FnExactRiskOf: ifaces, laid · FnLifeOf: laid · FnLifeOfZero: laid · FnExactLifeOf: laid.
  DERIVED. THE GIVEN ROWS OF THIS SEAT. 7 by the template 'for every input the law returns true; each argument reads behind the call as it read before'; 0 by the template 'total and deterministic' (their statements: YtkdooncfchmkfaaDoorTotals.lean).
  GIVEN WITH THE SEED: the statements are not yours to turn. If you find one false, say at which input.
  Laid BY PROGRAM, IN A SANDBOX (cutbox-rows.mjs): the forced cells as the released guide's own fill.sh prints them over the translation c6c8faf4a3900d27… (all of the seat's roots in one cut). By AI agents, Wed Nov 11 2026. No macro, syntax, notation, axiom, sorry.
-/
import Derived.Test.YtkdooncfchmkfaaDoorChecked
import GoSem.Claim
import GoSem.ClaimJoined
import GoSem.ClaimMapViews
import Derived.JoinedTies
import Derived.KernelRfl
namespace Go.Proofs.YtkdooncfchmkfaaDoor
/- THE CELL 'sum', in the pinned program and in every row, IS THE sha256 OF THE DUMP (.gsa) THAT YtkdooncfchmkfaaDoorProg.lean LOADS. Nothing in Lean hashes anything: it is a label: what it is worth is what the hold of that sum in a sandbox is worth. -/
noncomputable def Tryd.pinned : Pinned := { name := "ytkdooncfchmkfaadoor", sum := "c6c8faf4a3900d274ad92cfbc760b9afc9dd1ea21ab7d7718f505af9e5548794", checked := Tryd.checked }
namespace Rows
def none {H : Type} : Left H := { results := [], args := [] }

/- WHAT THE LISTED PACKAGE-LEVEL VARIABLES READ AS WHEN THE CALL BEGINS. Each datum BY PROGRAM (the guide's laid-datum.mjs) off the statement by which the dump's own 'gosem.cut.vars' lays the variable. In a bare row this is a premise. The card (YtkdooncfchmkfaaDoorCards.lean) ties it to the program's text. -/
def laid_loop_example_bonddesk_impl_monthStart {H : Type} : DataW H := .agg [.lit (.int .i64 0), .lit (.int .i64 31), .lit (.int .i64 59), .lit (.int .i64 90), .lit (.int .i64 120), .lit (.int .i64 151), .lit (.int .i64 181), .lit (.int .i64 212), .lit (.int .i64 243), .lit (.int .i64 273), .lit (.int .i64 304), .lit (.int .i64 334), .lit (.int .i64 365)]
def laid_loop_example_bonddesk_impl_errRange {H : Type} : DataW H := .iface "*errors.errorString" (.ptr (.agg [.lit (.string [110, 111, 32, 118, 97, 108, 105, 100, 32, 114, 97, 110, 103, 101])]))

/-- 'laws.FnExactPriceOf': WHATEVER THE INPUT: true; the input reads as it did. -/
def fnExactPriceOfSpec : ChangeSpec := { name := "fnExactPriceOf", vars := ["loop.example/bonddesk/impl.monthStart", "loop.example/bonddesk/impl.errRange"], fn := fun _ => fun
  | [d1, d2, d3, g1, g2] => { results := [.lit (.bool true)], args := [d1, d2, d3], vars := [g1, g2] }
  | _ => none }
def fnExactPriceOfRow : OpenClaim := { program := "ytkdooncfchmkfaadoor", sum := "c6c8faf4a3900d274ad92cfbc760b9afc9dd1ea21ab7d7718f505af9e5548794", func := "loop.example/bonddesk/laws.FnExactPriceOf", spec := "fnExactPriceOf", inPlace := ["internal/reflectlite.TypeOf"], unfollowed := true, recurses := true, named := ["loop.example/bonddesk/impl.monthStart", "loop.example/bonddesk/impl.errRange"], ifaces := true, apart := false, laid := [("loop.example/bonddesk/impl.monthStart", laid_loop_example_bonddesk_impl_monthStart), ("loop.example/bonddesk/impl.errRange", laid_loop_example_bonddesk_impl_errRange)] }
def FnExactPriceOfSaid : Prop := fnExactPriceOfRow.holds Tryd.pinned (OpenSpec.ofChange fnExactPriceOfSpec)

/-- ITS FALSE NEIGHBOUR: 'it returns false'. Refute it at one input. -/
def fnExactPriceOfWrong : ChangeSpec := { name := "fnExactPriceOf", vars := ["loop.example/bonddesk/impl.monthStart", "loop.example/bonddesk/impl.errRange"], fn := fun _ => fun
  | [d1, d2, d3, g1, g2] => { results := [.lit (.bool false)], args := [d1, d2, d3], vars := [g1, g2] }
  | _ => none }
def FnExactPriceOfWrongFalsely : Prop := fnExactPriceOfRow.holds Tryd.pinned (OpenSpec.ofChange fnExactPriceOfWrong)

/-- 'laws.FnExactYieldOf': WHATEVER THE INPUT: true; the input reads as it did. -/
def fnExactYieldOfSpec : ChangeSpec := { name := "fnExactYieldOf", vars := ["loop.example/bonddesk/impl.monthStart", "loop.example/bonddesk/impl.errRange"], fn := fun _ => fun
  | [d1, d2, d3, g1, g2] => { results := [.lit (.bool true)], args := [d1, d2, d3], vars := [g1, g2] }
  | _ => none }
def fnExactYieldOfRow : OpenClaim := { program := "ytkdooncfchmkfaadoor", sum := "c6c8faf4a3900d274ad92cfbc760b9afc9dd1ea21ab7d7718f505af9e5548794", func := "loop.example/bonddesk/laws.FnExactYieldOf", spec := "fnExactYieldOf", inPlace := ["internal/reflectlite.TypeOf"], unfollowed := true, recurses := true, named := ["loop.example/bonddesk/impl.monthStart", "loop.example/bonddesk/impl.errRange"], ifaces := true, apart := false, laid := [("loop.example/bonddesk/impl.monthStart", laid_loop_example_bonddesk_impl_monthStart), ("loop.example/bonddesk/impl.errRange", laid_loop_example_bonddesk_impl_errRange)] }
def FnExactYieldOfSaid : Prop := fnExactYieldOfRow.holds Tryd.pinned (OpenSpec.ofChange fnExactYieldOfSpec)

/-- ITS FALSE NEIGHBOUR: 'it returns false'. Refute it at one input. -/
def fnExactYieldOfWrong : ChangeSpec := { name := "fnExactYieldOf", vars := ["loop.example/bonddesk/impl.monthStart", "loop.example/bonddesk/impl.errRange"], fn := fun _ => fun
  | [d1, d2, d3, g1, g2] => { results := [.lit (.bool false)], args := [d1, d2, d3], vars := [g1, g2] }
  | _ => none }
def FnExactYieldOfWrongFalsely : Prop := fnExactYieldOfRow.holds Tryd.pinned (OpenSpec.ofChange fnExactYieldOfWrong)

/-- 'laws.FnTopYield': WHATEVER THE INPUT: true; the input reads as it did. -/
def fnTopYieldSpec : ChangeSpec := { name := "fnTopYield", vars := ["loop.example/bonddesk/impl.monthStart", "loop.example/bonddesk/impl.errRange"], fn := fun _ => fun
  | [d1, d2, d3, g1, g2] => { results := [.lit (.bool true)], args := [d1, d2, d3], vars := [g1, g2] }
  | _ => none }
def fnTopYieldRow : OpenClaim := { program := "ytkdooncfchmkfaadoor", sum := "c6c8faf4a3900d274ad92cfbc760b9afc9dd1ea21ab7d7718f505af9e5548794", func := "loop.example/bonddesk/laws.FnTopYield", spec := "fnTopYield", inPlace := ["internal/reflectlite.TypeOf"], unfollowed := true, recurses := true, named := ["loop.example/bonddesk/impl.monthStart", "loop.example/bonddesk/impl.errRange"], ifaces := true, apart := false, laid := [("loop.example/bonddesk/impl.monthStart", laid_loop_example_bonddesk_impl_monthStart), ("loop.example/bonddesk/impl.errRange", laid_loop_example_bonddesk_impl_errRange)] }
def FnTopYieldSaid : Prop := fnTopYieldRow.holds Tryd.pinned (OpenSpec.ofChange fnTopYieldSpec)

/-- ITS FALSE NEIGHBOUR: 'it returns false'. Refute it at one input. -/
def fnTopYieldWrong : ChangeSpec := { name := "fnTopYield", vars := ["loop.example/bonddesk/impl.monthStart", "loop.example/bonddesk/impl.errRange"], fn := fun _ => fun
  | [d1, d2, d3, g1, g2] => { results := [.lit (.bool false)], args := [d1, d2, d3], vars := [g1, g2] }
  | _ => none }
def FnTopYieldWrongFalsely : Prop := fnTopYieldRow.holds Tryd.pinned (OpenSpec.ofChange fnTopYieldWrong)

/-- 'laws.FnExactRiskOf': WHATEVER THE INPUT: true; the input reads as it did. -/
def fnExactRiskOfSpec : ChangeSpec := { name := "fnExactRiskOf", vars := ["loop.example/bonddesk/impl.monthStart", "loop.example/bonddesk/impl.errRange"], fn := fun _ => fun
  | [d1, d2, d3, g1, g2] => { results := [.lit (.bool true)], args := [d1, d2, d3], vars := [g1, g2] }
  | _ => none }
def fnExactRiskOfRow : OpenClaim := { program := "ytkdooncfchmkfaadoor", sum := "c6c8faf4a3900d274ad92cfbc760b9afc9dd1ea21ab7d7718f505af9e5548794", func := "loop.example/bonddesk/laws.FnExactRiskOf", spec := "fnExactRiskOf", inPlace := ["internal/reflectlite.TypeOf"], unfollowed := true, recurses := true, named := ["loop.example/bonddesk/impl.monthStart", "loop.example/bonddesk/impl.errRange"], ifaces := true, apart := false, laid := [("loop.example/bonddesk/impl.monthStart", laid_loop_example_bonddesk_impl_monthStart), ("loop.example/bonddesk/impl.errRange", laid_loop_example_bonddesk_impl_errRange)] }
def FnExactRiskOfSaid : Prop := fnExactRiskOfRow.holds Tryd.pinned (OpenSpec.ofChange fnExactRiskOfSpec)

/-- ITS FALSE NEIGHBOUR: 'it returns false'. Refute it at one input. -/
def fnExactRiskOfWrong : ChangeSpec := { name := "fnExactRiskOf", vars := ["loop.example/bonddesk/impl.monthStart", "loop.example/bonddesk/impl.errRange"], fn := fun _ => fun
  | [d1, d2, d3, g1, g2] => { results := [.lit (.bool false)], args := [d1, d2, d3], vars := [g1, g2] }
  | _ => none }
def FnExactRiskOfWrongFalsely : Prop := fnExactRiskOfRow.holds Tryd.pinned (OpenSpec.ofChange fnExactRiskOfWrong)

/-- 'laws.FnLifeOf': WHATEVER THE INPUT: true; the input reads as it did. -/
def fnLifeOfSpec : ChangeSpec := { name := "fnLifeOf", vars := ["loop.example/bonddesk/impl.monthStart"], fn := fun _ => fun
  | [d, g1] => { results := [.lit (.bool true)], args := [d], vars := [g1] }
  | _ => none }
def fnLifeOfRow : OpenClaim := { program := "ytkdooncfchmkfaadoor", sum := "c6c8faf4a3900d274ad92cfbc760b9afc9dd1ea21ab7d7718f505af9e5548794", func := "loop.example/bonddesk/laws.FnLifeOf", spec := "fnLifeOf", unfollowed := true, recurses := true, named := ["loop.example/bonddesk/impl.monthStart"], apart := false, laid := [("loop.example/bonddesk/impl.monthStart", laid_loop_example_bonddesk_impl_monthStart)] }
def FnLifeOfSaid : Prop := fnLifeOfRow.holds Tryd.pinned (OpenSpec.ofChange fnLifeOfSpec)

/-- ITS FALSE NEIGHBOUR: 'it returns false'. Refute it at one input. -/
def fnLifeOfWrong : ChangeSpec := { name := "fnLifeOf", vars := ["loop.example/bonddesk/impl.monthStart"], fn := fun _ => fun
  | [d, g1] => { results := [.lit (.bool false)], args := [d], vars := [g1] }
  | _ => none }
def FnLifeOfWrongFalsely : Prop := fnLifeOfRow.holds Tryd.pinned (OpenSpec.ofChange fnLifeOfWrong)

/-- 'laws.FnLifeOfZero': WHATEVER THE INPUT: true; the input reads as it did. -/
def fnLifeOfZeroSpec : ChangeSpec := { name := "fnLifeOfZero", vars := ["loop.example/bonddesk/impl.monthStart"], fn := fun _ => fun
  | [d, g1] => { results := [.lit (.bool true)], args := [d], vars := [g1] }
  | _ => none }
def fnLifeOfZeroRow : OpenClaim := { program := "ytkdooncfchmkfaadoor", sum := "c6c8faf4a3900d274ad92cfbc760b9afc9dd1ea21ab7d7718f505af9e5548794", func := "loop.example/bonddesk/laws.FnLifeOfZero", spec := "fnLifeOfZero", unfollowed := true, recurses := true, named := ["loop.example/bonddesk/impl.monthStart"], apart := false, laid := [("loop.example/bonddesk/impl.monthStart", laid_loop_example_bonddesk_impl_monthStart)] }
def FnLifeOfZeroSaid : Prop := fnLifeOfZeroRow.holds Tryd.pinned (OpenSpec.ofChange fnLifeOfZeroSpec)

/-- ITS FALSE NEIGHBOUR: 'it returns false'. Refute it at one input. -/
def fnLifeOfZeroWrong : ChangeSpec := { name := "fnLifeOfZero", vars := ["loop.example/bonddesk/impl.monthStart"], fn := fun _ => fun
  | [d, g1] => { results := [.lit (.bool false)], args := [d], vars := [g1] }
  | _ => none }
def FnLifeOfZeroWrongFalsely : Prop := fnLifeOfZeroRow.holds Tryd.pinned (OpenSpec.ofChange fnLifeOfZeroWrong)

/-- 'laws.FnExactLifeOf': WHATEVER THE INPUT: true; the input reads as it did. -/
def fnExactLifeOfSpec : ChangeSpec := { name := "fnExactLifeOf", vars := ["loop.example/bonddesk/impl.monthStart"], fn := fun _ => fun
  | [d1, d2, g1] => { results := [.lit (.bool true)], args := [d1, d2], vars := [g1] }
  | _ => none }
def fnExactLifeOfRow : OpenClaim := { program := "ytkdooncfchmkfaadoor", sum := "c6c8faf4a3900d274ad92cfbc760b9afc9dd1ea21ab7d7718f505af9e5548794", func := "loop.example/bonddesk/laws.FnExactLifeOf", spec := "fnExactLifeOf", unfollowed := true, recurses := true, named := ["loop.example/bonddesk/impl.monthStart"], apart := false, laid := [("loop.example/bonddesk/impl.monthStart", laid_loop_example_bonddesk_impl_monthStart)] }
def FnExactLifeOfSaid : Prop := fnExactLifeOfRow.holds Tryd.pinned (OpenSpec.ofChange fnExactLifeOfSpec)

/-- ITS FALSE NEIGHBOUR: 'it returns false'. Refute it at one input. -/
def fnExactLifeOfWrong : ChangeSpec := { name := "fnExactLifeOf", vars := ["loop.example/bonddesk/impl.monthStart"], fn := fun _ => fun
  | [d1, d2, g1] => { results := [.lit (.bool false)], args := [d1, d2], vars := [g1] }
  | _ => none }
def FnExactLifeOfWrongFalsely : Prop := fnExactLifeOfRow.holds Tryd.pinned (OpenSpec.ofChange fnExactLifeOfWrong)

/- THE SECOND FORM. 'bulk': how many values and letters a reading holds, each counted each time it is reached (what is shared counts as often as it is met; a slice's spare places count too). A statement '..UptoSaid' is the law's where the arguments, and the package variables that the reading takes, are together of bulk at most 1048576: NARROWER than '..Said'. Prove '..Said' where nothing that the law and all that it calls make is longer than what came in: it says more and counts as full. Else prove '..UptoSaid'. A law counts once. -/
mutual
def uptoBulk {H : Type} : DataW H → Nat
  | .lit (.string bytes) => bytes.length + 1
  | .lit _ => 1
  | .nil => 1
  | .ptr d => uptoBulk d + 1
  | .slice elems spare => uptoBulkAll elems + uptoBulkAll spare + 1
  | .agg parts => uptoBulkAll parts + 1
  | .iface _ d => uptoBulk d + 1
  | .map entries => uptoBulkEntries entries + 1
  | .held _ => 1
def uptoBulkAll {H : Type} : List (DataW H) → Nat
  | [] => 0
  | d :: r => uptoBulk d + uptoBulkAll r
def uptoBulkEntries {H : Type} : List (Lit × DataW H) → Nat
  | [] => 0
  | x :: r => uptoBulkEntry x + uptoBulkEntries r
def uptoBulkEntry {H : Type} : Lit × DataW H → Nat
  | (.string bytes, d) => bytes.length + uptoBulk d + 1
  | (_, d) => uptoBulk d + 1
 end
def uptoSmall : (H : Type) → List (DataW H) → Bool := fun _ ds => decide (uptoBulkAll ds ≤ 1048576)
def OpenSpec.upto (s : _root_.Go.ChangeSpec) : _root_.Go.OpenSpec := { _root_.Go.OpenSpec.ofChange s with cond := some uptoSmall }

/-- 'laws.FnExactPriceOf', WHERE WHAT IT READS IS OF BULK AT MOST 1048576: true; the input reads as it did. -/
def fnExactPriceOfUptoRow : OpenClaim := { program := "ytkdooncfchmkfaadoor", sum := "c6c8faf4a3900d274ad92cfbc760b9afc9dd1ea21ab7d7718f505af9e5548794", func := "loop.example/bonddesk/laws.FnExactPriceOf", spec := "fnExactPriceOf", inPlace := ["internal/reflectlite.TypeOf"], unfollowed := true, recurses := true, named := ["loop.example/bonddesk/impl.monthStart", "loop.example/bonddesk/impl.errRange"], ifaces := true, apart := false, laid := [("loop.example/bonddesk/impl.monthStart", laid_loop_example_bonddesk_impl_monthStart), ("loop.example/bonddesk/impl.errRange", laid_loop_example_bonddesk_impl_errRange)], narrowed := true }
def FnExactPriceOfUptoSaid : Prop := fnExactPriceOfUptoRow.holds Tryd.pinned (OpenSpec.upto fnExactPriceOfSpec)

/-- 'laws.FnExactYieldOf', WHERE WHAT IT READS IS OF BULK AT MOST 1048576: true; the input reads as it did. -/
def fnExactYieldOfUptoRow : OpenClaim := { program := "ytkdooncfchmkfaadoor", sum := "c6c8faf4a3900d274ad92cfbc760b9afc9dd1ea21ab7d7718f505af9e5548794", func := "loop.example/bonddesk/laws.FnExactYieldOf", spec := "fnExactYieldOf", inPlace := ["internal/reflectlite.TypeOf"], unfollowed := true, recurses := true, named := ["loop.example/bonddesk/impl.monthStart", "loop.example/bonddesk/impl.errRange"], ifaces := true, apart := false, laid := [("loop.example/bonddesk/impl.monthStart", laid_loop_example_bonddesk_impl_monthStart), ("loop.example/bonddesk/impl.errRange", laid_loop_example_bonddesk_impl_errRange)], narrowed := true }
def FnExactYieldOfUptoSaid : Prop := fnExactYieldOfUptoRow.holds Tryd.pinned (OpenSpec.upto fnExactYieldOfSpec)

/-- 'laws.FnTopYield', WHERE WHAT IT READS IS OF BULK AT MOST 1048576: true; the input reads as it did. -/
def fnTopYieldUptoRow : OpenClaim := { program := "ytkdooncfchmkfaadoor", sum := "c6c8faf4a3900d274ad92cfbc760b9afc9dd1ea21ab7d7718f505af9e5548794", func := "loop.example/bonddesk/laws.FnTopYield", spec := "fnTopYield", inPlace := ["internal/reflectlite.TypeOf"], unfollowed := true, recurses := true, named := ["loop.example/bonddesk/impl.monthStart", "loop.example/bonddesk/impl.errRange"], ifaces := true, apart := false, laid := [("loop.example/bonddesk/impl.monthStart", laid_loop_example_bonddesk_impl_monthStart), ("loop.example/bonddesk/impl.errRange", laid_loop_example_bonddesk_impl_errRange)], narrowed := true }
def FnTopYieldUptoSaid : Prop := fnTopYieldUptoRow.holds Tryd.pinned (OpenSpec.upto fnTopYieldSpec)

/-- 'laws.FnExactRiskOf', WHERE WHAT IT READS IS OF BULK AT MOST 1048576: true; the input reads as it did. -/
def fnExactRiskOfUptoRow : OpenClaim := { program := "ytkdooncfchmkfaadoor", sum := "c6c8faf4a3900d274ad92cfbc760b9afc9dd1ea21ab7d7718f505af9e5548794", func := "loop.example/bonddesk/laws.FnExactRiskOf", spec := "fnExactRiskOf", inPlace := ["internal/reflectlite.TypeOf"], unfollowed := true, recurses := true, named := ["loop.example/bonddesk/impl.monthStart", "loop.example/bonddesk/impl.errRange"], ifaces := true, apart := false, laid := [("loop.example/bonddesk/impl.monthStart", laid_loop_example_bonddesk_impl_monthStart), ("loop.example/bonddesk/impl.errRange", laid_loop_example_bonddesk_impl_errRange)], narrowed := true }
def FnExactRiskOfUptoSaid : Prop := fnExactRiskOfUptoRow.holds Tryd.pinned (OpenSpec.upto fnExactRiskOfSpec)

/-- 'laws.FnLifeOf', WHERE WHAT IT READS IS OF BULK AT MOST 1048576: true; the input reads as it did. -/
def fnLifeOfUptoRow : OpenClaim := { program := "ytkdooncfchmkfaadoor", sum := "c6c8faf4a3900d274ad92cfbc760b9afc9dd1ea21ab7d7718f505af9e5548794", func := "loop.example/bonddesk/laws.FnLifeOf", spec := "fnLifeOf", unfollowed := true, recurses := true, named := ["loop.example/bonddesk/impl.monthStart"], apart := false, laid := [("loop.example/bonddesk/impl.monthStart", laid_loop_example_bonddesk_impl_monthStart)], narrowed := true }
def FnLifeOfUptoSaid : Prop := fnLifeOfUptoRow.holds Tryd.pinned (OpenSpec.upto fnLifeOfSpec)

/-- 'laws.FnLifeOfZero', WHERE WHAT IT READS IS OF BULK AT MOST 1048576: true; the input reads as it did. -/
def fnLifeOfZeroUptoRow : OpenClaim := { program := "ytkdooncfchmkfaadoor", sum := "c6c8faf4a3900d274ad92cfbc760b9afc9dd1ea21ab7d7718f505af9e5548794", func := "loop.example/bonddesk/laws.FnLifeOfZero", spec := "fnLifeOfZero", unfollowed := true, recurses := true, named := ["loop.example/bonddesk/impl.monthStart"], apart := false, laid := [("loop.example/bonddesk/impl.monthStart", laid_loop_example_bonddesk_impl_monthStart)], narrowed := true }
def FnLifeOfZeroUptoSaid : Prop := fnLifeOfZeroUptoRow.holds Tryd.pinned (OpenSpec.upto fnLifeOfZeroSpec)

/-- 'laws.FnExactLifeOf', WHERE WHAT IT READS IS OF BULK AT MOST 1048576: true; the input reads as it did. -/
def fnExactLifeOfUptoRow : OpenClaim := { program := "ytkdooncfchmkfaadoor", sum := "c6c8faf4a3900d274ad92cfbc760b9afc9dd1ea21ab7d7718f505af9e5548794", func := "loop.example/bonddesk/laws.FnExactLifeOf", spec := "fnExactLifeOf", unfollowed := true, recurses := true, named := ["loop.example/bonddesk/impl.monthStart"], apart := false, laid := [("loop.example/bonddesk/impl.monthStart", laid_loop_example_bonddesk_impl_monthStart)], narrowed := true }
def FnExactLifeOfUptoSaid : Prop := fnExactLifeOfUptoRow.holds Tryd.pinned (OpenSpec.upto fnExactLifeOfSpec)

end Rows
end Go.Proofs.YtkdooncfchmkfaaDoor
