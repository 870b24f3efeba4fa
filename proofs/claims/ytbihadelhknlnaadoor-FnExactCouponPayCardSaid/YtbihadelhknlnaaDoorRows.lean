/-
  NARROWER THAN 'FOR EVERY INPUT', by the rows' own cells (each row's printed sentence says how): FnCouponPay: laid · FnExactCouponPay: laid.
  DERIVED. THE GIVEN ROWS OF THIS SEAT. 2 by the template 'for every input the law returns true; each argument reads behind the call as it read before'; 0 by the template 'total and deterministic' (their statements: YtbihadelhknlnaaDoorTotals.lean).
  GIVEN WITH THE SEED: the statements are not yours to turn. If you find one false, say at which input.
  Laid BY PROGRAM, IN A SANDBOX (cutbox-rows.mjs): the forced cells as the released guide's own fill.sh prints them over the translation b315a341e9442955… (all of the seat's roots in one cut). By AI agents, Wed Nov 11 2026. No macro, syntax, notation, axiom, sorry.
-/
import Derived.Test.YtbihadelhknlnaaDoorChecked
import GoSem.Claim
import GoSem.ClaimJoined
import GoSem.ClaimMapViews
import Derived.JoinedTies
import Derived.KernelRfl
namespace Go.Proofs.YtbihadelhknlnaaDoor
/- THE CELL 'sum', in the pinned program and in every row, IS THE sha256 OF THE DUMP (.gsa) THAT YtbihadelhknlnaaDoorProg.lean LOADS. Nothing in Lean hashes anything: it is a label: what it is worth is what the hold of that sum in a sandbox is worth. -/
noncomputable def Tryd.pinned : Pinned := { name := "ytbihadelhknlnaadoor", sum := "b315a341e944295568958b604c49c69b71a2355c8dccc43088ca59972c494ca5", checked := Tryd.checked }
namespace Rows
def none {H : Type} : Left H := { results := [], args := [] }

/- WHAT THE LISTED PACKAGE-LEVEL VARIABLES READ AS WHEN THE CALL BEGINS. Each datum BY PROGRAM (the guide's laid-datum.mjs) off the statement by which the dump's own 'gosem.cut.vars' lays the variable. In a bare row this is a premise. The card (YtbihadelhknlnaaDoorCards.lean) ties it to the program's text. -/
def laid_loop_example_bonddesk_impl_monthStart {H : Type} : DataW H := .agg [.lit (.int .i64 0), .lit (.int .i64 31), .lit (.int .i64 59), .lit (.int .i64 90), .lit (.int .i64 120), .lit (.int .i64 151), .lit (.int .i64 181), .lit (.int .i64 212), .lit (.int .i64 243), .lit (.int .i64 273), .lit (.int .i64 304), .lit (.int .i64 334), .lit (.int .i64 365)]

/-- 'laws.FnCouponPay': WHATEVER THE INPUT: true; the input reads as it did. -/
def fnCouponPaySpec : ChangeSpec := { name := "fnCouponPay", vars := ["loop.example/bonddesk/impl.monthStart"], fn := fun _ => fun
  | [d, g1] => { results := [.lit (.bool true)], args := [d], vars := [g1] }
  | _ => none }
def fnCouponPayRow : OpenClaim := { program := "ytbihadelhknlnaadoor", sum := "b315a341e944295568958b604c49c69b71a2355c8dccc43088ca59972c494ca5", func := "loop.example/bonddesk/laws.FnCouponPay", spec := "fnCouponPay", unfollowed := true, recurses := true, named := ["loop.example/bonddesk/impl.monthStart"], apart := false, laid := [("loop.example/bonddesk/impl.monthStart", laid_loop_example_bonddesk_impl_monthStart)] }
def FnCouponPaySaid : Prop := fnCouponPayRow.holds Tryd.pinned (OpenSpec.ofChange fnCouponPaySpec)

/-- ITS FALSE NEIGHBOUR: 'it returns false'. Refute it at one input. -/
def fnCouponPayWrong : ChangeSpec := { name := "fnCouponPay", vars := ["loop.example/bonddesk/impl.monthStart"], fn := fun _ => fun
  | [d, g1] => { results := [.lit (.bool false)], args := [d], vars := [g1] }
  | _ => none }
def FnCouponPayWrongFalsely : Prop := fnCouponPayRow.holds Tryd.pinned (OpenSpec.ofChange fnCouponPayWrong)

/-- 'laws.FnExactCouponPay': WHATEVER THE INPUT: true; the input reads as it did. -/
def fnExactCouponPaySpec : ChangeSpec := { name := "fnExactCouponPay", vars := ["loop.example/bonddesk/impl.monthStart"], fn := fun _ => fun
  | [d1, d2, d3, g1] => { results := [.lit (.bool true)], args := [d1, d2, d3], vars := [g1] }
  | _ => none }
def fnExactCouponPayRow : OpenClaim := { program := "ytbihadelhknlnaadoor", sum := "b315a341e944295568958b604c49c69b71a2355c8dccc43088ca59972c494ca5", func := "loop.example/bonddesk/laws.FnExactCouponPay", spec := "fnExactCouponPay", unfollowed := true, recurses := true, named := ["loop.example/bonddesk/impl.monthStart"], apart := false, laid := [("loop.example/bonddesk/impl.monthStart", laid_loop_example_bonddesk_impl_monthStart)] }
def FnExactCouponPaySaid : Prop := fnExactCouponPayRow.holds Tryd.pinned (OpenSpec.ofChange fnExactCouponPaySpec)

/-- ITS FALSE NEIGHBOUR: 'it returns false'. Refute it at one input. -/
def fnExactCouponPayWrong : ChangeSpec := { name := "fnExactCouponPay", vars := ["loop.example/bonddesk/impl.monthStart"], fn := fun _ => fun
  | [d1, d2, d3, g1] => { results := [.lit (.bool false)], args := [d1, d2, d3], vars := [g1] }
  | _ => none }
def FnExactCouponPayWrongFalsely : Prop := fnExactCouponPayRow.holds Tryd.pinned (OpenSpec.ofChange fnExactCouponPayWrong)

/- THE SECOND FORM. 'bulk': how many values and letters a reading holds, each counted each time it is reached (what is shared counts as often as it is met; a slice's spare places count too). A statement '..UptoSaid' is the law's where the arguments, and the package variables that the reading takes, are together of bulk at most 1048576: NARROWER than '..Said'. Prove '..Said' where nothing that the law and all that it calls make is longer than what came in: it says more and counts as full. Else prove '..UptoSaid'. A law counts once. -/
mutual
def uptoBulk {H : Type} : DataW H → Nat
  | .lit (.string bytes) => bytes.length + 1
  | .lit _ => 1
  | .nil => 1
  | .ptr d => uptoBulk d + 1
  | .slice elems spare => uptoBulkAll elems + uptoBulkAll spare + 1
  | .agg parts => uptoBulkAll parts + 1
  | .iface _ d => uptoBulk d + 1
  | .map entries => uptoBulkEntries entries + 1
  | .held _ => 1
def uptoBulkAll {H : Type} : List (DataW H) → Nat
  | [] => 0
  | d :: r => uptoBulk d + uptoBulkAll r
def uptoBulkEntries {H : Type} : List (Lit × DataW H) → Nat
  | [] => 0
  | x :: r => uptoBulkEntry x + uptoBulkEntries r
def uptoBulkEntry {H : Type} : Lit × DataW H → Nat
  | (.string bytes, d) => bytes.length + uptoBulk d + 1
  | (_, d) => uptoBulk d + 1
 end
def uptoSmall : (H : Type) → List (DataW H) → Bool := fun _ ds => decide (uptoBulkAll ds ≤ 1048576)
def OpenSpec.upto (s : _root_.Go.ChangeSpec) : _root_.Go.OpenSpec := { _root_.Go.OpenSpec.ofChange s with cond := some uptoSmall }

/-- 'laws.FnCouponPay', WHERE WHAT IT READS IS OF BULK AT MOST 1048576: true; the input reads as it did. -/
def fnCouponPayUptoRow : OpenClaim := { program := "ytbihadelhknlnaadoor", sum := "b315a341e944295568958b604c49c69b71a2355c8dccc43088ca59972c494ca5", func := "loop.example/bonddesk/laws.FnCouponPay", spec := "fnCouponPay", unfollowed := true, recurses := true, named := ["loop.example/bonddesk/impl.monthStart"], apart := false, laid := [("loop.example/bonddesk/impl.monthStart", laid_loop_example_bonddesk_impl_monthStart)], narrowed := true }
def FnCouponPayUptoSaid : Prop := fnCouponPayUptoRow.holds Tryd.pinned (OpenSpec.upto fnCouponPaySpec)

/-- 'laws.FnExactCouponPay', WHERE WHAT IT READS IS OF BULK AT MOST 1048576: true; the input reads as it did. -/
def fnExactCouponPayUptoRow : OpenClaim := { program := "ytbihadelhknlnaadoor", sum := "b315a341e944295568958b604c49c69b71a2355c8dccc43088ca59972c494ca5", func := "loop.example/bonddesk/laws.FnExactCouponPay", spec := "fnExactCouponPay", unfollowed := true, recurses := true, named := ["loop.example/bonddesk/impl.monthStart"], apart := false, laid := [("loop.example/bonddesk/impl.monthStart", laid_loop_example_bonddesk_impl_monthStart)], narrowed := true }
def FnExactCouponPayUptoSaid : Prop := fnExactCouponPayUptoRow.holds Tryd.pinned (OpenSpec.upto fnExactCouponPaySpec)

end Rows
end Go.Proofs.YtbihadelhknlnaaDoor
