/-
  No cell of these rows narrows 'for every input' (looked for: loops, veiled, ifaces, maps, wideKeys, modest, calm, conditions, laid).
  DERIVED. THE GIVEN ROWS OF THIS SEAT. 8 by the template 'for every input the law returns true; each argument reads behind the call as it read before'; 0 by the template 'total and deterministic' (their statements: YtcmmlgpaijfkeaaTotals.lean).
  GIVEN WITH THE SEED: the statements are not yours to turn. If you find one false, say at which input.
  Laid BY PROGRAM, IN A SANDBOX (cutbox-rows.mjs): the forced cells as the released guide's own fill.sh prints them over the translation 04d96cd0b3cdc192… (all of the seat's roots in one cut). By AI agents, Wed Nov 11 2026. No macro, syntax, notation, axiom, sorry.
-/
import Derived.Test.YtcmmlgpaijfkeaaChecked
import GoSem.Claim
import GoSem.ClaimJoined
import GoSem.ClaimMapViews
import Derived.JoinedTies
import Derived.KernelRfl
namespace Go.Proofs.Ytcmmlgpaijfkeaa
/- THE CELL 'sum', in the pinned program and in every row, IS THE sha256 OF THE DUMP (.gsa) THAT YtcmmlgpaijfkeaaProg.lean LOADS. Nothing in Lean hashes anything: it is a label: what it is worth is what the hold of that sum in a sandbox is worth. -/
noncomputable def Try.pinned : Pinned := { name := "ytcmmlgpaijfkeaa", sum := "04d96cd0b3cdc1927f8d9f538f0b117021b07458d7c770a669e14fbec347e2ed", checked := Try.checked }
namespace Rows
def none {H : Type} : Left H := { results := [], args := [] }

/-- 'laws.FnIsBusiness': WHATEVER THE INPUT: true; the input reads as it did. -/
def fnIsBusinessSpec : ChangeSpec := { name := "fnIsBusiness", fn := fun _ => fun
  | [d] => { results := [.lit (.bool true)], args := [d] }
  | _ => none }
def fnIsBusinessRow : OpenClaim := { program := "ytcmmlgpaijfkeaa", sum := "04d96cd0b3cdc1927f8d9f538f0b117021b07458d7c770a669e14fbec347e2ed", func := "loop.example/bonddesk/laws.FnIsBusiness", spec := "fnIsBusiness", unfollowed := true, recurses := true, apart := false }
def FnIsBusinessSaid : Prop := fnIsBusinessRow.holds Try.pinned (OpenSpec.ofChange fnIsBusinessSpec)

/-- ITS FALSE NEIGHBOUR: 'it returns false'. Refute it at one input. -/
def fnIsBusinessWrong : ChangeSpec := { name := "fnIsBusiness", fn := fun _ => fun
  | [d] => { results := [.lit (.bool false)], args := [d] }
  | _ => none }
def FnIsBusinessWrongFalsely : Prop := fnIsBusinessRow.holds Try.pinned (OpenSpec.ofChange fnIsBusinessWrong)

/-- 'laws.FnAddBusinessCount': WHATEVER THE INPUT: true; the input reads as it did. -/
def fnAddBusinessCountSpec : ChangeSpec := { name := "fnAddBusinessCount", fn := fun _ => fun
  | [d] => { results := [.lit (.bool true)], args := [d] }
  | _ => none }
def fnAddBusinessCountRow : OpenClaim := { program := "ytcmmlgpaijfkeaa", sum := "04d96cd0b3cdc1927f8d9f538f0b117021b07458d7c770a669e14fbec347e2ed", func := "loop.example/bonddesk/laws.FnAddBusinessCount", spec := "fnAddBusinessCount", unfollowed := true, recurses := true, apart := false }
def FnAddBusinessCountSaid : Prop := fnAddBusinessCountRow.holds Try.pinned (OpenSpec.ofChange fnAddBusinessCountSpec)

/-- ITS FALSE NEIGHBOUR: 'it returns false'. Refute it at one input. -/
def fnAddBusinessCountWrong : ChangeSpec := { name := "fnAddBusinessCount", fn := fun _ => fun
  | [d] => { results := [.lit (.bool false)], args := [d] }
  | _ => none }
def FnAddBusinessCountWrongFalsely : Prop := fnAddBusinessCountRow.holds Try.pinned (OpenSpec.ofChange fnAddBusinessCountWrong)

/-- 'laws.FnBusinessBetween': WHATEVER THE INPUT: true; the input reads as it did. -/
def fnBusinessBetweenSpec : ChangeSpec := { name := "fnBusinessBetween", fn := fun _ => fun
  | [d] => { results := [.lit (.bool true)], args := [d] }
  | _ => none }
def fnBusinessBetweenRow : OpenClaim := { program := "ytcmmlgpaijfkeaa", sum := "04d96cd0b3cdc1927f8d9f538f0b117021b07458d7c770a669e14fbec347e2ed", func := "loop.example/bonddesk/laws.FnBusinessBetween", spec := "fnBusinessBetween", unfollowed := true, recurses := true, apart := false }
def FnBusinessBetweenSaid : Prop := fnBusinessBetweenRow.holds Try.pinned (OpenSpec.ofChange fnBusinessBetweenSpec)

/-- ITS FALSE NEIGHBOUR: 'it returns false'. Refute it at one input. -/
def fnBusinessBetweenWrong : ChangeSpec := { name := "fnBusinessBetween", fn := fun _ => fun
  | [d] => { results := [.lit (.bool false)], args := [d] }
  | _ => none }
def FnBusinessBetweenWrongFalsely : Prop := fnBusinessBetweenRow.holds Try.pinned (OpenSpec.ofChange fnBusinessBetweenWrong)

/-- 'laws.FnIsBusinessMore': WHATEVER THE INPUT: true; the input reads as it did. -/
def fnIsBusinessMoreSpec : ChangeSpec := { name := "fnIsBusinessMore", fn := fun _ => fun
  | [d] => { results := [.lit (.bool true)], args := [d] }
  | _ => none }
def fnIsBusinessMoreRow : OpenClaim := { program := "ytcmmlgpaijfkeaa", sum := "04d96cd0b3cdc1927f8d9f538f0b117021b07458d7c770a669e14fbec347e2ed", func := "loop.example/bonddesk/laws.FnIsBusinessMore", spec := "fnIsBusinessMore", unfollowed := true, recurses := true, apart := false }
def FnIsBusinessMoreSaid : Prop := fnIsBusinessMoreRow.holds Try.pinned (OpenSpec.ofChange fnIsBusinessMoreSpec)

/-- ITS FALSE NEIGHBOUR: 'it returns false'. Refute it at one input. -/
def fnIsBusinessMoreWrong : ChangeSpec := { name := "fnIsBusinessMore", fn := fun _ => fun
  | [d] => { results := [.lit (.bool false)], args := [d] }
  | _ => none }
def FnIsBusinessMoreWrongFalsely : Prop := fnIsBusinessMoreRow.holds Try.pinned (OpenSpec.ofChange fnIsBusinessMoreWrong)

/-- 'laws.FnBusinessWeek': WHATEVER THE INPUT: true; the input reads as it did. -/
def fnBusinessWeekSpec : ChangeSpec := { name := "fnBusinessWeek", fn := fun _ => fun
  | [d] => { results := [.lit (.bool true)], args := [d] }
  | _ => none }
def fnBusinessWeekRow : OpenClaim := { program := "ytcmmlgpaijfkeaa", sum := "04d96cd0b3cdc1927f8d9f538f0b117021b07458d7c770a669e14fbec347e2ed", func := "loop.example/bonddesk/laws.FnBusinessWeek", spec := "fnBusinessWeek", unfollowed := true, recurses := true, apart := false }
def FnBusinessWeekSaid : Prop := fnBusinessWeekRow.holds Try.pinned (OpenSpec.ofChange fnBusinessWeekSpec)

/-- ITS FALSE NEIGHBOUR: 'it returns false'. Refute it at one input. -/
def fnBusinessWeekWrong : ChangeSpec := { name := "fnBusinessWeek", fn := fun _ => fun
  | [d] => { results := [.lit (.bool false)], args := [d] }
  | _ => none }
def FnBusinessWeekWrongFalsely : Prop := fnBusinessWeekRow.holds Try.pinned (OpenSpec.ofChange fnBusinessWeekWrong)

/-- 'laws.FnExactIsBusiness': WHATEVER THE INPUT: true; the input reads as it did. -/
def fnExactIsBusinessSpec : ChangeSpec := { name := "fnExactIsBusiness", fn := fun _ => fun
  | [d1, d2] => { results := [.lit (.bool true)], args := [d1, d2] }
  | _ => none }
def fnExactIsBusinessRow : OpenClaim := { program := "ytcmmlgpaijfkeaa", sum := "04d96cd0b3cdc1927f8d9f538f0b117021b07458d7c770a669e14fbec347e2ed", func := "loop.example/bonddesk/laws.FnExactIsBusiness", spec := "fnExactIsBusiness", unfollowed := true, recurses := true, apart := false }
def FnExactIsBusinessSaid : Prop := fnExactIsBusinessRow.holds Try.pinned (OpenSpec.ofChange fnExactIsBusinessSpec)

/-- ITS FALSE NEIGHBOUR: 'it returns false'. Refute it at one input. -/
def fnExactIsBusinessWrong : ChangeSpec := { name := "fnExactIsBusiness", fn := fun _ => fun
  | [d1, d2] => { results := [.lit (.bool false)], args := [d1, d2] }
  | _ => none }
def FnExactIsBusinessWrongFalsely : Prop := fnExactIsBusinessRow.holds Try.pinned (OpenSpec.ofChange fnExactIsBusinessWrong)

/-- 'laws.FnExactAddBusiness': WHATEVER THE INPUT: true; the input reads as it did. -/
def fnExactAddBusinessSpec : ChangeSpec := { name := "fnExactAddBusiness", fn := fun _ => fun
  | [d1, d2, d3] => { results := [.lit (.bool true)], args := [d1, d2, d3] }
  | _ => none }
def fnExactAddBusinessRow : OpenClaim := { program := "ytcmmlgpaijfkeaa", sum := "04d96cd0b3cdc1927f8d9f538f0b117021b07458d7c770a669e14fbec347e2ed", func := "loop.example/bonddesk/laws.FnExactAddBusiness", spec := "fnExactAddBusiness", unfollowed := true, recurses := true, apart := false }
def FnExactAddBusinessSaid : Prop := fnExactAddBusinessRow.holds Try.pinned (OpenSpec.ofChange fnExactAddBusinessSpec)

/-- ITS FALSE NEIGHBOUR: 'it returns false'. Refute it at one input. -/
def fnExactAddBusinessWrong : ChangeSpec := { name := "fnExactAddBusiness", fn := fun _ => fun
  | [d1, d2, d3] => { results := [.lit (.bool false)], args := [d1, d2, d3] }
  | _ => none }
def FnExactAddBusinessWrongFalsely : Prop := fnExactAddBusinessRow.holds Try.pinned (OpenSpec.ofChange fnExactAddBusinessWrong)

/-- 'laws.FnExactBusinessBetween': WHATEVER THE INPUT: true; the input reads as it did. -/
def fnExactBusinessBetweenSpec : ChangeSpec := { name := "fnExactBusinessBetween", fn := fun _ => fun
  | [d1, d2, d3] => { results := [.lit (.bool true)], args := [d1, d2, d3] }
  | _ => none }
def fnExactBusinessBetweenRow : OpenClaim := { program := "ytcmmlgpaijfkeaa", sum := "04d96cd0b3cdc1927f8d9f538f0b117021b07458d7c770a669e14fbec347e2ed", func := "loop.example/bonddesk/laws.FnExactBusinessBetween", spec := "fnExactBusinessBetween", unfollowed := true, recurses := true, apart := false }
def FnExactBusinessBetweenSaid : Prop := fnExactBusinessBetweenRow.holds Try.pinned (OpenSpec.ofChange fnExactBusinessBetweenSpec)

/-- ITS FALSE NEIGHBOUR: 'it returns false'. Refute it at one input. -/
def fnExactBusinessBetweenWrong : ChangeSpec := { name := "fnExactBusinessBetween", fn := fun _ => fun
  | [d1, d2, d3] => { results := [.lit (.bool false)], args := [d1, d2, d3] }
  | _ => none }
def FnExactBusinessBetweenWrongFalsely : Prop := fnExactBusinessBetweenRow.holds Try.pinned (OpenSpec.ofChange fnExactBusinessBetweenWrong)

/- THE SECOND FORM. 'bulk': how many values and letters a reading holds, each counted each time it is reached (what is shared counts as often as it is met; a slice's spare places count too). A statement '..UptoSaid' is the law's where the arguments, and the package variables that the reading takes, are together of bulk at most 1048576: NARROWER than '..Said'. Prove '..Said' where nothing that the law and all that it calls make is longer than what came in: it says more and counts as full. Else prove '..UptoSaid'. A law counts once. -/
mutual
def uptoBulk {H : Type} : DataW H → Nat
  | .lit (.string bytes) => bytes.length + 1
  | .lit _ => 1
  | .nil => 1
  | .ptr d => uptoBulk d + 1
  | .slice elems spare => uptoBulkAll elems + uptoBulkAll spare + 1
  | .agg parts => uptoBulkAll parts + 1
  | .iface _ d => uptoBulk d + 1
  | .map entries => uptoBulkEntries entries + 1
  | .held _ => 1
def uptoBulkAll {H : Type} : List (DataW H) → Nat
  | [] => 0
  | d :: r => uptoBulk d + uptoBulkAll r
def uptoBulkEntries {H : Type} : List (Lit × DataW H) → Nat
  | [] => 0
  | x :: r => uptoBulkEntry x + uptoBulkEntries r
def uptoBulkEntry {H : Type} : Lit × DataW H → Nat
  | (.string bytes, d) => bytes.length + uptoBulk d + 1
  | (_, d) => uptoBulk d + 1
 end
def uptoSmall : (H : Type) → List (DataW H) → Bool := fun _ ds => decide (uptoBulkAll ds ≤ 1048576)
def OpenSpec.upto (s : _root_.Go.ChangeSpec) : _root_.Go.OpenSpec := { _root_.Go.OpenSpec.ofChange s with cond := some uptoSmall }

/-- 'laws.FnIsBusiness', WHERE WHAT IT READS IS OF BULK AT MOST 1048576: true; the input reads as it did. -/
def fnIsBusinessUptoRow : OpenClaim := { program := "ytcmmlgpaijfkeaa", sum := "04d96cd0b3cdc1927f8d9f538f0b117021b07458d7c770a669e14fbec347e2ed", func := "loop.example/bonddesk/laws.FnIsBusiness", spec := "fnIsBusiness", unfollowed := true, recurses := true, apart := false, narrowed := true }
def FnIsBusinessUptoSaid : Prop := fnIsBusinessUptoRow.holds Try.pinned (OpenSpec.upto fnIsBusinessSpec)

/-- 'laws.FnAddBusinessCount', WHERE WHAT IT READS IS OF BULK AT MOST 1048576: true; the input reads as it did. -/
def fnAddBusinessCountUptoRow : OpenClaim := { program := "ytcmmlgpaijfkeaa", sum := "04d96cd0b3cdc1927f8d9f538f0b117021b07458d7c770a669e14fbec347e2ed", func := "loop.example/bonddesk/laws.FnAddBusinessCount", spec := "fnAddBusinessCount", unfollowed := true, recurses := true, apart := false, narrowed := true }
def FnAddBusinessCountUptoSaid : Prop := fnAddBusinessCountUptoRow.holds Try.pinned (OpenSpec.upto fnAddBusinessCountSpec)

/-- 'laws.FnBusinessBetween', WHERE WHAT IT READS IS OF BULK AT MOST 1048576: true; the input reads as it did. -/
def fnBusinessBetweenUptoRow : OpenClaim := { program := "ytcmmlgpaijfkeaa", sum := "04d96cd0b3cdc1927f8d9f538f0b117021b07458d7c770a669e14fbec347e2ed", func := "loop.example/bonddesk/laws.FnBusinessBetween", spec := "fnBusinessBetween", unfollowed := true, recurses := true, apart := false, narrowed := true }
def FnBusinessBetweenUptoSaid : Prop := fnBusinessBetweenUptoRow.holds Try.pinned (OpenSpec.upto fnBusinessBetweenSpec)

/-- 'laws.FnIsBusinessMore', WHERE WHAT IT READS IS OF BULK AT MOST 1048576: true; the input reads as it did. -/
def fnIsBusinessMoreUptoRow : OpenClaim := { program := "ytcmmlgpaijfkeaa", sum := "04d96cd0b3cdc1927f8d9f538f0b117021b07458d7c770a669e14fbec347e2ed", func := "loop.example/bonddesk/laws.FnIsBusinessMore", spec := "fnIsBusinessMore", unfollowed := true, recurses := true, apart := false, narrowed := true }
def FnIsBusinessMoreUptoSaid : Prop := fnIsBusinessMoreUptoRow.holds Try.pinned (OpenSpec.upto fnIsBusinessMoreSpec)

/-- 'laws.FnBusinessWeek', WHERE WHAT IT READS IS OF BULK AT MOST 1048576: true; the input reads as it did. -/
def fnBusinessWeekUptoRow : OpenClaim := { program := "ytcmmlgpaijfkeaa", sum := "04d96cd0b3cdc1927f8d9f538f0b117021b07458d7c770a669e14fbec347e2ed", func := "loop.example/bonddesk/laws.FnBusinessWeek", spec := "fnBusinessWeek", unfollowed := true, recurses := true, apart := false, narrowed := true }
def FnBusinessWeekUptoSaid : Prop := fnBusinessWeekUptoRow.holds Try.pinned (OpenSpec.upto fnBusinessWeekSpec)

/-- 'laws.FnExactIsBusiness', WHERE WHAT IT READS IS OF BULK AT MOST 1048576: true; the input reads as it did. -/
def fnExactIsBusinessUptoRow : OpenClaim := { program := "ytcmmlgpaijfkeaa", sum := "04d96cd0b3cdc1927f8d9f538f0b117021b07458d7c770a669e14fbec347e2ed", func := "loop.example/bonddesk/laws.FnExactIsBusiness", spec := "fnExactIsBusiness", unfollowed := true, recurses := true, apart := false, narrowed := true }
def FnExactIsBusinessUptoSaid : Prop := fnExactIsBusinessUptoRow.holds Try.pinned (OpenSpec.upto fnExactIsBusinessSpec)

/-- 'laws.FnExactAddBusiness', WHERE WHAT IT READS IS OF BULK AT MOST 1048576: true; the input reads as it did. -/
def fnExactAddBusinessUptoRow : OpenClaim := { program := "ytcmmlgpaijfkeaa", sum := "04d96cd0b3cdc1927f8d9f538f0b117021b07458d7c770a669e14fbec347e2ed", func := "loop.example/bonddesk/laws.FnExactAddBusiness", spec := "fnExactAddBusiness", unfollowed := true, recurses := true, apart := false, narrowed := true }
def FnExactAddBusinessUptoSaid : Prop := fnExactAddBusinessUptoRow.holds Try.pinned (OpenSpec.upto fnExactAddBusinessSpec)

/-- 'laws.FnExactBusinessBetween', WHERE WHAT IT READS IS OF BULK AT MOST 1048576: true; the input reads as it did. -/
def fnExactBusinessBetweenUptoRow : OpenClaim := { program := "ytcmmlgpaijfkeaa", sum := "04d96cd0b3cdc1927f8d9f538f0b117021b07458d7c770a669e14fbec347e2ed", func := "loop.example/bonddesk/laws.FnExactBusinessBetween", spec := "fnExactBusinessBetween", unfollowed := true, recurses := true, apart := false, narrowed := true }
def FnExactBusinessBetweenUptoSaid : Prop := fnExactBusinessBetweenUptoRow.holds Try.pinned (OpenSpec.upto fnExactBusinessBetweenSpec)

end Rows
end Go.Proofs.Ytcmmlgpaijfkeaa
