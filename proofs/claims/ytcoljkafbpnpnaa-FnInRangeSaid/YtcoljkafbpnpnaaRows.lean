/-
  No cell of these rows narrows 'for every input' (looked for: loops, veiled, ifaces, maps, wideKeys, modest, calm, conditions, laid).
  DERIVED. THE GIVEN ROWS OF THIS SEAT. 4 by the template 'for every input the law returns true; each argument reads behind the call as it read before'; 0 by the template 'total and deterministic' (their statements: YtcoljkafbpnpnaaTotals.lean).
  GIVEN WITH THE SEED: the statements are not yours to turn. If you find one false, say at which input.
  Laid BY PROGRAM, IN A SANDBOX (cutbox-rows.mjs): the forced cells as the released guide's own fill.sh prints them over the translation 6e94f603e617d639… (all of the seat's roots in one cut). By AI agents, Wed Nov 11 2026. No macro, syntax, notation, axiom, sorry.
-/
import Derived.Test.YtcoljkafbpnpnaaChecked
import GoSem.Claim
import GoSem.ClaimJoined
import GoSem.ClaimMapViews
import Derived.JoinedTies
import Derived.KernelRfl
namespace Go.Proofs.Ytcoljkafbpnpnaa
/- THE CELL 'sum', in the pinned program and in every row, IS THE sha256 OF THE DUMP (.gsa) THAT YtcoljkafbpnpnaaProg.lean LOADS. Nothing in Lean hashes anything: it is a label: what it is worth is what the hold of that sum in a sandbox is worth. -/
noncomputable def Try.pinned : Pinned := { name := "ytcoljkafbpnpnaa", sum := "6e94f603e617d639e773189edab627a3b13aa73d24273c3a8a5e9d1d0b44aa26", checked := Try.checked }
namespace Rows
def none {H : Type} : Left H := { results := [], args := [] }

/-- 'laws.FnValidRange': WHATEVER THE INPUT: true; the input reads as it did. -/
def fnValidRangeSpec : ChangeSpec := { name := "fnValidRange", fn := fun _ => fun
  | [d] => { results := [.lit (.bool true)], args := [d] }
  | _ => none }
def fnValidRangeRow : OpenClaim := { program := "ytcoljkafbpnpnaa", sum := "6e94f603e617d639e773189edab627a3b13aa73d24273c3a8a5e9d1d0b44aa26", func := "loop.example/bonddesk/laws.FnValidRange", spec := "fnValidRange", apart := false }
def FnValidRangeSaid : Prop := fnValidRangeRow.holds Try.pinned (OpenSpec.ofChange fnValidRangeSpec)

/-- ITS FALSE NEIGHBOUR: 'it returns false'. Refute it at one input. -/
def fnValidRangeWrong : ChangeSpec := { name := "fnValidRange", fn := fun _ => fun
  | [d] => { results := [.lit (.bool false)], args := [d] }
  | _ => none }
def FnValidRangeWrongFalsely : Prop := fnValidRangeRow.holds Try.pinned (OpenSpec.ofChange fnValidRangeWrong)

/-- 'laws.FnInRange': WHATEVER THE INPUT: true; the input reads as it did. -/
def fnInRangeSpec : ChangeSpec := { name := "fnInRange", fn := fun _ => fun
  | [d] => { results := [.lit (.bool true)], args := [d] }
  | _ => none }
def fnInRangeRow : OpenClaim := { program := "ytcoljkafbpnpnaa", sum := "6e94f603e617d639e773189edab627a3b13aa73d24273c3a8a5e9d1d0b44aa26", func := "loop.example/bonddesk/laws.FnInRange", spec := "fnInRange", apart := false }
def FnInRangeSaid : Prop := fnInRangeRow.holds Try.pinned (OpenSpec.ofChange fnInRangeSpec)

/-- ITS FALSE NEIGHBOUR: 'it returns false'. Refute it at one input. -/
def fnInRangeWrong : ChangeSpec := { name := "fnInRange", fn := fun _ => fun
  | [d] => { results := [.lit (.bool false)], args := [d] }
  | _ => none }
def FnInRangeWrongFalsely : Prop := fnInRangeRow.holds Try.pinned (OpenSpec.ofChange fnInRangeWrong)

/-- 'laws.FnExactValidRange': WHATEVER THE INPUT: true; the input reads as it did. -/
def fnExactValidRangeSpec : ChangeSpec := { name := "fnExactValidRange", fn := fun _ => fun
  | [d] => { results := [.lit (.bool true)], args := [d] }
  | _ => none }
def fnExactValidRangeRow : OpenClaim := { program := "ytcoljkafbpnpnaa", sum := "6e94f603e617d639e773189edab627a3b13aa73d24273c3a8a5e9d1d0b44aa26", func := "loop.example/bonddesk/laws.FnExactValidRange", spec := "fnExactValidRange", apart := false }
def FnExactValidRangeSaid : Prop := fnExactValidRangeRow.holds Try.pinned (OpenSpec.ofChange fnExactValidRangeSpec)

/-- ITS FALSE NEIGHBOUR: 'it returns false'. Refute it at one input. -/
def fnExactValidRangeWrong : ChangeSpec := { name := "fnExactValidRange", fn := fun _ => fun
  | [d] => { results := [.lit (.bool false)], args := [d] }
  | _ => none }
def FnExactValidRangeWrongFalsely : Prop := fnExactValidRangeRow.holds Try.pinned (OpenSpec.ofChange fnExactValidRangeWrong)

/-- 'laws.FnExactInRange': WHATEVER THE INPUT: true; the input reads as it did. -/
def fnExactInRangeSpec : ChangeSpec := { name := "fnExactInRange", fn := fun _ => fun
  | [d1, d2] => { results := [.lit (.bool true)], args := [d1, d2] }
  | _ => none }
def fnExactInRangeRow : OpenClaim := { program := "ytcoljkafbpnpnaa", sum := "6e94f603e617d639e773189edab627a3b13aa73d24273c3a8a5e9d1d0b44aa26", func := "loop.example/bonddesk/laws.FnExactInRange", spec := "fnExactInRange", apart := false }
def FnExactInRangeSaid : Prop := fnExactInRangeRow.holds Try.pinned (OpenSpec.ofChange fnExactInRangeSpec)

/-- ITS FALSE NEIGHBOUR: 'it returns false'. Refute it at one input. -/
def fnExactInRangeWrong : ChangeSpec := { name := "fnExactInRange", fn := fun _ => fun
  | [d1, d2] => { results := [.lit (.bool false)], args := [d1, d2] }
  | _ => none }
def FnExactInRangeWrongFalsely : Prop := fnExactInRangeRow.holds Try.pinned (OpenSpec.ofChange fnExactInRangeWrong)

/- THE SECOND FORM. 'bulk': how many values and letters a reading holds, each counted each time it is reached (what is shared counts as often as it is met; a slice's spare places count too). A statement '..UptoSaid' is the law's where the arguments, and the package variables that the reading takes, are together of bulk at most 1048576: NARROWER than '..Said'. Prove '..Said' where nothing that the law and all that it calls make is longer than what came in: it says more and counts as full. Else prove '..UptoSaid'. A law counts once. -/
mutual
def uptoBulk {H : Type} : DataW H → Nat
  | .lit (.string bytes) => bytes.length + 1
  | .lit _ => 1
  | .nil => 1
  | .ptr d => uptoBulk d + 1
  | .slice elems spare => uptoBulkAll elems + uptoBulkAll spare + 1
  | .agg parts => uptoBulkAll parts + 1
  | .iface _ d => uptoBulk d + 1
  | .map entries => uptoBulkEntries entries + 1
  | .held _ => 1
def uptoBulkAll {H : Type} : List (DataW H) → Nat
  | [] => 0
  | d :: r => uptoBulk d + uptoBulkAll r
def uptoBulkEntries {H : Type} : List (Lit × DataW H) → Nat
  | [] => 0
  | x :: r => uptoBulkEntry x + uptoBulkEntries r
def uptoBulkEntry {H : Type} : Lit × DataW H → Nat
  | (.string bytes, d) => bytes.length + uptoBulk d + 1
  | (_, d) => uptoBulk d + 1
 end
def uptoSmall : (H : Type) → List (DataW H) → Bool := fun _ ds => decide (uptoBulkAll ds ≤ 1048576)
def OpenSpec.upto (s : _root_.Go.ChangeSpec) : _root_.Go.OpenSpec := { _root_.Go.OpenSpec.ofChange s with cond := some uptoSmall }

/-- 'laws.FnValidRange', WHERE WHAT IT READS IS OF BULK AT MOST 1048576: true; the input reads as it did. -/
def fnValidRangeUptoRow : OpenClaim := { program := "ytcoljkafbpnpnaa", sum := "6e94f603e617d639e773189edab627a3b13aa73d24273c3a8a5e9d1d0b44aa26", func := "loop.example/bonddesk/laws.FnValidRange", spec := "fnValidRange", apart := false, narrowed := true }
def FnValidRangeUptoSaid : Prop := fnValidRangeUptoRow.holds Try.pinned (OpenSpec.upto fnValidRangeSpec)

/-- 'laws.FnInRange', WHERE WHAT IT READS IS OF BULK AT MOST 1048576: true; the input reads as it did. -/
def fnInRangeUptoRow : OpenClaim := { program := "ytcoljkafbpnpnaa", sum := "6e94f603e617d639e773189edab627a3b13aa73d24273c3a8a5e9d1d0b44aa26", func := "loop.example/bonddesk/laws.FnInRange", spec := "fnInRange", apart := false, narrowed := true }
def FnInRangeUptoSaid : Prop := fnInRangeUptoRow.holds Try.pinned (OpenSpec.upto fnInRangeSpec)

/-- 'laws.FnExactValidRange', WHERE WHAT IT READS IS OF BULK AT MOST 1048576: true; the input reads as it did. -/
def fnExactValidRangeUptoRow : OpenClaim := { program := "ytcoljkafbpnpnaa", sum := "6e94f603e617d639e773189edab627a3b13aa73d24273c3a8a5e9d1d0b44aa26", func := "loop.example/bonddesk/laws.FnExactValidRange", spec := "fnExactValidRange", apart := false, narrowed := true }
def FnExactValidRangeUptoSaid : Prop := fnExactValidRangeUptoRow.holds Try.pinned (OpenSpec.upto fnExactValidRangeSpec)

/-- 'laws.FnExactInRange', WHERE WHAT IT READS IS OF BULK AT MOST 1048576: true; the input reads as it did. -/
def fnExactInRangeUptoRow : OpenClaim := { program := "ytcoljkafbpnpnaa", sum := "6e94f603e617d639e773189edab627a3b13aa73d24273c3a8a5e9d1d0b44aa26", func := "loop.example/bonddesk/laws.FnExactInRange", spec := "fnExactInRange", apart := false, narrowed := true }
def FnExactInRangeUptoSaid : Prop := fnExactInRangeUptoRow.holds Try.pinned (OpenSpec.upto fnExactInRangeSpec)

end Rows
end Go.Proofs.Ytcoljkafbpnpnaa
