/-
  No cell of these rows narrows 'for every input' (looked for: loops, veiled, ifaces, maps, wideKeys, modest, calm, conditions, laid).
  DERIVED. THE GIVEN ROWS OF THIS SEAT. 3 by the template 'for every input the law returns true; each argument reads behind the call as it read before'; 0 by the template 'total and deterministic' (their statements: YtgkldgljebhcgaaTotals.lean).
  GIVEN WITH THE SEED: the statements are not yours to turn. If you find one false, say at which input.
  Laid BY PROGRAM, IN A SANDBOX (cutbox-rows.mjs): the forced cells as the released guide's own fill.sh prints them over the translation 67a89effba32f712… (all of the seat's roots in one cut). By AI agents, Wed Nov 11 2026. No macro, syntax, notation, axiom, sorry.
-/
import Derived.Test.YtgkldgljebhcgaaChecked
import GoSem.Claim
import GoSem.ClaimJoined
import GoSem.ClaimMapViews
import Derived.JoinedTies
import Derived.KernelRfl
namespace Go.Proofs.Ytgkldgljebhcgaa
/- THE CELL 'sum', in the pinned program and in every row, IS THE sha256 OF THE DUMP (.gsa) THAT YtgkldgljebhcgaaProg.lean LOADS. Nothing in Lean hashes anything: it is a label: what it is worth is what the hold of that sum in a sandbox is worth. -/
noncomputable def Try.pinned : Pinned := { name := "ytgkldgljebhcgaa", sum := "67a89effba32f7121770c0e2c264304f8e47c354ff1af7a5260f1f17b0612e78", checked := Try.checked }
namespace Rows
def none {H : Type} : Left H := { results := [], args := [] }

/-- 'laws.FnCapWeights': WHATEVER THE INPUT: true; the input reads as it did. -/
def fnCapWeightsSpec : ChangeSpec := { name := "fnCapWeights", fn := fun _ => fun
  | [d] => { results := [.lit (.bool true)], args := [d] }
  | _ => none }
def fnCapWeightsRow : OpenClaim := { program := "ytgkldgljebhcgaa", sum := "67a89effba32f7121770c0e2c264304f8e47c354ff1af7a5260f1f17b0612e78", func := "loop.example/bonddesk/laws.FnCapWeights", spec := "fnCapWeights", unfollowed := true, recurses := true, apart := false }
def FnCapWeightsSaid : Prop := fnCapWeightsRow.holds Try.pinned (OpenSpec.ofChange fnCapWeightsSpec)

/-- ITS FALSE NEIGHBOUR: 'it returns false'. Refute it at one input. -/
def fnCapWeightsWrong : ChangeSpec := { name := "fnCapWeights", fn := fun _ => fun
  | [d] => { results := [.lit (.bool false)], args := [d] }
  | _ => none }
def FnCapWeightsWrongFalsely : Prop := fnCapWeightsRow.holds Try.pinned (OpenSpec.ofChange fnCapWeightsWrong)

/-- 'laws.FnCapWeightsEqual': WHATEVER THE INPUT: true; the input reads as it did. -/
def fnCapWeightsEqualSpec : ChangeSpec := { name := "fnCapWeightsEqual", fn := fun _ => fun
  | [d] => { results := [.lit (.bool true)], args := [d] }
  | _ => none }
def fnCapWeightsEqualRow : OpenClaim := { program := "ytgkldgljebhcgaa", sum := "67a89effba32f7121770c0e2c264304f8e47c354ff1af7a5260f1f17b0612e78", func := "loop.example/bonddesk/laws.FnCapWeightsEqual", spec := "fnCapWeightsEqual", unfollowed := true, recurses := true, apart := false }
def FnCapWeightsEqualSaid : Prop := fnCapWeightsEqualRow.holds Try.pinned (OpenSpec.ofChange fnCapWeightsEqualSpec)

/-- ITS FALSE NEIGHBOUR: 'it returns false'. Refute it at one input. -/
def fnCapWeightsEqualWrong : ChangeSpec := { name := "fnCapWeightsEqual", fn := fun _ => fun
  | [d] => { results := [.lit (.bool false)], args := [d] }
  | _ => none }
def FnCapWeightsEqualWrongFalsely : Prop := fnCapWeightsEqualRow.holds Try.pinned (OpenSpec.ofChange fnCapWeightsEqualWrong)

/-- 'laws.FnExactCapWeights': WHATEVER THE INPUT: true; the input reads as it did. -/
def fnExactCapWeightsSpec : ChangeSpec := { name := "fnExactCapWeights", fn := fun _ => fun
  | [d1, d2] => { results := [.lit (.bool true)], args := [d1, d2] }
  | _ => none }
def fnExactCapWeightsRow : OpenClaim := { program := "ytgkldgljebhcgaa", sum := "67a89effba32f7121770c0e2c264304f8e47c354ff1af7a5260f1f17b0612e78", func := "loop.example/bonddesk/laws.FnExactCapWeights", spec := "fnExactCapWeights", unfollowed := true, recurses := true, apart := false }
def FnExactCapWeightsSaid : Prop := fnExactCapWeightsRow.holds Try.pinned (OpenSpec.ofChange fnExactCapWeightsSpec)

/-- ITS FALSE NEIGHBOUR: 'it returns false'. Refute it at one input. -/
def fnExactCapWeightsWrong : ChangeSpec := { name := "fnExactCapWeights", fn := fun _ => fun
  | [d1, d2] => { results := [.lit (.bool false)], args := [d1, d2] }
  | _ => none }
def FnExactCapWeightsWrongFalsely : Prop := fnExactCapWeightsRow.holds Try.pinned (OpenSpec.ofChange fnExactCapWeightsWrong)

/- THE SECOND FORM. 'bulk': how many values and letters a reading holds, each counted each time it is reached (what is shared counts as often as it is met; a slice's spare places count too). A statement '..UptoSaid' is the law's where the arguments, and the package variables that the reading takes, are together of bulk at most 1048576: NARROWER than '..Said'. Prove '..Said' where nothing that the law and all that it calls make is longer than what came in: it says more and counts as full. Else prove '..UptoSaid'. A law counts once. -/
mutual
def uptoBulk {H : Type} : DataW H → Nat
  | .lit (.string bytes) => bytes.length + 1
  | .lit _ => 1
  | .nil => 1
  | .ptr d => uptoBulk d + 1
  | .slice elems spare => uptoBulkAll elems + uptoBulkAll spare + 1
  | .agg parts => uptoBulkAll parts + 1
  | .iface _ d => uptoBulk d + 1
  | .map entries => uptoBulkEntries entries + 1
  | .held _ => 1
def uptoBulkAll {H : Type} : List (DataW H) → Nat
  | [] => 0
  | d :: r => uptoBulk d + uptoBulkAll r
def uptoBulkEntries {H : Type} : List (Lit × DataW H) → Nat
  | [] => 0
  | x :: r => uptoBulkEntry x + uptoBulkEntries r
def uptoBulkEntry {H : Type} : Lit × DataW H → Nat
  | (.string bytes, d) => bytes.length + uptoBulk d + 1
  | (_, d) => uptoBulk d + 1
 end
def uptoSmall : (H : Type) → List (DataW H) → Bool := fun _ ds => decide (uptoBulkAll ds ≤ 1048576)
def OpenSpec.upto (s : _root_.Go.ChangeSpec) : _root_.Go.OpenSpec := { _root_.Go.OpenSpec.ofChange s with cond := some uptoSmall }

/-- 'laws.FnCapWeights', WHERE WHAT IT READS IS OF BULK AT MOST 1048576: true; the input reads as it did. -/
def fnCapWeightsUptoRow : OpenClaim := { program := "ytgkldgljebhcgaa", sum := "67a89effba32f7121770c0e2c264304f8e47c354ff1af7a5260f1f17b0612e78", func := "loop.example/bonddesk/laws.FnCapWeights", spec := "fnCapWeights", unfollowed := true, recurses := true, apart := false, narrowed := true }
def FnCapWeightsUptoSaid : Prop := fnCapWeightsUptoRow.holds Try.pinned (OpenSpec.upto fnCapWeightsSpec)

/-- 'laws.FnCapWeightsEqual', WHERE WHAT IT READS IS OF BULK AT MOST 1048576: true; the input reads as it did. -/
def fnCapWeightsEqualUptoRow : OpenClaim := { program := "ytgkldgljebhcgaa", sum := "67a89effba32f7121770c0e2c264304f8e47c354ff1af7a5260f1f17b0612e78", func := "loop.example/bonddesk/laws.FnCapWeightsEqual", spec := "fnCapWeightsEqual", unfollowed := true, recurses := true, apart := false, narrowed := true }
def FnCapWeightsEqualUptoSaid : Prop := fnCapWeightsEqualUptoRow.holds Try.pinned (OpenSpec.upto fnCapWeightsEqualSpec)

/-- 'laws.FnExactCapWeights', WHERE WHAT IT READS IS OF BULK AT MOST 1048576: true; the input reads as it did. -/
def fnExactCapWeightsUptoRow : OpenClaim := { program := "ytgkldgljebhcgaa", sum := "67a89effba32f7121770c0e2c264304f8e47c354ff1af7a5260f1f17b0612e78", func := "loop.example/bonddesk/laws.FnExactCapWeights", spec := "fnExactCapWeights", unfollowed := true, recurses := true, apart := false, narrowed := true }
def FnExactCapWeightsUptoSaid : Prop := fnExactCapWeightsUptoRow.holds Try.pinned (OpenSpec.upto fnExactCapWeightsSpec)

end Rows
end Go.Proofs.Ytgkldgljebhcgaa
