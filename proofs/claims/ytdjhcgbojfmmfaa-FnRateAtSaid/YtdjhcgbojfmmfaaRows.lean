/-
  No cell of these rows narrows 'for every input' (looked for: loops, veiled, ifaces, maps, wideKeys, modest, calm, conditions, laid).
  DERIVED. THE GIVEN ROWS OF THIS SEAT. 9 by the template 'for every input the law returns true; each argument reads behind the call as it read before'; 0 by the template 'total and deterministic' (their statements: YtdjhcgbojfmmfaaTotals.lean).
  GIVEN WITH THE SEED: the statements are not yours to turn. If you find one false, say at which input.
  Laid BY PROGRAM, IN A SANDBOX (cutbox-rows.mjs): the forced cells as the released guide's own fill.sh prints them over the translation 1de81ffeda90cc45… (all of the seat's roots in one cut). By AI agents, Wed Nov 11 2026. No macro, syntax, notation, axiom, sorry.
-/
import Derived.Test.YtdjhcgbojfmmfaaChecked
import GoSem.Claim
import GoSem.ClaimJoined
import GoSem.ClaimMapViews
import Derived.JoinedTies
import Derived.KernelRfl
namespace Go.Proofs.Ytdjhcgbojfmmfaa
/- THE CELL 'sum', in the pinned program and in every row, IS THE sha256 OF THE DUMP (.gsa) THAT YtdjhcgbojfmmfaaProg.lean LOADS. Nothing in Lean hashes anything: it is a label: what it is worth is what the hold of that sum in a sandbox is worth. -/
noncomputable def Try.pinned : Pinned := { name := "ytdjhcgbojfmmfaa", sum := "1de81ffeda90cc4575e742e1cbd66de8ae028f3deb2f3a50ee4959570aa1e338", checked := Try.checked }
namespace Rows
def none {H : Type} : Left H := { results := [], args := [] }

/-- 'laws.FnRateAt': WHATEVER THE INPUT: true; the input reads as it did. -/
def fnRateAtSpec : ChangeSpec := { name := "fnRateAt", fn := fun _ => fun
  | [d] => { results := [.lit (.bool true)], args := [d] }
  | _ => none }
def fnRateAtRow : OpenClaim := { program := "ytdjhcgbojfmmfaa", sum := "1de81ffeda90cc4575e742e1cbd66de8ae028f3deb2f3a50ee4959570aa1e338", func := "loop.example/bonddesk/laws.FnRateAt", spec := "fnRateAt", apart := false }
def FnRateAtSaid : Prop := fnRateAtRow.holds Try.pinned (OpenSpec.ofChange fnRateAtSpec)

/-- ITS FALSE NEIGHBOUR: 'it returns false'. Refute it at one input. -/
def fnRateAtWrong : ChangeSpec := { name := "fnRateAt", fn := fun _ => fun
  | [d] => { results := [.lit (.bool false)], args := [d] }
  | _ => none }
def FnRateAtWrongFalsely : Prop := fnRateAtRow.holds Try.pinned (OpenSpec.ofChange fnRateAtWrong)

/-- 'laws.FnExactRateAt': WHATEVER THE INPUT: true; the input reads as it did. -/
def fnExactRateAtSpec : ChangeSpec := { name := "fnExactRateAt", fn := fun _ => fun
  | [d1, d2, d3] => { results := [.lit (.bool true)], args := [d1, d2, d3] }
  | _ => none }
def fnExactRateAtRow : OpenClaim := { program := "ytdjhcgbojfmmfaa", sum := "1de81ffeda90cc4575e742e1cbd66de8ae028f3deb2f3a50ee4959570aa1e338", func := "loop.example/bonddesk/laws.FnExactRateAt", spec := "fnExactRateAt", apart := false }
def FnExactRateAtSaid : Prop := fnExactRateAtRow.holds Try.pinned (OpenSpec.ofChange fnExactRateAtSpec)

/-- ITS FALSE NEIGHBOUR: 'it returns false'. Refute it at one input. -/
def fnExactRateAtWrong : ChangeSpec := { name := "fnExactRateAt", fn := fun _ => fun
  | [d1, d2, d3] => { results := [.lit (.bool false)], args := [d1, d2, d3] }
  | _ => none }
def FnExactRateAtWrongFalsely : Prop := fnExactRateAtRow.holds Try.pinned (OpenSpec.ofChange fnExactRateAtWrong)

/-- 'laws.FnSureCurve': WHATEVER THE INPUT: true; the input reads as it did. -/
def fnSureCurveSpec : ChangeSpec := { name := "fnSureCurve", fn := fun _ => fun
  | [d] => { results := [.lit (.bool true)], args := [d] }
  | _ => none }
def fnSureCurveRow : OpenClaim := { program := "ytdjhcgbojfmmfaa", sum := "1de81ffeda90cc4575e742e1cbd66de8ae028f3deb2f3a50ee4959570aa1e338", func := "loop.example/bonddesk/laws.FnSureCurve", spec := "fnSureCurve", unfollowed := true, recurses := true, apart := false }
def FnSureCurveSaid : Prop := fnSureCurveRow.holds Try.pinned (OpenSpec.ofChange fnSureCurveSpec)

/-- ITS FALSE NEIGHBOUR: 'it returns false'. Refute it at one input. -/
def fnSureCurveWrong : ChangeSpec := { name := "fnSureCurve", fn := fun _ => fun
  | [d] => { results := [.lit (.bool false)], args := [d] }
  | _ => none }
def FnSureCurveWrongFalsely : Prop := fnSureCurveRow.holds Try.pinned (OpenSpec.ofChange fnSureCurveWrong)

/-- 'laws.FnSureCurveParts': WHATEVER THE INPUT: true; the input reads as it did. -/
def fnSureCurvePartsSpec : ChangeSpec := { name := "fnSureCurveParts", fn := fun _ => fun
  | [d] => { results := [.lit (.bool true)], args := [d] }
  | _ => none }
def fnSureCurvePartsRow : OpenClaim := { program := "ytdjhcgbojfmmfaa", sum := "1de81ffeda90cc4575e742e1cbd66de8ae028f3deb2f3a50ee4959570aa1e338", func := "loop.example/bonddesk/laws.FnSureCurveParts", spec := "fnSureCurveParts", unfollowed := true, recurses := true, apart := false }
def FnSureCurvePartsSaid : Prop := fnSureCurvePartsRow.holds Try.pinned (OpenSpec.ofChange fnSureCurvePartsSpec)

/-- ITS FALSE NEIGHBOUR: 'it returns false'. Refute it at one input. -/
def fnSureCurvePartsWrong : ChangeSpec := { name := "fnSureCurveParts", fn := fun _ => fun
  | [d] => { results := [.lit (.bool false)], args := [d] }
  | _ => none }
def FnSureCurvePartsWrongFalsely : Prop := fnSureCurvePartsRow.holds Try.pinned (OpenSpec.ofChange fnSureCurvePartsWrong)

/-- 'laws.FnExactSureCurve': WHATEVER THE INPUT: true; the input reads as it did. -/
def fnExactSureCurveSpec : ChangeSpec := { name := "fnExactSureCurve", fn := fun _ => fun
  | [d] => { results := [.lit (.bool true)], args := [d] }
  | _ => none }
def fnExactSureCurveRow : OpenClaim := { program := "ytdjhcgbojfmmfaa", sum := "1de81ffeda90cc4575e742e1cbd66de8ae028f3deb2f3a50ee4959570aa1e338", func := "loop.example/bonddesk/laws.FnExactSureCurve", spec := "fnExactSureCurve", unfollowed := true, recurses := true, apart := false }
def FnExactSureCurveSaid : Prop := fnExactSureCurveRow.holds Try.pinned (OpenSpec.ofChange fnExactSureCurveSpec)

/-- ITS FALSE NEIGHBOUR: 'it returns false'. Refute it at one input. -/
def fnExactSureCurveWrong : ChangeSpec := { name := "fnExactSureCurve", fn := fun _ => fun
  | [d] => { results := [.lit (.bool false)], args := [d] }
  | _ => none }
def FnExactSureCurveWrongFalsely : Prop := fnExactSureCurveRow.holds Try.pinned (OpenSpec.ofChange fnExactSureCurveWrong)

/-- 'laws.FnExactForwardOf': WHATEVER THE INPUT: true; the input reads as it did. -/
def fnExactForwardOfSpec : ChangeSpec := { name := "fnExactForwardOf", fn := fun _ => fun
  | [d1, d2] => { results := [.lit (.bool true)], args := [d1, d2] }
  | _ => none }
def fnExactForwardOfRow : OpenClaim := { program := "ytdjhcgbojfmmfaa", sum := "1de81ffeda90cc4575e742e1cbd66de8ae028f3deb2f3a50ee4959570aa1e338", func := "loop.example/bonddesk/laws.FnExactForwardOf", spec := "fnExactForwardOf", unfollowed := true, recurses := true, apart := false }
def FnExactForwardOfSaid : Prop := fnExactForwardOfRow.holds Try.pinned (OpenSpec.ofChange fnExactForwardOfSpec)

/-- ITS FALSE NEIGHBOUR: 'it returns false'. Refute it at one input. -/
def fnExactForwardOfWrong : ChangeSpec := { name := "fnExactForwardOf", fn := fun _ => fun
  | [d1, d2] => { results := [.lit (.bool false)], args := [d1, d2] }
  | _ => none }
def FnExactForwardOfWrongFalsely : Prop := fnExactForwardOfRow.holds Try.pinned (OpenSpec.ofChange fnExactForwardOfWrong)

/-- 'laws.FnValueAt': WHATEVER THE INPUT: true; the input reads as it did. -/
def fnValueAtSpec : ChangeSpec := { name := "fnValueAt", fn := fun _ => fun
  | [d] => { results := [.lit (.bool true)], args := [d] }
  | _ => none }
def fnValueAtRow : OpenClaim := { program := "ytdjhcgbojfmmfaa", sum := "1de81ffeda90cc4575e742e1cbd66de8ae028f3deb2f3a50ee4959570aa1e338", func := "loop.example/bonddesk/laws.FnValueAt", spec := "fnValueAt", unfollowed := true, recurses := true, apart := false }
def FnValueAtSaid : Prop := fnValueAtRow.holds Try.pinned (OpenSpec.ofChange fnValueAtSpec)

/-- ITS FALSE NEIGHBOUR: 'it returns false'. Refute it at one input. -/
def fnValueAtWrong : ChangeSpec := { name := "fnValueAt", fn := fun _ => fun
  | [d] => { results := [.lit (.bool false)], args := [d] }
  | _ => none }
def FnValueAtWrongFalsely : Prop := fnValueAtRow.holds Try.pinned (OpenSpec.ofChange fnValueAtWrong)

/-- 'laws.FnValueAtYears': WHATEVER THE INPUT: true; the input reads as it did. -/
def fnValueAtYearsSpec : ChangeSpec := { name := "fnValueAtYears", fn := fun _ => fun
  | [d] => { results := [.lit (.bool true)], args := [d] }
  | _ => none }
def fnValueAtYearsRow : OpenClaim := { program := "ytdjhcgbojfmmfaa", sum := "1de81ffeda90cc4575e742e1cbd66de8ae028f3deb2f3a50ee4959570aa1e338", func := "loop.example/bonddesk/laws.FnValueAtYears", spec := "fnValueAtYears", unfollowed := true, recurses := true, apart := false }
def FnValueAtYearsSaid : Prop := fnValueAtYearsRow.holds Try.pinned (OpenSpec.ofChange fnValueAtYearsSpec)

/-- ITS FALSE NEIGHBOUR: 'it returns false'. Refute it at one input. -/
def fnValueAtYearsWrong : ChangeSpec := { name := "fnValueAtYears", fn := fun _ => fun
  | [d] => { results := [.lit (.bool false)], args := [d] }
  | _ => none }
def FnValueAtYearsWrongFalsely : Prop := fnValueAtYearsRow.holds Try.pinned (OpenSpec.ofChange fnValueAtYearsWrong)

/-- 'laws.FnExactValueAt': WHATEVER THE INPUT: true; the input reads as it did. -/
def fnExactValueAtSpec : ChangeSpec := { name := "fnExactValueAt", fn := fun _ => fun
  | [d1, d2] => { results := [.lit (.bool true)], args := [d1, d2] }
  | _ => none }
def fnExactValueAtRow : OpenClaim := { program := "ytdjhcgbojfmmfaa", sum := "1de81ffeda90cc4575e742e1cbd66de8ae028f3deb2f3a50ee4959570aa1e338", func := "loop.example/bonddesk/laws.FnExactValueAt", spec := "fnExactValueAt", unfollowed := true, recurses := true, apart := false }
def FnExactValueAtSaid : Prop := fnExactValueAtRow.holds Try.pinned (OpenSpec.ofChange fnExactValueAtSpec)

/-- ITS FALSE NEIGHBOUR: 'it returns false'. Refute it at one input. -/
def fnExactValueAtWrong : ChangeSpec := { name := "fnExactValueAt", fn := fun _ => fun
  | [d1, d2] => { results := [.lit (.bool false)], args := [d1, d2] }
  | _ => none }
def FnExactValueAtWrongFalsely : Prop := fnExactValueAtRow.holds Try.pinned (OpenSpec.ofChange fnExactValueAtWrong)

/- THE SECOND FORM. 'bulk': how many values and letters a reading holds, each counted each time it is reached (what is shared counts as often as it is met; a slice's spare places count too). A statement '..UptoSaid' is the law's where the arguments, and the package variables that the reading takes, are together of bulk at most 1048576: NARROWER than '..Said'. Prove '..Said' where nothing that the law and all that it calls make is longer than what came in: it says more and counts as full. Else prove '..UptoSaid'. A law counts once. -/
mutual
def uptoBulk {H : Type} : DataW H → Nat
  | .lit (.string bytes) => bytes.length + 1
  | .lit _ => 1
  | .nil => 1
  | .ptr d => uptoBulk d + 1
  | .slice elems spare => uptoBulkAll elems + uptoBulkAll spare + 1
  | .agg parts => uptoBulkAll parts + 1
  | .iface _ d => uptoBulk d + 1
  | .map entries => uptoBulkEntries entries + 1
  | .held _ => 1
def uptoBulkAll {H : Type} : List (DataW H) → Nat
  | [] => 0
  | d :: r => uptoBulk d + uptoBulkAll r
def uptoBulkEntries {H : Type} : List (Lit × DataW H) → Nat
  | [] => 0
  | x :: r => uptoBulkEntry x + uptoBulkEntries r
def uptoBulkEntry {H : Type} : Lit × DataW H → Nat
  | (.string bytes, d) => bytes.length + uptoBulk d + 1
  | (_, d) => uptoBulk d + 1
 end
def uptoSmall : (H : Type) → List (DataW H) → Bool := fun _ ds => decide (uptoBulkAll ds ≤ 1048576)
def OpenSpec.upto (s : _root_.Go.ChangeSpec) : _root_.Go.OpenSpec := { _root_.Go.OpenSpec.ofChange s with cond := some uptoSmall }

/-- 'laws.FnRateAt', WHERE WHAT IT READS IS OF BULK AT MOST 1048576: true; the input reads as it did. -/
def fnRateAtUptoRow : OpenClaim := { program := "ytdjhcgbojfmmfaa", sum := "1de81ffeda90cc4575e742e1cbd66de8ae028f3deb2f3a50ee4959570aa1e338", func := "loop.example/bonddesk/laws.FnRateAt", spec := "fnRateAt", apart := false, narrowed := true }
def FnRateAtUptoSaid : Prop := fnRateAtUptoRow.holds Try.pinned (OpenSpec.upto fnRateAtSpec)

/-- 'laws.FnExactRateAt', WHERE WHAT IT READS IS OF BULK AT MOST 1048576: true; the input reads as it did. -/
def fnExactRateAtUptoRow : OpenClaim := { program := "ytdjhcgbojfmmfaa", sum := "1de81ffeda90cc4575e742e1cbd66de8ae028f3deb2f3a50ee4959570aa1e338", func := "loop.example/bonddesk/laws.FnExactRateAt", spec := "fnExactRateAt", apart := false, narrowed := true }
def FnExactRateAtUptoSaid : Prop := fnExactRateAtUptoRow.holds Try.pinned (OpenSpec.upto fnExactRateAtSpec)

/-- 'laws.FnSureCurve', WHERE WHAT IT READS IS OF BULK AT MOST 1048576: true; the input reads as it did. -/
def fnSureCurveUptoRow : OpenClaim := { program := "ytdjhcgbojfmmfaa", sum := "1de81ffeda90cc4575e742e1cbd66de8ae028f3deb2f3a50ee4959570aa1e338", func := "loop.example/bonddesk/laws.FnSureCurve", spec := "fnSureCurve", unfollowed := true, recurses := true, apart := false, narrowed := true }
def FnSureCurveUptoSaid : Prop := fnSureCurveUptoRow.holds Try.pinned (OpenSpec.upto fnSureCurveSpec)

/-- 'laws.FnSureCurveParts', WHERE WHAT IT READS IS OF BULK AT MOST 1048576: true; the input reads as it did. -/
def fnSureCurvePartsUptoRow : OpenClaim := { program := "ytdjhcgbojfmmfaa", sum := "1de81ffeda90cc4575e742e1cbd66de8ae028f3deb2f3a50ee4959570aa1e338", func := "loop.example/bonddesk/laws.FnSureCurveParts", spec := "fnSureCurveParts", unfollowed := true, recurses := true, apart := false, narrowed := true }
def FnSureCurvePartsUptoSaid : Prop := fnSureCurvePartsUptoRow.holds Try.pinned (OpenSpec.upto fnSureCurvePartsSpec)

/-- 'laws.FnExactSureCurve', WHERE WHAT IT READS IS OF BULK AT MOST 1048576: true; the input reads as it did. -/
def fnExactSureCurveUptoRow : OpenClaim := { program := "ytdjhcgbojfmmfaa", sum := "1de81ffeda90cc4575e742e1cbd66de8ae028f3deb2f3a50ee4959570aa1e338", func := "loop.example/bonddesk/laws.FnExactSureCurve", spec := "fnExactSureCurve", unfollowed := true, recurses := true, apart := false, narrowed := true }
def FnExactSureCurveUptoSaid : Prop := fnExactSureCurveUptoRow.holds Try.pinned (OpenSpec.upto fnExactSureCurveSpec)

/-- 'laws.FnExactForwardOf', WHERE WHAT IT READS IS OF BULK AT MOST 1048576: true; the input reads as it did. -/
def fnExactForwardOfUptoRow : OpenClaim := { program := "ytdjhcgbojfmmfaa", sum := "1de81ffeda90cc4575e742e1cbd66de8ae028f3deb2f3a50ee4959570aa1e338", func := "loop.example/bonddesk/laws.FnExactForwardOf", spec := "fnExactForwardOf", unfollowed := true, recurses := true, apart := false, narrowed := true }
def FnExactForwardOfUptoSaid : Prop := fnExactForwardOfUptoRow.holds Try.pinned (OpenSpec.upto fnExactForwardOfSpec)

/-- 'laws.FnValueAt', WHERE WHAT IT READS IS OF BULK AT MOST 1048576: true; the input reads as it did. -/
def fnValueAtUptoRow : OpenClaim := { program := "ytdjhcgbojfmmfaa", sum := "1de81ffeda90cc4575e742e1cbd66de8ae028f3deb2f3a50ee4959570aa1e338", func := "loop.example/bonddesk/laws.FnValueAt", spec := "fnValueAt", unfollowed := true, recurses := true, apart := false, narrowed := true }
def FnValueAtUptoSaid : Prop := fnValueAtUptoRow.holds Try.pinned (OpenSpec.upto fnValueAtSpec)

/-- 'laws.FnValueAtYears', WHERE WHAT IT READS IS OF BULK AT MOST 1048576: true; the input reads as it did. -/
def fnValueAtYearsUptoRow : OpenClaim := { program := "ytdjhcgbojfmmfaa", sum := "1de81ffeda90cc4575e742e1cbd66de8ae028f3deb2f3a50ee4959570aa1e338", func := "loop.example/bonddesk/laws.FnValueAtYears", spec := "fnValueAtYears", unfollowed := true, recurses := true, apart := false, narrowed := true }
def FnValueAtYearsUptoSaid : Prop := fnValueAtYearsUptoRow.holds Try.pinned (OpenSpec.upto fnValueAtYearsSpec)

/-- 'laws.FnExactValueAt', WHERE WHAT IT READS IS OF BULK AT MOST 1048576: true; the input reads as it did. -/
def fnExactValueAtUptoRow : OpenClaim := { program := "ytdjhcgbojfmmfaa", sum := "1de81ffeda90cc4575e742e1cbd66de8ae028f3deb2f3a50ee4959570aa1e338", func := "loop.example/bonddesk/laws.FnExactValueAt", spec := "fnExactValueAt", unfollowed := true, recurses := true, apart := false, narrowed := true }
def FnExactValueAtUptoSaid : Prop := fnExactValueAtUptoRow.holds Try.pinned (OpenSpec.upto fnExactValueAtSpec)

end Rows
end Go.Proofs.Ytdjhcgbojfmmfaa
