/-
  No cell of these rows narrows 'for every input' (looked for: loops, veiled, ifaces, maps, wideKeys, modest, calm, conditions, laid).
  DERIVED. THE GIVEN ROWS OF THIS SEAT. 10 by the template 'for every input the law returns true; each argument reads behind the call as it read before'; 0 by the template 'total and deterministic' (their statements: YtoledkecgfhdbaaTotals.lean).
  GIVEN WITH THE SEED: the statements are not yours to turn. If you find one false, say at which input.
  Laid BY PROGRAM, IN A SANDBOX (cutbox-rows.mjs): the forced cells as the released guide's own fill.sh prints them over the translation 5ab22f2ba4af5f86… (all of the seat's roots in one cut). By AI agents, Wed Nov 11 2026. No macro, syntax, notation, axiom, sorry.
-/
import Derived.Test.YtoledkecgfhdbaaChecked
import GoSem.Claim
import GoSem.ClaimJoined
import GoSem.ClaimMapViews
import Derived.JoinedTies
import Derived.KernelRfl
namespace Go.Proofs.Ytoledkecgfhdbaa
/- THE CELL 'sum', in the pinned program and in every row, IS THE sha256 OF THE DUMP (.gsa) THAT YtoledkecgfhdbaaProg.lean LOADS. Nothing in Lean hashes anything: it is a label: what it is worth is what the hold of that sum in a sandbox is worth. -/
noncomputable def Try.pinned : Pinned := { name := "ytoledkecgfhdbaa", sum := "5ab22f2ba4af5f86c9855e1b521b58c2c8a3513420b9084cbbe0b9c01c562f02", checked := Try.checked }
namespace Rows
def none {H : Type} : Left H := { results := [], args := [] }

/-- 'laws.FnWorthOf': WHATEVER THE INPUT: true; the input reads as it did. -/
def fnWorthOfSpec : ChangeSpec := { name := "fnWorthOf", fn := fun _ => fun
  | [d] => { results := [.lit (.bool true)], args := [d] }
  | _ => none }
def fnWorthOfRow : OpenClaim := { program := "ytoledkecgfhdbaa", sum := "5ab22f2ba4af5f86c9855e1b521b58c2c8a3513420b9084cbbe0b9c01c562f02", func := "loop.example/bonddesk/laws.FnWorthOf", spec := "fnWorthOf", apart := false }
def FnWorthOfSaid : Prop := fnWorthOfRow.holds Try.pinned (OpenSpec.ofChange fnWorthOfSpec)

/-- ITS FALSE NEIGHBOUR: 'it returns false'. Refute it at one input. -/
def fnWorthOfWrong : ChangeSpec := { name := "fnWorthOf", fn := fun _ => fun
  | [d] => { results := [.lit (.bool false)], args := [d] }
  | _ => none }
def FnWorthOfWrongFalsely : Prop := fnWorthOfRow.holds Try.pinned (OpenSpec.ofChange fnWorthOfWrong)

/-- 'laws.FnExplainGain': WHATEVER THE INPUT: true; the input reads as it did. -/
def fnExplainGainSpec : ChangeSpec := { name := "fnExplainGain", fn := fun _ => fun
  | [d] => { results := [.lit (.bool true)], args := [d] }
  | _ => none }
def fnExplainGainRow : OpenClaim := { program := "ytoledkecgfhdbaa", sum := "5ab22f2ba4af5f86c9855e1b521b58c2c8a3513420b9084cbbe0b9c01c562f02", func := "loop.example/bonddesk/laws.FnExplainGain", spec := "fnExplainGain", apart := false }
def FnExplainGainSaid : Prop := fnExplainGainRow.holds Try.pinned (OpenSpec.ofChange fnExplainGainSpec)

/-- ITS FALSE NEIGHBOUR: 'it returns false'. Refute it at one input. -/
def fnExplainGainWrong : ChangeSpec := { name := "fnExplainGain", fn := fun _ => fun
  | [d] => { results := [.lit (.bool false)], args := [d] }
  | _ => none }
def FnExplainGainWrongFalsely : Prop := fnExplainGainRow.holds Try.pinned (OpenSpec.ofChange fnExplainGainWrong)

/-- 'laws.FnExplainGainSame': WHATEVER THE INPUT: true; the input reads as it did. -/
def fnExplainGainSameSpec : ChangeSpec := { name := "fnExplainGainSame", fn := fun _ => fun
  | [d] => { results := [.lit (.bool true)], args := [d] }
  | _ => none }
def fnExplainGainSameRow : OpenClaim := { program := "ytoledkecgfhdbaa", sum := "5ab22f2ba4af5f86c9855e1b521b58c2c8a3513420b9084cbbe0b9c01c562f02", func := "loop.example/bonddesk/laws.FnExplainGainSame", spec := "fnExplainGainSame", apart := false }
def FnExplainGainSameSaid : Prop := fnExplainGainSameRow.holds Try.pinned (OpenSpec.ofChange fnExplainGainSameSpec)

/-- ITS FALSE NEIGHBOUR: 'it returns false'. Refute it at one input. -/
def fnExplainGainSameWrong : ChangeSpec := { name := "fnExplainGainSame", fn := fun _ => fun
  | [d] => { results := [.lit (.bool false)], args := [d] }
  | _ => none }
def FnExplainGainSameWrongFalsely : Prop := fnExplainGainSameRow.holds Try.pinned (OpenSpec.ofChange fnExplainGainSameWrong)

/-- 'laws.FnGainBetween': WHATEVER THE INPUT: true; the input reads as it did. -/
def fnGainBetweenSpec : ChangeSpec := { name := "fnGainBetween", fn := fun _ => fun
  | [d] => { results := [.lit (.bool true)], args := [d] }
  | _ => none }
def fnGainBetweenRow : OpenClaim := { program := "ytoledkecgfhdbaa", sum := "5ab22f2ba4af5f86c9855e1b521b58c2c8a3513420b9084cbbe0b9c01c562f02", func := "loop.example/bonddesk/laws.FnGainBetween", spec := "fnGainBetween", apart := false }
def FnGainBetweenSaid : Prop := fnGainBetweenRow.holds Try.pinned (OpenSpec.ofChange fnGainBetweenSpec)

/-- ITS FALSE NEIGHBOUR: 'it returns false'. Refute it at one input. -/
def fnGainBetweenWrong : ChangeSpec := { name := "fnGainBetween", fn := fun _ => fun
  | [d] => { results := [.lit (.bool false)], args := [d] }
  | _ => none }
def FnGainBetweenWrongFalsely : Prop := fnGainBetweenRow.holds Try.pinned (OpenSpec.ofChange fnGainBetweenWrong)

/-- 'laws.FnQuoteCents': WHATEVER THE INPUT: true; the input reads as it did. -/
def fnQuoteCentsSpec : ChangeSpec := { name := "fnQuoteCents", fn := fun _ => fun
  | [d] => { results := [.lit (.bool true)], args := [d] }
  | _ => none }
def fnQuoteCentsRow : OpenClaim := { program := "ytoledkecgfhdbaa", sum := "5ab22f2ba4af5f86c9855e1b521b58c2c8a3513420b9084cbbe0b9c01c562f02", func := "loop.example/bonddesk/laws.FnQuoteCents", spec := "fnQuoteCents", apart := false }
def FnQuoteCentsSaid : Prop := fnQuoteCentsRow.holds Try.pinned (OpenSpec.ofChange fnQuoteCentsSpec)

/-- ITS FALSE NEIGHBOUR: 'it returns false'. Refute it at one input. -/
def fnQuoteCentsWrong : ChangeSpec := { name := "fnQuoteCents", fn := fun _ => fun
  | [d] => { results := [.lit (.bool false)], args := [d] }
  | _ => none }
def FnQuoteCentsWrongFalsely : Prop := fnQuoteCentsRow.holds Try.pinned (OpenSpec.ofChange fnQuoteCentsWrong)

/-- 'laws.FnQuoteOrder': WHATEVER THE INPUT: true; the input reads as it did. -/
def fnQuoteOrderSpec : ChangeSpec := { name := "fnQuoteOrder", fn := fun _ => fun
  | [d] => { results := [.lit (.bool true)], args := [d] }
  | _ => none }
def fnQuoteOrderRow : OpenClaim := { program := "ytoledkecgfhdbaa", sum := "5ab22f2ba4af5f86c9855e1b521b58c2c8a3513420b9084cbbe0b9c01c562f02", func := "loop.example/bonddesk/laws.FnQuoteOrder", spec := "fnQuoteOrder", apart := false }
def FnQuoteOrderSaid : Prop := fnQuoteOrderRow.holds Try.pinned (OpenSpec.ofChange fnQuoteOrderSpec)

/-- ITS FALSE NEIGHBOUR: 'it returns false'. Refute it at one input. -/
def fnQuoteOrderWrong : ChangeSpec := { name := "fnQuoteOrder", fn := fun _ => fun
  | [d] => { results := [.lit (.bool false)], args := [d] }
  | _ => none }
def FnQuoteOrderWrongFalsely : Prop := fnQuoteOrderRow.holds Try.pinned (OpenSpec.ofChange fnQuoteOrderWrong)

/-- 'laws.FnExactWorthOf': WHATEVER THE INPUT: true; the input reads as it did. -/
def fnExactWorthOfSpec : ChangeSpec := { name := "fnExactWorthOf", fn := fun _ => fun
  | [d] => { results := [.lit (.bool true)], args := [d] }
  | _ => none }
def fnExactWorthOfRow : OpenClaim := { program := "ytoledkecgfhdbaa", sum := "5ab22f2ba4af5f86c9855e1b521b58c2c8a3513420b9084cbbe0b9c01c562f02", func := "loop.example/bonddesk/laws.FnExactWorthOf", spec := "fnExactWorthOf", apart := false }
def FnExactWorthOfSaid : Prop := fnExactWorthOfRow.holds Try.pinned (OpenSpec.ofChange fnExactWorthOfSpec)

/-- ITS FALSE NEIGHBOUR: 'it returns false'. Refute it at one input. -/
def fnExactWorthOfWrong : ChangeSpec := { name := "fnExactWorthOf", fn := fun _ => fun
  | [d] => { results := [.lit (.bool false)], args := [d] }
  | _ => none }
def FnExactWorthOfWrongFalsely : Prop := fnExactWorthOfRow.holds Try.pinned (OpenSpec.ofChange fnExactWorthOfWrong)

/-- 'laws.FnExactExplainGain': WHATEVER THE INPUT: true; the input reads as it did. -/
def fnExactExplainGainSpec : ChangeSpec := { name := "fnExactExplainGain", fn := fun _ => fun
  | [d1, d2, d3, d4] => { results := [.lit (.bool true)], args := [d1, d2, d3, d4] }
  | _ => none }
def fnExactExplainGainRow : OpenClaim := { program := "ytoledkecgfhdbaa", sum := "5ab22f2ba4af5f86c9855e1b521b58c2c8a3513420b9084cbbe0b9c01c562f02", func := "loop.example/bonddesk/laws.FnExactExplainGain", spec := "fnExactExplainGain", apart := false }
def FnExactExplainGainSaid : Prop := fnExactExplainGainRow.holds Try.pinned (OpenSpec.ofChange fnExactExplainGainSpec)

/-- ITS FALSE NEIGHBOUR: 'it returns false'. Refute it at one input. -/
def fnExactExplainGainWrong : ChangeSpec := { name := "fnExactExplainGain", fn := fun _ => fun
  | [d1, d2, d3, d4] => { results := [.lit (.bool false)], args := [d1, d2, d3, d4] }
  | _ => none }
def FnExactExplainGainWrongFalsely : Prop := fnExactExplainGainRow.holds Try.pinned (OpenSpec.ofChange fnExactExplainGainWrong)

/-- 'laws.FnExactGainBetween': WHATEVER THE INPUT: true; the input reads as it did. -/
def fnExactGainBetweenSpec : ChangeSpec := { name := "fnExactGainBetween", fn := fun _ => fun
  | [d1, d2, d3, d4] => { results := [.lit (.bool true)], args := [d1, d2, d3, d4] }
  | _ => none }
def fnExactGainBetweenRow : OpenClaim := { program := "ytoledkecgfhdbaa", sum := "5ab22f2ba4af5f86c9855e1b521b58c2c8a3513420b9084cbbe0b9c01c562f02", func := "loop.example/bonddesk/laws.FnExactGainBetween", spec := "fnExactGainBetween", apart := false }
def FnExactGainBetweenSaid : Prop := fnExactGainBetweenRow.holds Try.pinned (OpenSpec.ofChange fnExactGainBetweenSpec)

/-- ITS FALSE NEIGHBOUR: 'it returns false'. Refute it at one input. -/
def fnExactGainBetweenWrong : ChangeSpec := { name := "fnExactGainBetween", fn := fun _ => fun
  | [d1, d2, d3, d4] => { results := [.lit (.bool false)], args := [d1, d2, d3, d4] }
  | _ => none }
def FnExactGainBetweenWrongFalsely : Prop := fnExactGainBetweenRow.holds Try.pinned (OpenSpec.ofChange fnExactGainBetweenWrong)

/-- 'laws.FnExactQuoteCents': WHATEVER THE INPUT: true; the input reads as it did. -/
def fnExactQuoteCentsSpec : ChangeSpec := { name := "fnExactQuoteCents", fn := fun _ => fun
  | [d] => { results := [.lit (.bool true)], args := [d] }
  | _ => none }
def fnExactQuoteCentsRow : OpenClaim := { program := "ytoledkecgfhdbaa", sum := "5ab22f2ba4af5f86c9855e1b521b58c2c8a3513420b9084cbbe0b9c01c562f02", func := "loop.example/bonddesk/laws.FnExactQuoteCents", spec := "fnExactQuoteCents", apart := false }
def FnExactQuoteCentsSaid : Prop := fnExactQuoteCentsRow.holds Try.pinned (OpenSpec.ofChange fnExactQuoteCentsSpec)

/-- ITS FALSE NEIGHBOUR: 'it returns false'. Refute it at one input. -/
def fnExactQuoteCentsWrong : ChangeSpec := { name := "fnExactQuoteCents", fn := fun _ => fun
  | [d] => { results := [.lit (.bool false)], args := [d] }
  | _ => none }
def FnExactQuoteCentsWrongFalsely : Prop := fnExactQuoteCentsRow.holds Try.pinned (OpenSpec.ofChange fnExactQuoteCentsWrong)

/- THE SECOND FORM. 'bulk': how many values and letters a reading holds, each counted each time it is reached (what is shared counts as often as it is met; a slice's spare places count too). A statement '..UptoSaid' is the law's where the arguments, and the package variables that the reading takes, are together of bulk at most 1048576: NARROWER than '..Said'. Prove '..Said' where nothing that the law and all that it calls make is longer than what came in: it says more and counts as full. Else prove '..UptoSaid'. A law counts once. -/
mutual
def uptoBulk {H : Type} : DataW H → Nat
  | .lit (.string bytes) => bytes.length + 1
  | .lit _ => 1
  | .nil => 1
  | .ptr d => uptoBulk d + 1
  | .slice elems spare => uptoBulkAll elems + uptoBulkAll spare + 1
  | .agg parts => uptoBulkAll parts + 1
  | .iface _ d => uptoBulk d + 1
  | .map entries => uptoBulkEntries entries + 1
  | .held _ => 1
def uptoBulkAll {H : Type} : List (DataW H) → Nat
  | [] => 0
  | d :: r => uptoBulk d + uptoBulkAll r
def uptoBulkEntries {H : Type} : List (Lit × DataW H) → Nat
  | [] => 0
  | x :: r => uptoBulkEntry x + uptoBulkEntries r
def uptoBulkEntry {H : Type} : Lit × DataW H → Nat
  | (.string bytes, d) => bytes.length + uptoBulk d + 1
  | (_, d) => uptoBulk d + 1
 end
def uptoSmall : (H : Type) → List (DataW H) → Bool := fun _ ds => decide (uptoBulkAll ds ≤ 1048576)
def OpenSpec.upto (s : _root_.Go.ChangeSpec) : _root_.Go.OpenSpec := { _root_.Go.OpenSpec.ofChange s with cond := some uptoSmall }

/-- 'laws.FnWorthOf', WHERE WHAT IT READS IS OF BULK AT MOST 1048576: true; the input reads as it did. -/
def fnWorthOfUptoRow : OpenClaim := { program := "ytoledkecgfhdbaa", sum := "5ab22f2ba4af5f86c9855e1b521b58c2c8a3513420b9084cbbe0b9c01c562f02", func := "loop.example/bonddesk/laws.FnWorthOf", spec := "fnWorthOf", apart := false, narrowed := true }
def FnWorthOfUptoSaid : Prop := fnWorthOfUptoRow.holds Try.pinned (OpenSpec.upto fnWorthOfSpec)

/-- 'laws.FnExplainGain', WHERE WHAT IT READS IS OF BULK AT MOST 1048576: true; the input reads as it did. -/
def fnExplainGainUptoRow : OpenClaim := { program := "ytoledkecgfhdbaa", sum := "5ab22f2ba4af5f86c9855e1b521b58c2c8a3513420b9084cbbe0b9c01c562f02", func := "loop.example/bonddesk/laws.FnExplainGain", spec := "fnExplainGain", apart := false, narrowed := true }
def FnExplainGainUptoSaid : Prop := fnExplainGainUptoRow.holds Try.pinned (OpenSpec.upto fnExplainGainSpec)

/-- 'laws.FnExplainGainSame', WHERE WHAT IT READS IS OF BULK AT MOST 1048576: true; the input reads as it did. -/
def fnExplainGainSameUptoRow : OpenClaim := { program := "ytoledkecgfhdbaa", sum := "5ab22f2ba4af5f86c9855e1b521b58c2c8a3513420b9084cbbe0b9c01c562f02", func := "loop.example/bonddesk/laws.FnExplainGainSame", spec := "fnExplainGainSame", apart := false, narrowed := true }
def FnExplainGainSameUptoSaid : Prop := fnExplainGainSameUptoRow.holds Try.pinned (OpenSpec.upto fnExplainGainSameSpec)

/-- 'laws.FnGainBetween', WHERE WHAT IT READS IS OF BULK AT MOST 1048576: true; the input reads as it did. -/
def fnGainBetweenUptoRow : OpenClaim := { program := "ytoledkecgfhdbaa", sum := "5ab22f2ba4af5f86c9855e1b521b58c2c8a3513420b9084cbbe0b9c01c562f02", func := "loop.example/bonddesk/laws.FnGainBetween", spec := "fnGainBetween", apart := false, narrowed := true }
def FnGainBetweenUptoSaid : Prop := fnGainBetweenUptoRow.holds Try.pinned (OpenSpec.upto fnGainBetweenSpec)

/-- 'laws.FnQuoteCents', WHERE WHAT IT READS IS OF BULK AT MOST 1048576: true; the input reads as it did. -/
def fnQuoteCentsUptoRow : OpenClaim := { program := "ytoledkecgfhdbaa", sum := "5ab22f2ba4af5f86c9855e1b521b58c2c8a3513420b9084cbbe0b9c01c562f02", func := "loop.example/bonddesk/laws.FnQuoteCents", spec := "fnQuoteCents", apart := false, narrowed := true }
def FnQuoteCentsUptoSaid : Prop := fnQuoteCentsUptoRow.holds Try.pinned (OpenSpec.upto fnQuoteCentsSpec)

/-- 'laws.FnQuoteOrder', WHERE WHAT IT READS IS OF BULK AT MOST 1048576: true; the input reads as it did. -/
def fnQuoteOrderUptoRow : OpenClaim := { program := "ytoledkecgfhdbaa", sum := "5ab22f2ba4af5f86c9855e1b521b58c2c8a3513420b9084cbbe0b9c01c562f02", func := "loop.example/bonddesk/laws.FnQuoteOrder", spec := "fnQuoteOrder", apart := false, narrowed := true }
def FnQuoteOrderUptoSaid : Prop := fnQuoteOrderUptoRow.holds Try.pinned (OpenSpec.upto fnQuoteOrderSpec)

/-- 'laws.FnExactWorthOf', WHERE WHAT IT READS IS OF BULK AT MOST 1048576: true; the input reads as it did. -/
def fnExactWorthOfUptoRow : OpenClaim := { program := "ytoledkecgfhdbaa", sum := "5ab22f2ba4af5f86c9855e1b521b58c2c8a3513420b9084cbbe0b9c01c562f02", func := "loop.example/bonddesk/laws.FnExactWorthOf", spec := "fnExactWorthOf", apart := false, narrowed := true }
def FnExactWorthOfUptoSaid : Prop := fnExactWorthOfUptoRow.holds Try.pinned (OpenSpec.upto fnExactWorthOfSpec)

/-- 'laws.FnExactExplainGain', WHERE WHAT IT READS IS OF BULK AT MOST 1048576: true; the input reads as it did. -/
def fnExactExplainGainUptoRow : OpenClaim := { program := "ytoledkecgfhdbaa", sum := "5ab22f2ba4af5f86c9855e1b521b58c2c8a3513420b9084cbbe0b9c01c562f02", func := "loop.example/bonddesk/laws.FnExactExplainGain", spec := "fnExactExplainGain", apart := false, narrowed := true }
def FnExactExplainGainUptoSaid : Prop := fnExactExplainGainUptoRow.holds Try.pinned (OpenSpec.upto fnExactExplainGainSpec)

/-- 'laws.FnExactGainBetween', WHERE WHAT IT READS IS OF BULK AT MOST 1048576: true; the input reads as it did. -/
def fnExactGainBetweenUptoRow : OpenClaim := { program := "ytoledkecgfhdbaa", sum := "5ab22f2ba4af5f86c9855e1b521b58c2c8a3513420b9084cbbe0b9c01c562f02", func := "loop.example/bonddesk/laws.FnExactGainBetween", spec := "fnExactGainBetween", apart := false, narrowed := true }
def FnExactGainBetweenUptoSaid : Prop := fnExactGainBetweenUptoRow.holds Try.pinned (OpenSpec.upto fnExactGainBetweenSpec)

/-- 'laws.FnExactQuoteCents', WHERE WHAT IT READS IS OF BULK AT MOST 1048576: true; the input reads as it did. -/
def fnExactQuoteCentsUptoRow : OpenClaim := { program := "ytoledkecgfhdbaa", sum := "5ab22f2ba4af5f86c9855e1b521b58c2c8a3513420b9084cbbe0b9c01c562f02", func := "loop.example/bonddesk/laws.FnExactQuoteCents", spec := "fnExactQuoteCents", apart := false, narrowed := true }
def FnExactQuoteCentsUptoSaid : Prop := fnExactQuoteCentsUptoRow.holds Try.pinned (OpenSpec.upto fnExactQuoteCentsSpec)

end Rows
end Go.Proofs.Ytoledkecgfhdbaa
