/-
  No cell of these rows narrows 'for every input' (looked for: loops, veiled, ifaces, maps, wideKeys, modest, calm, conditions, laid).
  DERIVED. THE GIVEN ROWS OF THIS SEAT. 10 by the template 'for every input the law returns true; each argument reads behind the call as it read before'; 0 by the template 'total and deterministic' (their statements: YtcakdjmmlcjkbaaTotals.lean).
  GIVEN WITH THE SEED: the statements are not yours to turn. If you find one false, say at which input.
  Laid BY PROGRAM, IN A SANDBOX (cutbox-rows.mjs): the forced cells as the released guide's own fill.sh prints them over the translation b2deb5d4679e760f… (all of the seat's roots in one cut). By AI agents, Wed Nov 11 2026. No macro, syntax, notation, axiom, sorry.
-/
import Derived.Test.YtcakdjmmlcjkbaaChecked
import GoSem.Claim
import GoSem.ClaimJoined
import GoSem.ClaimMapViews
import Derived.JoinedTies
import Derived.KernelRfl
namespace Go.Proofs.Ytcakdjmmlcjkbaa
/- THE CELL 'sum', in the pinned program and in every row, IS THE sha256 OF THE DUMP (.gsa) THAT YtcakdjmmlcjkbaaProg.lean LOADS. Nothing in Lean hashes anything: it is a label: what it is worth is what the hold of that sum in a sandbox is worth. -/
noncomputable def Try.pinned : Pinned := { name := "ytcakdjmmlcjkbaa", sum := "b2deb5d4679e760f184ca45f120d1530c603db5901df964d99a7534cc056e6f5", checked := Try.checked }
namespace Rows
def none {H : Type} : Left H := { results := [], args := [] }

/-- 'laws.FnPledgeFor': WHATEVER THE INPUT: true; the input reads as it did. -/
def fnPledgeForSpec : ChangeSpec := { name := "fnPledgeFor", fn := fun _ => fun
  | [d] => { results := [.lit (.bool true)], args := [d] }
  | _ => none }
def fnPledgeForRow : OpenClaim := { program := "ytcakdjmmlcjkbaa", sum := "b2deb5d4679e760f184ca45f120d1530c603db5901df964d99a7534cc056e6f5", func := "loop.example/bonddesk/laws.FnPledgeFor", spec := "fnPledgeFor", apart := false }
def FnPledgeForSaid : Prop := fnPledgeForRow.holds Try.pinned (OpenSpec.ofChange fnPledgeForSpec)

/-- ITS FALSE NEIGHBOUR: 'it returns false'. Refute it at one input. -/
def fnPledgeForWrong : ChangeSpec := { name := "fnPledgeFor", fn := fun _ => fun
  | [d] => { results := [.lit (.bool false)], args := [d] }
  | _ => none }
def FnPledgeForWrongFalsely : Prop := fnPledgeForRow.holds Try.pinned (OpenSpec.ofChange fnPledgeForWrong)

/-- 'laws.FnPledgeForPrice': WHATEVER THE INPUT: true; the input reads as it did. -/
def fnPledgeForPriceSpec : ChangeSpec := { name := "fnPledgeForPrice", fn := fun _ => fun
  | [d] => { results := [.lit (.bool true)], args := [d] }
  | _ => none }
def fnPledgeForPriceRow : OpenClaim := { program := "ytcakdjmmlcjkbaa", sum := "b2deb5d4679e760f184ca45f120d1530c603db5901df964d99a7534cc056e6f5", func := "loop.example/bonddesk/laws.FnPledgeForPrice", spec := "fnPledgeForPrice", apart := false }
def FnPledgeForPriceSaid : Prop := fnPledgeForPriceRow.holds Try.pinned (OpenSpec.ofChange fnPledgeForPriceSpec)

/-- ITS FALSE NEIGHBOUR: 'it returns false'. Refute it at one input. -/
def fnPledgeForPriceWrong : ChangeSpec := { name := "fnPledgeForPrice", fn := fun _ => fun
  | [d] => { results := [.lit (.bool false)], args := [d] }
  | _ => none }
def FnPledgeForPriceWrongFalsely : Prop := fnPledgeForPriceRow.holds Try.pinned (OpenSpec.ofChange fnPledgeForPriceWrong)

/-- 'laws.FnMarginCall': WHATEVER THE INPUT: true; the input reads as it did. -/
def fnMarginCallSpec : ChangeSpec := { name := "fnMarginCall", fn := fun _ => fun
  | [d] => { results := [.lit (.bool true)], args := [d] }
  | _ => none }
def fnMarginCallRow : OpenClaim := { program := "ytcakdjmmlcjkbaa", sum := "b2deb5d4679e760f184ca45f120d1530c603db5901df964d99a7534cc056e6f5", func := "loop.example/bonddesk/laws.FnMarginCall", spec := "fnMarginCall", apart := false }
def FnMarginCallSaid : Prop := fnMarginCallRow.holds Try.pinned (OpenSpec.ofChange fnMarginCallSpec)

/-- ITS FALSE NEIGHBOUR: 'it returns false'. Refute it at one input. -/
def fnMarginCallWrong : ChangeSpec := { name := "fnMarginCall", fn := fun _ => fun
  | [d] => { results := [.lit (.bool false)], args := [d] }
  | _ => none }
def FnMarginCallWrongFalsely : Prop := fnMarginCallRow.holds Try.pinned (OpenSpec.ofChange fnMarginCallWrong)

/-- 'laws.FnExactPledgeFor': WHATEVER THE INPUT: true; the input reads as it did. -/
def fnExactPledgeForSpec : ChangeSpec := { name := "fnExactPledgeFor", fn := fun _ => fun
  | [d1, d2] => { results := [.lit (.bool true)], args := [d1, d2] }
  | _ => none }
def fnExactPledgeForRow : OpenClaim := { program := "ytcakdjmmlcjkbaa", sum := "b2deb5d4679e760f184ca45f120d1530c603db5901df964d99a7534cc056e6f5", func := "loop.example/bonddesk/laws.FnExactPledgeFor", spec := "fnExactPledgeFor", apart := false }
def FnExactPledgeForSaid : Prop := fnExactPledgeForRow.holds Try.pinned (OpenSpec.ofChange fnExactPledgeForSpec)

/-- ITS FALSE NEIGHBOUR: 'it returns false'. Refute it at one input. -/
def fnExactPledgeForWrong : ChangeSpec := { name := "fnExactPledgeFor", fn := fun _ => fun
  | [d1, d2] => { results := [.lit (.bool false)], args := [d1, d2] }
  | _ => none }
def FnExactPledgeForWrongFalsely : Prop := fnExactPledgeForRow.holds Try.pinned (OpenSpec.ofChange fnExactPledgeForWrong)

/-- 'laws.FnExactMarginCall': WHATEVER THE INPUT: true; the input reads as it did. -/
def fnExactMarginCallSpec : ChangeSpec := { name := "fnExactMarginCall", fn := fun _ => fun
  | [d1, d2, d3] => { results := [.lit (.bool true)], args := [d1, d2, d3] }
  | _ => none }
def fnExactMarginCallRow : OpenClaim := { program := "ytcakdjmmlcjkbaa", sum := "b2deb5d4679e760f184ca45f120d1530c603db5901df964d99a7534cc056e6f5", func := "loop.example/bonddesk/laws.FnExactMarginCall", spec := "fnExactMarginCall", apart := false }
def FnExactMarginCallSaid : Prop := fnExactMarginCallRow.holds Try.pinned (OpenSpec.ofChange fnExactMarginCallSpec)

/-- ITS FALSE NEIGHBOUR: 'it returns false'. Refute it at one input. -/
def fnExactMarginCallWrong : ChangeSpec := { name := "fnExactMarginCall", fn := fun _ => fun
  | [d1, d2, d3] => { results := [.lit (.bool false)], args := [d1, d2, d3] }
  | _ => none }
def FnExactMarginCallWrongFalsely : Prop := fnExactMarginCallRow.holds Try.pinned (OpenSpec.ofChange fnExactMarginCallWrong)

/-- 'laws.FnBalanceOf': WHATEVER THE INPUT: true; the input reads as it did. -/
def fnBalanceOfSpec : ChangeSpec := { name := "fnBalanceOf", fn := fun _ => fun
  | [d] => { results := [.lit (.bool true)], args := [d] }
  | _ => none }
def fnBalanceOfRow : OpenClaim := { program := "ytcakdjmmlcjkbaa", sum := "b2deb5d4679e760f184ca45f120d1530c603db5901df964d99a7534cc056e6f5", func := "loop.example/bonddesk/laws.FnBalanceOf", spec := "fnBalanceOf", unfollowed := true, recurses := true, apart := false }
def FnBalanceOfSaid : Prop := fnBalanceOfRow.holds Try.pinned (OpenSpec.ofChange fnBalanceOfSpec)

/-- ITS FALSE NEIGHBOUR: 'it returns false'. Refute it at one input. -/
def fnBalanceOfWrong : ChangeSpec := { name := "fnBalanceOf", fn := fun _ => fun
  | [d] => { results := [.lit (.bool false)], args := [d] }
  | _ => none }
def FnBalanceOfWrongFalsely : Prop := fnBalanceOfRow.holds Try.pinned (OpenSpec.ofChange fnBalanceOfWrong)

/-- 'laws.FnExactBalanceOf': WHATEVER THE INPUT: true; the input reads as it did. -/
def fnExactBalanceOfSpec : ChangeSpec := { name := "fnExactBalanceOf", fn := fun _ => fun
  | [d1, d2] => { results := [.lit (.bool true)], args := [d1, d2] }
  | _ => none }
def fnExactBalanceOfRow : OpenClaim := { program := "ytcakdjmmlcjkbaa", sum := "b2deb5d4679e760f184ca45f120d1530c603db5901df964d99a7534cc056e6f5", func := "loop.example/bonddesk/laws.FnExactBalanceOf", spec := "fnExactBalanceOf", unfollowed := true, recurses := true, apart := false }
def FnExactBalanceOfSaid : Prop := fnExactBalanceOfRow.holds Try.pinned (OpenSpec.ofChange fnExactBalanceOfSpec)

/-- ITS FALSE NEIGHBOUR: 'it returns false'. Refute it at one input. -/
def fnExactBalanceOfWrong : ChangeSpec := { name := "fnExactBalanceOf", fn := fun _ => fun
  | [d1, d2] => { results := [.lit (.bool false)], args := [d1, d2] }
  | _ => none }
def FnExactBalanceOfWrongFalsely : Prop := fnExactBalanceOfRow.holds Try.pinned (OpenSpec.ofChange fnExactBalanceOfWrong)

/-- 'laws.FnExactValidPosts': WHATEVER THE INPUT: true; the input reads as it did. -/
def fnExactValidPostsSpec : ChangeSpec := { name := "fnExactValidPosts", fn := fun _ => fun
  | [d] => { results := [.lit (.bool true)], args := [d] }
  | _ => none }
def fnExactValidPostsRow : OpenClaim := { program := "ytcakdjmmlcjkbaa", sum := "b2deb5d4679e760f184ca45f120d1530c603db5901df964d99a7534cc056e6f5", func := "loop.example/bonddesk/laws.FnExactValidPosts", spec := "fnExactValidPosts", unfollowed := true, recurses := true, apart := false }
def FnExactValidPostsSaid : Prop := fnExactValidPostsRow.holds Try.pinned (OpenSpec.ofChange fnExactValidPostsSpec)

/-- ITS FALSE NEIGHBOUR: 'it returns false'. Refute it at one input. -/
def fnExactValidPostsWrong : ChangeSpec := { name := "fnExactValidPosts", fn := fun _ => fun
  | [d] => { results := [.lit (.bool false)], args := [d] }
  | _ => none }
def FnExactValidPostsWrongFalsely : Prop := fnExactValidPostsRow.holds Try.pinned (OpenSpec.ofChange fnExactValidPostsWrong)

/-- 'laws.FnTopLedger': WHATEVER THE INPUT: true; the input reads as it did. -/
def fnTopLedgerSpec : ChangeSpec := { name := "fnTopLedger", fn := fun _ => fun
  | [d1, d2] => { results := [.lit (.bool true)], args := [d1, d2] }
  | _ => none }
def fnTopLedgerRow : OpenClaim := { program := "ytcakdjmmlcjkbaa", sum := "b2deb5d4679e760f184ca45f120d1530c603db5901df964d99a7534cc056e6f5", func := "loop.example/bonddesk/laws.FnTopLedger", spec := "fnTopLedger", unfollowed := true, recurses := true, apart := false }
def FnTopLedgerSaid : Prop := fnTopLedgerRow.holds Try.pinned (OpenSpec.ofChange fnTopLedgerSpec)

/-- ITS FALSE NEIGHBOUR: 'it returns false'. Refute it at one input. -/
def fnTopLedgerWrong : ChangeSpec := { name := "fnTopLedger", fn := fun _ => fun
  | [d1, d2] => { results := [.lit (.bool false)], args := [d1, d2] }
  | _ => none }
def FnTopLedgerWrongFalsely : Prop := fnTopLedgerRow.holds Try.pinned (OpenSpec.ofChange fnTopLedgerWrong)

/-- 'laws.FnValidPosts': WHATEVER THE INPUT: true; the input reads as it did. -/
def fnValidPostsSpec : ChangeSpec := { name := "fnValidPosts", fn := fun _ => fun
  | [d] => { results := [.lit (.bool true)], args := [d] }
  | _ => none }
def fnValidPostsRow : OpenClaim := { program := "ytcakdjmmlcjkbaa", sum := "b2deb5d4679e760f184ca45f120d1530c603db5901df964d99a7534cc056e6f5", func := "loop.example/bonddesk/laws.FnValidPosts", spec := "fnValidPosts", unfollowed := true, recurses := true, apart := false }
def FnValidPostsSaid : Prop := fnValidPostsRow.holds Try.pinned (OpenSpec.ofChange fnValidPostsSpec)

/-- ITS FALSE NEIGHBOUR: 'it returns false'. Refute it at one input. -/
def fnValidPostsWrong : ChangeSpec := { name := "fnValidPosts", fn := fun _ => fun
  | [d] => { results := [.lit (.bool false)], args := [d] }
  | _ => none }
def FnValidPostsWrongFalsely : Prop := fnValidPostsRow.holds Try.pinned (OpenSpec.ofChange fnValidPostsWrong)

/- THE SECOND FORM. 'bulk': how many values and letters a reading holds, each counted each time it is reached (what is shared counts as often as it is met; a slice's spare places count too). A statement '..UptoSaid' is the law's where the arguments, and the package variables that the reading takes, are together of bulk at most 1048576: NARROWER than '..Said'. Prove '..Said' where nothing that the law and all that it calls make is longer than what came in: it says more and counts as full. Else prove '..UptoSaid'. A law counts once. -/
mutual
def uptoBulk {H : Type} : DataW H → Nat
  | .lit (.string bytes) => bytes.length + 1
  | .lit _ => 1
  | .nil => 1
  | .ptr d => uptoBulk d + 1
  | .slice elems spare => uptoBulkAll elems + uptoBulkAll spare + 1
  | .agg parts => uptoBulkAll parts + 1
  | .iface _ d => uptoBulk d + 1
  | .map entries => uptoBulkEntries entries + 1
  | .held _ => 1
def uptoBulkAll {H : Type} : List (DataW H) → Nat
  | [] => 0
  | d :: r => uptoBulk d + uptoBulkAll r
def uptoBulkEntries {H : Type} : List (Lit × DataW H) → Nat
  | [] => 0
  | x :: r => uptoBulkEntry x + uptoBulkEntries r
def uptoBulkEntry {H : Type} : Lit × DataW H → Nat
  | (.string bytes, d) => bytes.length + uptoBulk d + 1
  | (_, d) => uptoBulk d + 1
 end
def uptoSmall : (H : Type) → List (DataW H) → Bool := fun _ ds => decide (uptoBulkAll ds ≤ 1048576)
def OpenSpec.upto (s : _root_.Go.ChangeSpec) : _root_.Go.OpenSpec := { _root_.Go.OpenSpec.ofChange s with cond := some uptoSmall }

/-- 'laws.FnPledgeFor', WHERE WHAT IT READS IS OF BULK AT MOST 1048576: true; the input reads as it did. -/
def fnPledgeForUptoRow : OpenClaim := { program := "ytcakdjmmlcjkbaa", sum := "b2deb5d4679e760f184ca45f120d1530c603db5901df964d99a7534cc056e6f5", func := "loop.example/bonddesk/laws.FnPledgeFor", spec := "fnPledgeFor", apart := false, narrowed := true }
def FnPledgeForUptoSaid : Prop := fnPledgeForUptoRow.holds Try.pinned (OpenSpec.upto fnPledgeForSpec)

/-- 'laws.FnPledgeForPrice', WHERE WHAT IT READS IS OF BULK AT MOST 1048576: true; the input reads as it did. -/
def fnPledgeForPriceUptoRow : OpenClaim := { program := "ytcakdjmmlcjkbaa", sum := "b2deb5d4679e760f184ca45f120d1530c603db5901df964d99a7534cc056e6f5", func := "loop.example/bonddesk/laws.FnPledgeForPrice", spec := "fnPledgeForPrice", apart := false, narrowed := true }
def FnPledgeForPriceUptoSaid : Prop := fnPledgeForPriceUptoRow.holds Try.pinned (OpenSpec.upto fnPledgeForPriceSpec)

/-- 'laws.FnMarginCall', WHERE WHAT IT READS IS OF BULK AT MOST 1048576: true; the input reads as it did. -/
def fnMarginCallUptoRow : OpenClaim := { program := "ytcakdjmmlcjkbaa", sum := "b2deb5d4679e760f184ca45f120d1530c603db5901df964d99a7534cc056e6f5", func := "loop.example/bonddesk/laws.FnMarginCall", spec := "fnMarginCall", apart := false, narrowed := true }
def FnMarginCallUptoSaid : Prop := fnMarginCallUptoRow.holds Try.pinned (OpenSpec.upto fnMarginCallSpec)

/-- 'laws.FnExactPledgeFor', WHERE WHAT IT READS IS OF BULK AT MOST 1048576: true; the input reads as it did. -/
def fnExactPledgeForUptoRow : OpenClaim := { program := "ytcakdjmmlcjkbaa", sum := "b2deb5d4679e760f184ca45f120d1530c603db5901df964d99a7534cc056e6f5", func := "loop.example/bonddesk/laws.FnExactPledgeFor", spec := "fnExactPledgeFor", apart := false, narrowed := true }
def FnExactPledgeForUptoSaid : Prop := fnExactPledgeForUptoRow.holds Try.pinned (OpenSpec.upto fnExactPledgeForSpec)

/-- 'laws.FnExactMarginCall', WHERE WHAT IT READS IS OF BULK AT MOST 1048576: true; the input reads as it did. -/
def fnExactMarginCallUptoRow : OpenClaim := { program := "ytcakdjmmlcjkbaa", sum := "b2deb5d4679e760f184ca45f120d1530c603db5901df964d99a7534cc056e6f5", func := "loop.example/bonddesk/laws.FnExactMarginCall", spec := "fnExactMarginCall", apart := false, narrowed := true }
def FnExactMarginCallUptoSaid : Prop := fnExactMarginCallUptoRow.holds Try.pinned (OpenSpec.upto fnExactMarginCallSpec)

/-- 'laws.FnBalanceOf', WHERE WHAT IT READS IS OF BULK AT MOST 1048576: true; the input reads as it did. -/
def fnBalanceOfUptoRow : OpenClaim := { program := "ytcakdjmmlcjkbaa", sum := "b2deb5d4679e760f184ca45f120d1530c603db5901df964d99a7534cc056e6f5", func := "loop.example/bonddesk/laws.FnBalanceOf", spec := "fnBalanceOf", unfollowed := true, recurses := true, apart := false, narrowed := true }
def FnBalanceOfUptoSaid : Prop := fnBalanceOfUptoRow.holds Try.pinned (OpenSpec.upto fnBalanceOfSpec)

/-- 'laws.FnExactBalanceOf', WHERE WHAT IT READS IS OF BULK AT MOST 1048576: true; the input reads as it did. -/
def fnExactBalanceOfUptoRow : OpenClaim := { program := "ytcakdjmmlcjkbaa", sum := "b2deb5d4679e760f184ca45f120d1530c603db5901df964d99a7534cc056e6f5", func := "loop.example/bonddesk/laws.FnExactBalanceOf", spec := "fnExactBalanceOf", unfollowed := true, recurses := true, apart := false, narrowed := true }
def FnExactBalanceOfUptoSaid : Prop := fnExactBalanceOfUptoRow.holds Try.pinned (OpenSpec.upto fnExactBalanceOfSpec)

/-- 'laws.FnExactValidPosts', WHERE WHAT IT READS IS OF BULK AT MOST 1048576: true; the input reads as it did. -/
def fnExactValidPostsUptoRow : OpenClaim := { program := "ytcakdjmmlcjkbaa", sum := "b2deb5d4679e760f184ca45f120d1530c603db5901df964d99a7534cc056e6f5", func := "loop.example/bonddesk/laws.FnExactValidPosts", spec := "fnExactValidPosts", unfollowed := true, recurses := true, apart := false, narrowed := true }
def FnExactValidPostsUptoSaid : Prop := fnExactValidPostsUptoRow.holds Try.pinned (OpenSpec.upto fnExactValidPostsSpec)

/-- 'laws.FnTopLedger', WHERE WHAT IT READS IS OF BULK AT MOST 1048576: true; the input reads as it did. -/
def fnTopLedgerUptoRow : OpenClaim := { program := "ytcakdjmmlcjkbaa", sum := "b2deb5d4679e760f184ca45f120d1530c603db5901df964d99a7534cc056e6f5", func := "loop.example/bonddesk/laws.FnTopLedger", spec := "fnTopLedger", unfollowed := true, recurses := true, apart := false, narrowed := true }
def FnTopLedgerUptoSaid : Prop := fnTopLedgerUptoRow.holds Try.pinned (OpenSpec.upto fnTopLedgerSpec)

/-- 'laws.FnValidPosts', WHERE WHAT IT READS IS OF BULK AT MOST 1048576: true; the input reads as it did. -/
def fnValidPostsUptoRow : OpenClaim := { program := "ytcakdjmmlcjkbaa", sum := "b2deb5d4679e760f184ca45f120d1530c603db5901df964d99a7534cc056e6f5", func := "loop.example/bonddesk/laws.FnValidPosts", spec := "fnValidPosts", unfollowed := true, recurses := true, apart := false, narrowed := true }
def FnValidPostsUptoSaid : Prop := fnValidPostsUptoRow.holds Try.pinned (OpenSpec.upto fnValidPostsSpec)

end Rows
end Go.Proofs.Ytcakdjmmlcjkbaa
