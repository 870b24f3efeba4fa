/-
  No cell of these rows narrows 'for every input' (looked for: loops, veiled, ifaces, maps, wideKeys, modest, calm, conditions, laid).
  DERIVED. THE GIVEN ROWS OF THIS SEAT. 10 by the template 'for every input the law returns true; each argument reads behind the call as it read before'; 0 by the template 'total and deterministic' (their statements: YtmamnljgkkjkcaaTotals.lean).
  GIVEN WITH THE SEED: the statements are not yours to turn. If you find one false, say at which input.
  Laid BY PROGRAM, IN A SANDBOX (cutbox-rows.mjs): the forced cells as the released guide's own fill.sh prints them over the translation bebfdc45f9548bcd… (all of the seat's roots in one cut). By AI agents, Wed Nov 11 2026. No macro, syntax, notation, axiom, sorry.
-/
import Derived.Test.YtmamnljgkkjkcaaChecked
import GoSem.Claim
import GoSem.ClaimJoined
import GoSem.ClaimMapViews
import Derived.JoinedTies
import Derived.KernelRfl
namespace Go.Proofs.Ytmamnljgkkjkcaa
/- THE CELL 'sum', in the pinned program and in every row, IS THE sha256 OF THE DUMP (.gsa) THAT YtmamnljgkkjkcaaProg.lean LOADS. Nothing in Lean hashes anything: it is a label: what it is worth is what the hold of that sum in a sandbox is worth. -/
noncomputable def Try.pinned : Pinned := { name := "ytmamnljgkkjkcaa", sum := "bebfdc45f9548bcdbeb2f52868bf1e02b175c8ba6b8a97e3735438b06ade79ec", checked := Try.checked }
namespace Rows
def none {H : Type} : Left H := { results := [], args := [] }

/-- 'laws.FnPostTrades': WHATEVER THE INPUT: true; the input reads as it did. -/
def fnPostTradesSpec : ChangeSpec := { name := "fnPostTrades", fn := fun _ => fun
  | [d] => { results := [.lit (.bool true)], args := [d] }
  | _ => none }
def fnPostTradesRow : OpenClaim := { program := "ytmamnljgkkjkcaa", sum := "bebfdc45f9548bcdbeb2f52868bf1e02b175c8ba6b8a97e3735438b06ade79ec", func := "loop.example/bonddesk/laws.FnPostTrades", spec := "fnPostTrades", unfollowed := true, recurses := true, plainKeys := false, apart := false }
def FnPostTradesSaid : Prop := fnPostTradesRow.holds Try.pinned (OpenSpec.ofChange fnPostTradesSpec)

/-- ITS FALSE NEIGHBOUR: 'it returns false'. Refute it at one input. -/
def fnPostTradesWrong : ChangeSpec := { name := "fnPostTrades", fn := fun _ => fun
  | [d] => { results := [.lit (.bool false)], args := [d] }
  | _ => none }
def FnPostTradesWrongFalsely : Prop := fnPostTradesRow.holds Try.pinned (OpenSpec.ofChange fnPostTradesWrong)

/-- 'laws.FnNetPosts': WHATEVER THE INPUT: true; the input reads as it did. -/
def fnNetPostsSpec : ChangeSpec := { name := "fnNetPosts", fn := fun _ => fun
  | [d] => { results := [.lit (.bool true)], args := [d] }
  | _ => none }
def fnNetPostsRow : OpenClaim := { program := "ytmamnljgkkjkcaa", sum := "bebfdc45f9548bcdbeb2f52868bf1e02b175c8ba6b8a97e3735438b06ade79ec", func := "loop.example/bonddesk/laws.FnNetPosts", spec := "fnNetPosts", unfollowed := true, recurses := true, plainKeys := false, apart := false }
def FnNetPostsSaid : Prop := fnNetPostsRow.holds Try.pinned (OpenSpec.ofChange fnNetPostsSpec)

/-- ITS FALSE NEIGHBOUR: 'it returns false'. Refute it at one input. -/
def fnNetPostsWrong : ChangeSpec := { name := "fnNetPosts", fn := fun _ => fun
  | [d] => { results := [.lit (.bool false)], args := [d] }
  | _ => none }
def FnNetPostsWrongFalsely : Prop := fnNetPostsRow.holds Try.pinned (OpenSpec.ofChange fnNetPostsWrong)

/-- 'laws.FnMatchNotes': WHATEVER THE INPUT: true; the input reads as it did. -/
def fnMatchNotesSpec : ChangeSpec := { name := "fnMatchNotes", fn := fun _ => fun
  | [d] => { results := [.lit (.bool true)], args := [d] }
  | _ => none }
def fnMatchNotesRow : OpenClaim := { program := "ytmamnljgkkjkcaa", sum := "bebfdc45f9548bcdbeb2f52868bf1e02b175c8ba6b8a97e3735438b06ade79ec", func := "loop.example/bonddesk/laws.FnMatchNotes", spec := "fnMatchNotes", unfollowed := true, recurses := true, plainKeys := false, apart := false }
def FnMatchNotesSaid : Prop := fnMatchNotesRow.holds Try.pinned (OpenSpec.ofChange fnMatchNotesSpec)

/-- ITS FALSE NEIGHBOUR: 'it returns false'. Refute it at one input. -/
def fnMatchNotesWrong : ChangeSpec := { name := "fnMatchNotes", fn := fun _ => fun
  | [d] => { results := [.lit (.bool false)], args := [d] }
  | _ => none }
def FnMatchNotesWrongFalsely : Prop := fnMatchNotesRow.holds Try.pinned (OpenSpec.ofChange fnMatchNotesWrong)

/-- 'laws.FnMatchNotesOpen': WHATEVER THE INPUT: true; the input reads as it did. -/
def fnMatchNotesOpenSpec : ChangeSpec := { name := "fnMatchNotesOpen", fn := fun _ => fun
  | [d] => { results := [.lit (.bool true)], args := [d] }
  | _ => none }
def fnMatchNotesOpenRow : OpenClaim := { program := "ytmamnljgkkjkcaa", sum := "bebfdc45f9548bcdbeb2f52868bf1e02b175c8ba6b8a97e3735438b06ade79ec", func := "loop.example/bonddesk/laws.FnMatchNotesOpen", spec := "fnMatchNotesOpen", unfollowed := true, recurses := true, plainKeys := false, apart := false }
def FnMatchNotesOpenSaid : Prop := fnMatchNotesOpenRow.holds Try.pinned (OpenSpec.ofChange fnMatchNotesOpenSpec)

/-- ITS FALSE NEIGHBOUR: 'it returns false'. Refute it at one input. -/
def fnMatchNotesOpenWrong : ChangeSpec := { name := "fnMatchNotesOpen", fn := fun _ => fun
  | [d] => { results := [.lit (.bool false)], args := [d] }
  | _ => none }
def FnMatchNotesOpenWrongFalsely : Prop := fnMatchNotesOpenRow.holds Try.pinned (OpenSpec.ofChange fnMatchNotesOpenWrong)

/-- 'laws.FnOpenNotes': WHATEVER THE INPUT: true; the input reads as it did. -/
def fnOpenNotesSpec : ChangeSpec := { name := "fnOpenNotes", fn := fun _ => fun
  | [d] => { results := [.lit (.bool true)], args := [d] }
  | _ => none }
def fnOpenNotesRow : OpenClaim := { program := "ytmamnljgkkjkcaa", sum := "bebfdc45f9548bcdbeb2f52868bf1e02b175c8ba6b8a97e3735438b06ade79ec", func := "loop.example/bonddesk/laws.FnOpenNotes", spec := "fnOpenNotes", unfollowed := true, recurses := true, plainKeys := false, apart := false }
def FnOpenNotesSaid : Prop := fnOpenNotesRow.holds Try.pinned (OpenSpec.ofChange fnOpenNotesSpec)

/-- ITS FALSE NEIGHBOUR: 'it returns false'. Refute it at one input. -/
def fnOpenNotesWrong : ChangeSpec := { name := "fnOpenNotes", fn := fun _ => fun
  | [d] => { results := [.lit (.bool false)], args := [d] }
  | _ => none }
def FnOpenNotesWrongFalsely : Prop := fnOpenNotesRow.holds Try.pinned (OpenSpec.ofChange fnOpenNotesWrong)

/-- 'laws.FnMatchNotesSelf': WHATEVER THE INPUT: true; the input reads as it did. -/
def fnMatchNotesSelfSpec : ChangeSpec := { name := "fnMatchNotesSelf", fn := fun _ => fun
  | [d] => { results := [.lit (.bool true)], args := [d] }
  | _ => none }
def fnMatchNotesSelfRow : OpenClaim := { program := "ytmamnljgkkjkcaa", sum := "bebfdc45f9548bcdbeb2f52868bf1e02b175c8ba6b8a97e3735438b06ade79ec", func := "loop.example/bonddesk/laws.FnMatchNotesSelf", spec := "fnMatchNotesSelf", unfollowed := true, recurses := true, plainKeys := false, apart := false }
def FnMatchNotesSelfSaid : Prop := fnMatchNotesSelfRow.holds Try.pinned (OpenSpec.ofChange fnMatchNotesSelfSpec)

/-- ITS FALSE NEIGHBOUR: 'it returns false'. Refute it at one input. -/
def fnMatchNotesSelfWrong : ChangeSpec := { name := "fnMatchNotesSelf", fn := fun _ => fun
  | [d] => { results := [.lit (.bool false)], args := [d] }
  | _ => none }
def FnMatchNotesSelfWrongFalsely : Prop := fnMatchNotesSelfRow.holds Try.pinned (OpenSpec.ofChange fnMatchNotesSelfWrong)

/-- 'laws.FnExactPostTrades': WHATEVER THE INPUT: true; the input reads as it did. -/
def fnExactPostTradesSpec : ChangeSpec := { name := "fnExactPostTrades", fn := fun _ => fun
  | [d] => { results := [.lit (.bool true)], args := [d] }
  | _ => none }
def fnExactPostTradesRow : OpenClaim := { program := "ytmamnljgkkjkcaa", sum := "bebfdc45f9548bcdbeb2f52868bf1e02b175c8ba6b8a97e3735438b06ade79ec", func := "loop.example/bonddesk/laws.FnExactPostTrades", spec := "fnExactPostTrades", unfollowed := true, recurses := true, plainKeys := false, apart := false }
def FnExactPostTradesSaid : Prop := fnExactPostTradesRow.holds Try.pinned (OpenSpec.ofChange fnExactPostTradesSpec)

/-- ITS FALSE NEIGHBOUR: 'it returns false'. Refute it at one input. -/
def fnExactPostTradesWrong : ChangeSpec := { name := "fnExactPostTrades", fn := fun _ => fun
  | [d] => { results := [.lit (.bool false)], args := [d] }
  | _ => none }
def FnExactPostTradesWrongFalsely : Prop := fnExactPostTradesRow.holds Try.pinned (OpenSpec.ofChange fnExactPostTradesWrong)

/-- 'laws.FnExactNetPosts': WHATEVER THE INPUT: true; the input reads as it did. -/
def fnExactNetPostsSpec : ChangeSpec := { name := "fnExactNetPosts", fn := fun _ => fun
  | [d] => { results := [.lit (.bool true)], args := [d] }
  | _ => none }
def fnExactNetPostsRow : OpenClaim := { program := "ytmamnljgkkjkcaa", sum := "bebfdc45f9548bcdbeb2f52868bf1e02b175c8ba6b8a97e3735438b06ade79ec", func := "loop.example/bonddesk/laws.FnExactNetPosts", spec := "fnExactNetPosts", unfollowed := true, recurses := true, plainKeys := false, apart := false }
def FnExactNetPostsSaid : Prop := fnExactNetPostsRow.holds Try.pinned (OpenSpec.ofChange fnExactNetPostsSpec)

/-- ITS FALSE NEIGHBOUR: 'it returns false'. Refute it at one input. -/
def fnExactNetPostsWrong : ChangeSpec := { name := "fnExactNetPosts", fn := fun _ => fun
  | [d] => { results := [.lit (.bool false)], args := [d] }
  | _ => none }
def FnExactNetPostsWrongFalsely : Prop := fnExactNetPostsRow.holds Try.pinned (OpenSpec.ofChange fnExactNetPostsWrong)

/-- 'laws.FnExactMatchNotes': WHATEVER THE INPUT: true; the input reads as it did. -/
def fnExactMatchNotesSpec : ChangeSpec := { name := "fnExactMatchNotes", fn := fun _ => fun
  | [d1, d2, d3] => { results := [.lit (.bool true)], args := [d1, d2, d3] }
  | _ => none }
def fnExactMatchNotesRow : OpenClaim := { program := "ytmamnljgkkjkcaa", sum := "bebfdc45f9548bcdbeb2f52868bf1e02b175c8ba6b8a97e3735438b06ade79ec", func := "loop.example/bonddesk/laws.FnExactMatchNotes", spec := "fnExactMatchNotes", unfollowed := true, recurses := true, plainKeys := false, apart := false }
def FnExactMatchNotesSaid : Prop := fnExactMatchNotesRow.holds Try.pinned (OpenSpec.ofChange fnExactMatchNotesSpec)

/-- ITS FALSE NEIGHBOUR: 'it returns false'. Refute it at one input. -/
def fnExactMatchNotesWrong : ChangeSpec := { name := "fnExactMatchNotes", fn := fun _ => fun
  | [d1, d2, d3] => { results := [.lit (.bool false)], args := [d1, d2, d3] }
  | _ => none }
def FnExactMatchNotesWrongFalsely : Prop := fnExactMatchNotesRow.holds Try.pinned (OpenSpec.ofChange fnExactMatchNotesWrong)

/-- 'laws.FnExactOpenNotes': WHATEVER THE INPUT: true; the input reads as it did. -/
def fnExactOpenNotesSpec : ChangeSpec := { name := "fnExactOpenNotes", fn := fun _ => fun
  | [d1, d2, d3] => { results := [.lit (.bool true)], args := [d1, d2, d3] }
  | _ => none }
def fnExactOpenNotesRow : OpenClaim := { program := "ytmamnljgkkjkcaa", sum := "bebfdc45f9548bcdbeb2f52868bf1e02b175c8ba6b8a97e3735438b06ade79ec", func := "loop.example/bonddesk/laws.FnExactOpenNotes", spec := "fnExactOpenNotes", unfollowed := true, recurses := true, plainKeys := false, apart := false }
def FnExactOpenNotesSaid : Prop := fnExactOpenNotesRow.holds Try.pinned (OpenSpec.ofChange fnExactOpenNotesSpec)

/-- ITS FALSE NEIGHBOUR: 'it returns false'. Refute it at one input. -/
def fnExactOpenNotesWrong : ChangeSpec := { name := "fnExactOpenNotes", fn := fun _ => fun
  | [d1, d2, d3] => { results := [.lit (.bool false)], args := [d1, d2, d3] }
  | _ => none }
def FnExactOpenNotesWrongFalsely : Prop := fnExactOpenNotesRow.holds Try.pinned (OpenSpec.ofChange fnExactOpenNotesWrong)

/- THE SECOND FORM. 'bulk': how many values and letters a reading holds, each counted each time it is reached (what is shared counts as often as it is met; a slice's spare places count too). A statement '..UptoSaid' is the law's where the arguments, and the package variables that the reading takes, are together of bulk at most 1048576: NARROWER than '..Said'. Prove '..Said' where nothing that the law and all that it calls make is longer than what came in: it says more and counts as full. Else prove '..UptoSaid'. A law counts once. -/
mutual
def uptoBulk {H : Type} : DataW H → Nat
  | .lit (.string bytes) => bytes.length + 1
  | .lit _ => 1
  | .nil => 1
  | .ptr d => uptoBulk d + 1
  | .slice elems spare => uptoBulkAll elems + uptoBulkAll spare + 1
  | .agg parts => uptoBulkAll parts + 1
  | .iface _ d => uptoBulk d + 1
  | .map entries => uptoBulkEntries entries + 1
  | .held _ => 1
def uptoBulkAll {H : Type} : List (DataW H) → Nat
  | [] => 0
  | d :: r => uptoBulk d + uptoBulkAll r
def uptoBulkEntries {H : Type} : List (Lit × DataW H) → Nat
  | [] => 0
  | x :: r => uptoBulkEntry x + uptoBulkEntries r
def uptoBulkEntry {H : Type} : Lit × DataW H → Nat
  | (.string bytes, d) => bytes.length + uptoBulk d + 1
  | (_, d) => uptoBulk d + 1
 end
def uptoSmall : (H : Type) → List (DataW H) → Bool := fun _ ds => decide (uptoBulkAll ds ≤ 1048576)
def OpenSpec.upto (s : _root_.Go.ChangeSpec) : _root_.Go.OpenSpec := { _root_.Go.OpenSpec.ofChange s with cond := some uptoSmall }

/-- 'laws.FnPostTrades', WHERE WHAT IT READS IS OF BULK AT MOST 1048576: true; the input reads as it did. -/
def fnPostTradesUptoRow : OpenClaim := { program := "ytmamnljgkkjkcaa", sum := "bebfdc45f9548bcdbeb2f52868bf1e02b175c8ba6b8a97e3735438b06ade79ec", func := "loop.example/bonddesk/laws.FnPostTrades", spec := "fnPostTrades", unfollowed := true, recurses := true, plainKeys := false, apart := false, narrowed := true }
def FnPostTradesUptoSaid : Prop := fnPostTradesUptoRow.holds Try.pinned (OpenSpec.upto fnPostTradesSpec)

/-- 'laws.FnNetPosts', WHERE WHAT IT READS IS OF BULK AT MOST 1048576: true; the input reads as it did. -/
def fnNetPostsUptoRow : OpenClaim := { program := "ytmamnljgkkjkcaa", sum := "bebfdc45f9548bcdbeb2f52868bf1e02b175c8ba6b8a97e3735438b06ade79ec", func := "loop.example/bonddesk/laws.FnNetPosts", spec := "fnNetPosts", unfollowed := true, recurses := true, plainKeys := false, apart := false, narrowed := true }
def FnNetPostsUptoSaid : Prop := fnNetPostsUptoRow.holds Try.pinned (OpenSpec.upto fnNetPostsSpec)

/-- 'laws.FnMatchNotes', WHERE WHAT IT READS IS OF BULK AT MOST 1048576: true; the input reads as it did. -/
def fnMatchNotesUptoRow : OpenClaim := { program := "ytmamnljgkkjkcaa", sum := "bebfdc45f9548bcdbeb2f52868bf1e02b175c8ba6b8a97e3735438b06ade79ec", func := "loop.example/bonddesk/laws.FnMatchNotes", spec := "fnMatchNotes", unfollowed := true, recurses := true, plainKeys := false, apart := false, narrowed := true }
def FnMatchNotesUptoSaid : Prop := fnMatchNotesUptoRow.holds Try.pinned (OpenSpec.upto fnMatchNotesSpec)

/-- 'laws.FnMatchNotesOpen', WHERE WHAT IT READS IS OF BULK AT MOST 1048576: true; the input reads as it did. -/
def fnMatchNotesOpenUptoRow : OpenClaim := { program := "ytmamnljgkkjkcaa", sum := "bebfdc45f9548bcdbeb2f52868bf1e02b175c8ba6b8a97e3735438b06ade79ec", func := "loop.example/bonddesk/laws.FnMatchNotesOpen", spec := "fnMatchNotesOpen", unfollowed := true, recurses := true, plainKeys := false, apart := false, narrowed := true }
def FnMatchNotesOpenUptoSaid : Prop := fnMatchNotesOpenUptoRow.holds Try.pinned (OpenSpec.upto fnMatchNotesOpenSpec)

/-- 'laws.FnOpenNotes', WHERE WHAT IT READS IS OF BULK AT MOST 1048576: true; the input reads as it did. -/
def fnOpenNotesUptoRow : OpenClaim := { program := "ytmamnljgkkjkcaa", sum := "bebfdc45f9548bcdbeb2f52868bf1e02b175c8ba6b8a97e3735438b06ade79ec", func := "loop.example/bonddesk/laws.FnOpenNotes", spec := "fnOpenNotes", unfollowed := true, recurses := true, plainKeys := false, apart := false, narrowed := true }
def FnOpenNotesUptoSaid : Prop := fnOpenNotesUptoRow.holds Try.pinned (OpenSpec.upto fnOpenNotesSpec)

/-- 'laws.FnMatchNotesSelf', WHERE WHAT IT READS IS OF BULK AT MOST 1048576: true; the input reads as it did. -/
def fnMatchNotesSelfUptoRow : OpenClaim := { program := "ytmamnljgkkjkcaa", sum := "bebfdc45f9548bcdbeb2f52868bf1e02b175c8ba6b8a97e3735438b06ade79ec", func := "loop.example/bonddesk/laws.FnMatchNotesSelf", spec := "fnMatchNotesSelf", unfollowed := true, recurses := true, plainKeys := false, apart := false, narrowed := true }
def FnMatchNotesSelfUptoSaid : Prop := fnMatchNotesSelfUptoRow.holds Try.pinned (OpenSpec.upto fnMatchNotesSelfSpec)

/-- 'laws.FnExactPostTrades', WHERE WHAT IT READS IS OF BULK AT MOST 1048576: true; the input reads as it did. -/
def fnExactPostTradesUptoRow : OpenClaim := { program := "ytmamnljgkkjkcaa", sum := "bebfdc45f9548bcdbeb2f52868bf1e02b175c8ba6b8a97e3735438b06ade79ec", func := "loop.example/bonddesk/laws.FnExactPostTrades", spec := "fnExactPostTrades", unfollowed := true, recurses := true, plainKeys := false, apart := false, narrowed := true }
def FnExactPostTradesUptoSaid : Prop := fnExactPostTradesUptoRow.holds Try.pinned (OpenSpec.upto fnExactPostTradesSpec)

/-- 'laws.FnExactNetPosts', WHERE WHAT IT READS IS OF BULK AT MOST 1048576: true; the input reads as it did. -/
def fnExactNetPostsUptoRow : OpenClaim := { program := "ytmamnljgkkjkcaa", sum := "bebfdc45f9548bcdbeb2f52868bf1e02b175c8ba6b8a97e3735438b06ade79ec", func := "loop.example/bonddesk/laws.FnExactNetPosts", spec := "fnExactNetPosts", unfollowed := true, recurses := true, plainKeys := false, apart := false, narrowed := true }
def FnExactNetPostsUptoSaid : Prop := fnExactNetPostsUptoRow.holds Try.pinned (OpenSpec.upto fnExactNetPostsSpec)

/-- 'laws.FnExactMatchNotes', WHERE WHAT IT READS IS OF BULK AT MOST 1048576: true; the input reads as it did. -/
def fnExactMatchNotesUptoRow : OpenClaim := { program := "ytmamnljgkkjkcaa", sum := "bebfdc45f9548bcdbeb2f52868bf1e02b175c8ba6b8a97e3735438b06ade79ec", func := "loop.example/bonddesk/laws.FnExactMatchNotes", spec := "fnExactMatchNotes", unfollowed := true, recurses := true, plainKeys := false, apart := false, narrowed := true }
def FnExactMatchNotesUptoSaid : Prop := fnExactMatchNotesUptoRow.holds Try.pinned (OpenSpec.upto fnExactMatchNotesSpec)

/-- 'laws.FnExactOpenNotes', WHERE WHAT IT READS IS OF BULK AT MOST 1048576: true; the input reads as it did. -/
def fnExactOpenNotesUptoRow : OpenClaim := { program := "ytmamnljgkkjkcaa", sum := "bebfdc45f9548bcdbeb2f52868bf1e02b175c8ba6b8a97e3735438b06ade79ec", func := "loop.example/bonddesk/laws.FnExactOpenNotes", spec := "fnExactOpenNotes", unfollowed := true, recurses := true, plainKeys := false, apart := false, narrowed := true }
def FnExactOpenNotesUptoSaid : Prop := fnExactOpenNotesUptoRow.holds Try.pinned (OpenSpec.upto fnExactOpenNotesSpec)

end Rows
end Go.Proofs.Ytmamnljgkkjkcaa
