/-
  No cell of these rows narrows 'for every input' (looked for: loops, veiled, ifaces, maps, wideKeys, modest, calm, conditions, laid).
  DERIVED. THE GIVEN ROWS OF THIS SEAT. 16 by the template 'for every input the law returns true; each argument reads behind the call as it read before'; 0 by the template 'total and deterministic' (their statements: YthlnmbnaimobgaaTotals.lean).
  GIVEN WITH THE SEED: the statements are not yours to turn. If you find one false, say at which input.
  Laid BY PROGRAM, IN A SANDBOX (cutbox-rows.mjs): the forced cells as the released guide's own fill.sh prints them over the translation 7217c81a99a22a5c… (all of the seat's roots in one cut). By AI agents, Wed Nov 11 2026. No macro, syntax, notation, axiom, sorry.
-/
import Derived.Test.YthlnmbnaimobgaaChecked
import GoSem.Claim
import GoSem.ClaimJoined
import GoSem.ClaimMapViews
import Derived.JoinedTies
import Derived.KernelRfl
namespace Go.Proofs.Ythlnmbnaimobgaa
/- THE CELL 'sum', in the pinned program and in every row, IS THE sha256 OF THE DUMP (.gsa) THAT YthlnmbnaimobgaaProg.lean LOADS. Nothing in Lean hashes anything: it is a label: what it is worth is what the hold of that sum in a sandbox is worth. -/
noncomputable def Try.pinned : Pinned := { name := "ythlnmbnaimobgaa", sum := "7217c81a99a22a5ceea76ad90bd4d741ac05d6189d9103a7d5da879e144df366", checked := Try.checked }
namespace Rows
def none {H : Type} : Left H := { results := [], args := [] }

/-- 'laws.FnMatchNotes': WHATEVER THE INPUT: true; the input reads as it did. -/
def fnMatchNotesSpec : ChangeSpec := { name := "fnMatchNotes", fn := fun _ => fun
  | [d] => { results := [.lit (.bool true)], args := [d] }
  | _ => none }
def fnMatchNotesRow : OpenClaim := { program := "ythlnmbnaimobgaa", sum := "7217c81a99a22a5ceea76ad90bd4d741ac05d6189d9103a7d5da879e144df366", func := "loop.example/bonddesk/laws.FnMatchNotes", spec := "fnMatchNotes", unfollowed := true, recurses := true, plainKeys := false, apart := false }
def FnMatchNotesSaid : Prop := fnMatchNotesRow.holds Try.pinned (OpenSpec.ofChange fnMatchNotesSpec)

/-- ITS FALSE NEIGHBOUR: 'it returns false'. Refute it at one input. -/
def fnMatchNotesWrong : ChangeSpec := { name := "fnMatchNotes", fn := fun _ => fun
  | [d] => { results := [.lit (.bool false)], args := [d] }
  | _ => none }
def FnMatchNotesWrongFalsely : Prop := fnMatchNotesRow.holds Try.pinned (OpenSpec.ofChange fnMatchNotesWrong)

/-- 'laws.FnMatchNotesOpen': WHATEVER THE INPUT: true; the input reads as it did. -/
def fnMatchNotesOpenSpec : ChangeSpec := { name := "fnMatchNotesOpen", fn := fun _ => fun
  | [d] => { results := [.lit (.bool true)], args := [d] }
  | _ => none }
def fnMatchNotesOpenRow : OpenClaim := { program := "ythlnmbnaimobgaa", sum := "7217c81a99a22a5ceea76ad90bd4d741ac05d6189d9103a7d5da879e144df366", func := "loop.example/bonddesk/laws.FnMatchNotesOpen", spec := "fnMatchNotesOpen", unfollowed := true, recurses := true, plainKeys := false, apart := false }
def FnMatchNotesOpenSaid : Prop := fnMatchNotesOpenRow.holds Try.pinned (OpenSpec.ofChange fnMatchNotesOpenSpec)

/-- ITS FALSE NEIGHBOUR: 'it returns false'. Refute it at one input. -/
def fnMatchNotesOpenWrong : ChangeSpec := { name := "fnMatchNotesOpen", fn := fun _ => fun
  | [d] => { results := [.lit (.bool false)], args := [d] }
  | _ => none }
def FnMatchNotesOpenWrongFalsely : Prop := fnMatchNotesOpenRow.holds Try.pinned (OpenSpec.ofChange fnMatchNotesOpenWrong)

/-- 'laws.FnOpenNotes': WHATEVER THE INPUT: true; the input reads as it did. -/
def fnOpenNotesSpec : ChangeSpec := { name := "fnOpenNotes", fn := fun _ => fun
  | [d] => { results := [.lit (.bool true)], args := [d] }
  | _ => none }
def fnOpenNotesRow : OpenClaim := { program := "ythlnmbnaimobgaa", sum := "7217c81a99a22a5ceea76ad90bd4d741ac05d6189d9103a7d5da879e144df366", func := "loop.example/bonddesk/laws.FnOpenNotes", spec := "fnOpenNotes", unfollowed := true, recurses := true, plainKeys := false, apart := false }
def FnOpenNotesSaid : Prop := fnOpenNotesRow.holds Try.pinned (OpenSpec.ofChange fnOpenNotesSpec)

/-- ITS FALSE NEIGHBOUR: 'it returns false'. Refute it at one input. -/
def fnOpenNotesWrong : ChangeSpec := { name := "fnOpenNotes", fn := fun _ => fun
  | [d] => { results := [.lit (.bool false)], args := [d] }
  | _ => none }
def FnOpenNotesWrongFalsely : Prop := fnOpenNotesRow.holds Try.pinned (OpenSpec.ofChange fnOpenNotesWrong)

/-- 'laws.FnMatchNotesSelf': WHATEVER THE INPUT: true; the input reads as it did. -/
def fnMatchNotesSelfSpec : ChangeSpec := { name := "fnMatchNotesSelf", fn := fun _ => fun
  | [d] => { results := [.lit (.bool true)], args := [d] }
  | _ => none }
def fnMatchNotesSelfRow : OpenClaim := { program := "ythlnmbnaimobgaa", sum := "7217c81a99a22a5ceea76ad90bd4d741ac05d6189d9103a7d5da879e144df366", func := "loop.example/bonddesk/laws.FnMatchNotesSelf", spec := "fnMatchNotesSelf", unfollowed := true, recurses := true, plainKeys := false, apart := false }
def FnMatchNotesSelfSaid : Prop := fnMatchNotesSelfRow.holds Try.pinned (OpenSpec.ofChange fnMatchNotesSelfSpec)

/-- ITS FALSE NEIGHBOUR: 'it returns false'. Refute it at one input. -/
def fnMatchNotesSelfWrong : ChangeSpec := { name := "fnMatchNotesSelf", fn := fun _ => fun
  | [d] => { results := [.lit (.bool false)], args := [d] }
  | _ => none }
def FnMatchNotesSelfWrongFalsely : Prop := fnMatchNotesSelfRow.holds Try.pinned (OpenSpec.ofChange fnMatchNotesSelfWrong)

/-- 'laws.FnFailCost': WHATEVER THE INPUT: true; the input reads as it did. -/
def fnFailCostSpec : ChangeSpec := { name := "fnFailCost", fn := fun _ => fun
  | [d] => { results := [.lit (.bool true)], args := [d] }
  | _ => none }
def fnFailCostRow : OpenClaim := { program := "ythlnmbnaimobgaa", sum := "7217c81a99a22a5ceea76ad90bd4d741ac05d6189d9103a7d5da879e144df366", func := "loop.example/bonddesk/laws.FnFailCost", spec := "fnFailCost", plainKeys := false, apart := false }
def FnFailCostSaid : Prop := fnFailCostRow.holds Try.pinned (OpenSpec.ofChange fnFailCostSpec)

/-- ITS FALSE NEIGHBOUR: 'it returns false'. Refute it at one input. -/
def fnFailCostWrong : ChangeSpec := { name := "fnFailCost", fn := fun _ => fun
  | [d] => { results := [.lit (.bool false)], args := [d] }
  | _ => none }
def FnFailCostWrongFalsely : Prop := fnFailCostRow.holds Try.pinned (OpenSpec.ofChange fnFailCostWrong)

/-- 'laws.FnExactMatchNotes': WHATEVER THE INPUT: true; the input reads as it did. -/
def fnExactMatchNotesSpec : ChangeSpec := { name := "fnExactMatchNotes", fn := fun _ => fun
  | [d1, d2, d3] => { results := [.lit (.bool true)], args := [d1, d2, d3] }
  | _ => none }
def fnExactMatchNotesRow : OpenClaim := { program := "ythlnmbnaimobgaa", sum := "7217c81a99a22a5ceea76ad90bd4d741ac05d6189d9103a7d5da879e144df366", func := "loop.example/bonddesk/laws.FnExactMatchNotes", spec := "fnExactMatchNotes", unfollowed := true, recurses := true, plainKeys := false, apart := false }
def FnExactMatchNotesSaid : Prop := fnExactMatchNotesRow.holds Try.pinned (OpenSpec.ofChange fnExactMatchNotesSpec)

/-- ITS FALSE NEIGHBOUR: 'it returns false'. Refute it at one input. -/
def fnExactMatchNotesWrong : ChangeSpec := { name := "fnExactMatchNotes", fn := fun _ => fun
  | [d1, d2, d3] => { results := [.lit (.bool false)], args := [d1, d2, d3] }
  | _ => none }
def FnExactMatchNotesWrongFalsely : Prop := fnExactMatchNotesRow.holds Try.pinned (OpenSpec.ofChange fnExactMatchNotesWrong)

/-- 'laws.FnExactOpenNotes': WHATEVER THE INPUT: true; the input reads as it did. -/
def fnExactOpenNotesSpec : ChangeSpec := { name := "fnExactOpenNotes", fn := fun _ => fun
  | [d1, d2, d3] => { results := [.lit (.bool true)], args := [d1, d2, d3] }
  | _ => none }
def fnExactOpenNotesRow : OpenClaim := { program := "ythlnmbnaimobgaa", sum := "7217c81a99a22a5ceea76ad90bd4d741ac05d6189d9103a7d5da879e144df366", func := "loop.example/bonddesk/laws.FnExactOpenNotes", spec := "fnExactOpenNotes", unfollowed := true, recurses := true, plainKeys := false, apart := false }
def FnExactOpenNotesSaid : Prop := fnExactOpenNotesRow.holds Try.pinned (OpenSpec.ofChange fnExactOpenNotesSpec)

/-- ITS FALSE NEIGHBOUR: 'it returns false'. Refute it at one input. -/
def fnExactOpenNotesWrong : ChangeSpec := { name := "fnExactOpenNotes", fn := fun _ => fun
  | [d1, d2, d3] => { results := [.lit (.bool false)], args := [d1, d2, d3] }
  | _ => none }
def FnExactOpenNotesWrongFalsely : Prop := fnExactOpenNotesRow.holds Try.pinned (OpenSpec.ofChange fnExactOpenNotesWrong)

/-- 'laws.FnExactFailCost': WHATEVER THE INPUT: true; the input reads as it did. -/
def fnExactFailCostSpec : ChangeSpec := { name := "fnExactFailCost", fn := fun _ => fun
  | [d1, d2, d3] => { results := [.lit (.bool true)], args := [d1, d2, d3] }
  | _ => none }
def fnExactFailCostRow : OpenClaim := { program := "ythlnmbnaimobgaa", sum := "7217c81a99a22a5ceea76ad90bd4d741ac05d6189d9103a7d5da879e144df366", func := "loop.example/bonddesk/laws.FnExactFailCost", spec := "fnExactFailCost", plainKeys := false, apart := false }
def FnExactFailCostSaid : Prop := fnExactFailCostRow.holds Try.pinned (OpenSpec.ofChange fnExactFailCostSpec)

/-- ITS FALSE NEIGHBOUR: 'it returns false'. Refute it at one input. -/
def fnExactFailCostWrong : ChangeSpec := { name := "fnExactFailCost", fn := fun _ => fun
  | [d1, d2, d3] => { results := [.lit (.bool false)], args := [d1, d2, d3] }
  | _ => none }
def FnExactFailCostWrongFalsely : Prop := fnExactFailCostRow.holds Try.pinned (OpenSpec.ofChange fnExactFailCostWrong)

/-- 'laws.FnLadderOf': WHATEVER THE INPUT: true; the input reads as it did. -/
def fnLadderOfSpec : ChangeSpec := { name := "fnLadderOf", fn := fun _ => fun
  | [d] => { results := [.lit (.bool true)], args := [d] }
  | _ => none }
def fnLadderOfRow : OpenClaim := { program := "ythlnmbnaimobgaa", sum := "7217c81a99a22a5ceea76ad90bd4d741ac05d6189d9103a7d5da879e144df366", func := "loop.example/bonddesk/laws.FnLadderOf", spec := "fnLadderOf", unfollowed := true, recurses := true, plainKeys := false, apart := false }
def FnLadderOfSaid : Prop := fnLadderOfRow.holds Try.pinned (OpenSpec.ofChange fnLadderOfSpec)

/-- ITS FALSE NEIGHBOUR: 'it returns false'. Refute it at one input. -/
def fnLadderOfWrong : ChangeSpec := { name := "fnLadderOf", fn := fun _ => fun
  | [d] => { results := [.lit (.bool false)], args := [d] }
  | _ => none }
def FnLadderOfWrongFalsely : Prop := fnLadderOfRow.holds Try.pinned (OpenSpec.ofChange fnLadderOfWrong)

/-- 'laws.FnLadderOfMerge': WHATEVER THE INPUT: true; the input reads as it did. -/
def fnLadderOfMergeSpec : ChangeSpec := { name := "fnLadderOfMerge", fn := fun _ => fun
  | [d] => { results := [.lit (.bool true)], args := [d] }
  | _ => none }
def fnLadderOfMergeRow : OpenClaim := { program := "ythlnmbnaimobgaa", sum := "7217c81a99a22a5ceea76ad90bd4d741ac05d6189d9103a7d5da879e144df366", func := "loop.example/bonddesk/laws.FnLadderOfMerge", spec := "fnLadderOfMerge", unfollowed := true, recurses := true, plainKeys := false, apart := false }
def FnLadderOfMergeSaid : Prop := fnLadderOfMergeRow.holds Try.pinned (OpenSpec.ofChange fnLadderOfMergeSpec)

/-- ITS FALSE NEIGHBOUR: 'it returns false'. Refute it at one input. -/
def fnLadderOfMergeWrong : ChangeSpec := { name := "fnLadderOfMerge", fn := fun _ => fun
  | [d] => { results := [.lit (.bool false)], args := [d] }
  | _ => none }
def FnLadderOfMergeWrongFalsely : Prop := fnLadderOfMergeRow.holds Try.pinned (OpenSpec.ofChange fnLadderOfMergeWrong)

/-- 'laws.FnCashAt': WHATEVER THE INPUT: true; the input reads as it did. -/
def fnCashAtSpec : ChangeSpec := { name := "fnCashAt", fn := fun _ => fun
  | [d] => { results := [.lit (.bool true)], args := [d] }
  | _ => none }
def fnCashAtRow : OpenClaim := { program := "ythlnmbnaimobgaa", sum := "7217c81a99a22a5ceea76ad90bd4d741ac05d6189d9103a7d5da879e144df366", func := "loop.example/bonddesk/laws.FnCashAt", spec := "fnCashAt", unfollowed := true, recurses := true, plainKeys := false, apart := false }
def FnCashAtSaid : Prop := fnCashAtRow.holds Try.pinned (OpenSpec.ofChange fnCashAtSpec)

/-- ITS FALSE NEIGHBOUR: 'it returns false'. Refute it at one input. -/
def fnCashAtWrong : ChangeSpec := { name := "fnCashAt", fn := fun _ => fun
  | [d] => { results := [.lit (.bool false)], args := [d] }
  | _ => none }
def FnCashAtWrongFalsely : Prop := fnCashAtRow.holds Try.pinned (OpenSpec.ofChange fnCashAtWrong)

/-- 'laws.FnCashNeed': WHATEVER THE INPUT: true; the input reads as it did. -/
def fnCashNeedSpec : ChangeSpec := { name := "fnCashNeed", fn := fun _ => fun
  | [d] => { results := [.lit (.bool true)], args := [d] }
  | _ => none }
def fnCashNeedRow : OpenClaim := { program := "ythlnmbnaimobgaa", sum := "7217c81a99a22a5ceea76ad90bd4d741ac05d6189d9103a7d5da879e144df366", func := "loop.example/bonddesk/laws.FnCashNeed", spec := "fnCashNeed", unfollowed := true, recurses := true, plainKeys := false, apart := false }
def FnCashNeedSaid : Prop := fnCashNeedRow.holds Try.pinned (OpenSpec.ofChange fnCashNeedSpec)

/-- ITS FALSE NEIGHBOUR: 'it returns false'. Refute it at one input. -/
def fnCashNeedWrong : ChangeSpec := { name := "fnCashNeed", fn := fun _ => fun
  | [d] => { results := [.lit (.bool false)], args := [d] }
  | _ => none }
def FnCashNeedWrongFalsely : Prop := fnCashNeedRow.holds Try.pinned (OpenSpec.ofChange fnCashNeedWrong)

/-- 'laws.FnCashNeedSorted': WHATEVER THE INPUT: true; the input reads as it did. -/
def fnCashNeedSortedSpec : ChangeSpec := { name := "fnCashNeedSorted", fn := fun _ => fun
  | [d] => { results := [.lit (.bool true)], args := [d] }
  | _ => none }
def fnCashNeedSortedRow : OpenClaim := { program := "ythlnmbnaimobgaa", sum := "7217c81a99a22a5ceea76ad90bd4d741ac05d6189d9103a7d5da879e144df366", func := "loop.example/bonddesk/laws.FnCashNeedSorted", spec := "fnCashNeedSorted", unfollowed := true, recurses := true, plainKeys := false, apart := false }
def FnCashNeedSortedSaid : Prop := fnCashNeedSortedRow.holds Try.pinned (OpenSpec.ofChange fnCashNeedSortedSpec)

/-- ITS FALSE NEIGHBOUR: 'it returns false'. Refute it at one input. -/
def fnCashNeedSortedWrong : ChangeSpec := { name := "fnCashNeedSorted", fn := fun _ => fun
  | [d] => { results := [.lit (.bool false)], args := [d] }
  | _ => none }
def FnCashNeedSortedWrongFalsely : Prop := fnCashNeedSortedRow.holds Try.pinned (OpenSpec.ofChange fnCashNeedSortedWrong)

/-- 'laws.FnExactLadderOf': WHATEVER THE INPUT: true; the input reads as it did. -/
def fnExactLadderOfSpec : ChangeSpec := { name := "fnExactLadderOf", fn := fun _ => fun
  | [d1, d2] => { results := [.lit (.bool true)], args := [d1, d2] }
  | _ => none }
def fnExactLadderOfRow : OpenClaim := { program := "ythlnmbnaimobgaa", sum := "7217c81a99a22a5ceea76ad90bd4d741ac05d6189d9103a7d5da879e144df366", func := "loop.example/bonddesk/laws.FnExactLadderOf", spec := "fnExactLadderOf", unfollowed := true, recurses := true, plainKeys := false, apart := false }
def FnExactLadderOfSaid : Prop := fnExactLadderOfRow.holds Try.pinned (OpenSpec.ofChange fnExactLadderOfSpec)

/-- ITS FALSE NEIGHBOUR: 'it returns false'. Refute it at one input. -/
def fnExactLadderOfWrong : ChangeSpec := { name := "fnExactLadderOf", fn := fun _ => fun
  | [d1, d2] => { results := [.lit (.bool false)], args := [d1, d2] }
  | _ => none }
def FnExactLadderOfWrongFalsely : Prop := fnExactLadderOfRow.holds Try.pinned (OpenSpec.ofChange fnExactLadderOfWrong)

/-- 'laws.FnExactCashAt': WHATEVER THE INPUT: true; the input reads as it did. -/
def fnExactCashAtSpec : ChangeSpec := { name := "fnExactCashAt", fn := fun _ => fun
  | [d1, d2, d3] => { results := [.lit (.bool true)], args := [d1, d2, d3] }
  | _ => none }
def fnExactCashAtRow : OpenClaim := { program := "ythlnmbnaimobgaa", sum := "7217c81a99a22a5ceea76ad90bd4d741ac05d6189d9103a7d5da879e144df366", func := "loop.example/bonddesk/laws.FnExactCashAt", spec := "fnExactCashAt", unfollowed := true, recurses := true, plainKeys := false, apart := false }
def FnExactCashAtSaid : Prop := fnExactCashAtRow.holds Try.pinned (OpenSpec.ofChange fnExactCashAtSpec)

/-- ITS FALSE NEIGHBOUR: 'it returns false'. Refute it at one input. -/
def fnExactCashAtWrong : ChangeSpec := { name := "fnExactCashAt", fn := fun _ => fun
  | [d1, d2, d3] => { results := [.lit (.bool false)], args := [d1, d2, d3] }
  | _ => none }
def FnExactCashAtWrongFalsely : Prop := fnExactCashAtRow.holds Try.pinned (OpenSpec.ofChange fnExactCashAtWrong)

/-- 'laws.FnExactCashNeed': WHATEVER THE INPUT: true; the input reads as it did. -/
def fnExactCashNeedSpec : ChangeSpec := { name := "fnExactCashNeed", fn := fun _ => fun
  | [d] => { results := [.lit (.bool true)], args := [d] }
  | _ => none }
def fnExactCashNeedRow : OpenClaim := { program := "ythlnmbnaimobgaa", sum := "7217c81a99a22a5ceea76ad90bd4d741ac05d6189d9103a7d5da879e144df366", func := "loop.example/bonddesk/laws.FnExactCashNeed", spec := "fnExactCashNeed", unfollowed := true, recurses := true, plainKeys := false, apart := false }
def FnExactCashNeedSaid : Prop := fnExactCashNeedRow.holds Try.pinned (OpenSpec.ofChange fnExactCashNeedSpec)

/-- ITS FALSE NEIGHBOUR: 'it returns false'. Refute it at one input. -/
def fnExactCashNeedWrong : ChangeSpec := { name := "fnExactCashNeed", fn := fun _ => fun
  | [d] => { results := [.lit (.bool false)], args := [d] }
  | _ => none }
def FnExactCashNeedWrongFalsely : Prop := fnExactCashNeedRow.holds Try.pinned (OpenSpec.ofChange fnExactCashNeedWrong)

/- THE SECOND FORM. 'bulk': how many values and letters a reading holds, each counted each time it is reached (what is shared counts as often as it is met; a slice's spare places count too). A statement '..UptoSaid' is the law's where the arguments, and the package variables that the reading takes, are together of bulk at most 1048576: NARROWER than '..Said'. Prove '..Said' where nothing that the law and all that it calls make is longer than what came in: it says more and counts as full. Else prove '..UptoSaid'. A law counts once. -/
mutual
def uptoBulk {H : Type} : DataW H → Nat
  | .lit (.string bytes) => bytes.length + 1
  | .lit _ => 1
  | .nil => 1
  | .ptr d => uptoBulk d + 1
  | .slice elems spare => uptoBulkAll elems + uptoBulkAll spare + 1
  | .agg parts => uptoBulkAll parts + 1
  | .iface _ d => uptoBulk d + 1
  | .map entries => uptoBulkEntries entries + 1
  | .held _ => 1
def uptoBulkAll {H : Type} : List (DataW H) → Nat
  | [] => 0
  | d :: r => uptoBulk d + uptoBulkAll r
def uptoBulkEntries {H : Type} : List (Lit × DataW H) → Nat
  | [] => 0
  | x :: r => uptoBulkEntry x + uptoBulkEntries r
def uptoBulkEntry {H : Type} : Lit × DataW H → Nat
  | (.string bytes, d) => bytes.length + uptoBulk d + 1
  | (_, d) => uptoBulk d + 1
 end
def uptoSmall : (H : Type) → List (DataW H) → Bool := fun _ ds => decide (uptoBulkAll ds ≤ 1048576)
def OpenSpec.upto (s : _root_.Go.ChangeSpec) : _root_.Go.OpenSpec := { _root_.Go.OpenSpec.ofChange s with cond := some uptoSmall }

/-- 'laws.FnMatchNotes', WHERE WHAT IT READS IS OF BULK AT MOST 1048576: true; the input reads as it did. -/
def fnMatchNotesUptoRow : OpenClaim := { program := "ythlnmbnaimobgaa", sum := "7217c81a99a22a5ceea76ad90bd4d741ac05d6189d9103a7d5da879e144df366", func := "loop.example/bonddesk/laws.FnMatchNotes", spec := "fnMatchNotes", unfollowed := true, recurses := true, plainKeys := false, apart := false, narrowed := true }
def FnMatchNotesUptoSaid : Prop := fnMatchNotesUptoRow.holds Try.pinned (OpenSpec.upto fnMatchNotesSpec)

/-- 'laws.FnMatchNotesOpen', WHERE WHAT IT READS IS OF BULK AT MOST 1048576: true; the input reads as it did. -/
def fnMatchNotesOpenUptoRow : OpenClaim := { program := "ythlnmbnaimobgaa", sum := "7217c81a99a22a5ceea76ad90bd4d741ac05d6189d9103a7d5da879e144df366", func := "loop.example/bonddesk/laws.FnMatchNotesOpen", spec := "fnMatchNotesOpen", unfollowed := true, recurses := true, plainKeys := false, apart := false, narrowed := true }
def FnMatchNotesOpenUptoSaid : Prop := fnMatchNotesOpenUptoRow.holds Try.pinned (OpenSpec.upto fnMatchNotesOpenSpec)

/-- 'laws.FnOpenNotes', WHERE WHAT IT READS IS OF BULK AT MOST 1048576: true; the input reads as it did. -/
def fnOpenNotesUptoRow : OpenClaim := { program := "ythlnmbnaimobgaa", sum := "7217c81a99a22a5ceea76ad90bd4d741ac05d6189d9103a7d5da879e144df366", func := "loop.example/bonddesk/laws.FnOpenNotes", spec := "fnOpenNotes", unfollowed := true, recurses := true, plainKeys := false, apart := false, narrowed := true }
def FnOpenNotesUptoSaid : Prop := fnOpenNotesUptoRow.holds Try.pinned (OpenSpec.upto fnOpenNotesSpec)

/-- 'laws.FnMatchNotesSelf', WHERE WHAT IT READS IS OF BULK AT MOST 1048576: true; the input reads as it did. -/
def fnMatchNotesSelfUptoRow : OpenClaim := { program := "ythlnmbnaimobgaa", sum := "7217c81a99a22a5ceea76ad90bd4d741ac05d6189d9103a7d5da879e144df366", func := "loop.example/bonddesk/laws.FnMatchNotesSelf", spec := "fnMatchNotesSelf", unfollowed := true, recurses := true, plainKeys := false, apart := false, narrowed := true }
def FnMatchNotesSelfUptoSaid : Prop := fnMatchNotesSelfUptoRow.holds Try.pinned (OpenSpec.upto fnMatchNotesSelfSpec)

/-- 'laws.FnFailCost', WHERE WHAT IT READS IS OF BULK AT MOST 1048576: true; the input reads as it did. -/
def fnFailCostUptoRow : OpenClaim := { program := "ythlnmbnaimobgaa", sum := "7217c81a99a22a5ceea76ad90bd4d741ac05d6189d9103a7d5da879e144df366", func := "loop.example/bonddesk/laws.FnFailCost", spec := "fnFailCost", plainKeys := false, apart := false, narrowed := true }
def FnFailCostUptoSaid : Prop := fnFailCostUptoRow.holds Try.pinned (OpenSpec.upto fnFailCostSpec)

/-- 'laws.FnExactMatchNotes', WHERE WHAT IT READS IS OF BULK AT MOST 1048576: true; the input reads as it did. -/
def fnExactMatchNotesUptoRow : OpenClaim := { program := "ythlnmbnaimobgaa", sum := "7217c81a99a22a5ceea76ad90bd4d741ac05d6189d9103a7d5da879e144df366", func := "loop.example/bonddesk/laws.FnExactMatchNotes", spec := "fnExactMatchNotes", unfollowed := true, recurses := true, plainKeys := false, apart := false, narrowed := true }
def FnExactMatchNotesUptoSaid : Prop := fnExactMatchNotesUptoRow.holds Try.pinned (OpenSpec.upto fnExactMatchNotesSpec)

/-- 'laws.FnExactOpenNotes', WHERE WHAT IT READS IS OF BULK AT MOST 1048576: true; the input reads as it did. -/
def fnExactOpenNotesUptoRow : OpenClaim := { program := "ythlnmbnaimobgaa", sum := "7217c81a99a22a5ceea76ad90bd4d741ac05d6189d9103a7d5da879e144df366", func := "loop.example/bonddesk/laws.FnExactOpenNotes", spec := "fnExactOpenNotes", unfollowed := true, recurses := true, plainKeys := false, apart := false, narrowed := true }
def FnExactOpenNotesUptoSaid : Prop := fnExactOpenNotesUptoRow.holds Try.pinned (OpenSpec.upto fnExactOpenNotesSpec)

/-- 'laws.FnExactFailCost', WHERE WHAT IT READS IS OF BULK AT MOST 1048576: true; the input reads as it did. -/
def fnExactFailCostUptoRow : OpenClaim := { program := "ythlnmbnaimobgaa", sum := "7217c81a99a22a5ceea76ad90bd4d741ac05d6189d9103a7d5da879e144df366", func := "loop.example/bonddesk/laws.FnExactFailCost", spec := "fnExactFailCost", plainKeys := false, apart := false, narrowed := true }
def FnExactFailCostUptoSaid : Prop := fnExactFailCostUptoRow.holds Try.pinned (OpenSpec.upto fnExactFailCostSpec)

/-- 'laws.FnLadderOf', WHERE WHAT IT READS IS OF BULK AT MOST 1048576: true; the input reads as it did. -/
def fnLadderOfUptoRow : OpenClaim := { program := "ythlnmbnaimobgaa", sum := "7217c81a99a22a5ceea76ad90bd4d741ac05d6189d9103a7d5da879e144df366", func := "loop.example/bonddesk/laws.FnLadderOf", spec := "fnLadderOf", unfollowed := true, recurses := true, plainKeys := false, apart := false, narrowed := true }
def FnLadderOfUptoSaid : Prop := fnLadderOfUptoRow.holds Try.pinned (OpenSpec.upto fnLadderOfSpec)

/-- 'laws.FnLadderOfMerge', WHERE WHAT IT READS IS OF BULK AT MOST 1048576: true; the input reads as it did. -/
def fnLadderOfMergeUptoRow : OpenClaim := { program := "ythlnmbnaimobgaa", sum := "7217c81a99a22a5ceea76ad90bd4d741ac05d6189d9103a7d5da879e144df366", func := "loop.example/bonddesk/laws.FnLadderOfMerge", spec := "fnLadderOfMerge", unfollowed := true, recurses := true, plainKeys := false, apart := false, narrowed := true }
def FnLadderOfMergeUptoSaid : Prop := fnLadderOfMergeUptoRow.holds Try.pinned (OpenSpec.upto fnLadderOfMergeSpec)

/-- 'laws.FnCashAt', WHERE WHAT IT READS IS OF BULK AT MOST 1048576: true; the input reads as it did. -/
def fnCashAtUptoRow : OpenClaim := { program := "ythlnmbnaimobgaa", sum := "7217c81a99a22a5ceea76ad90bd4d741ac05d6189d9103a7d5da879e144df366", func := "loop.example/bonddesk/laws.FnCashAt", spec := "fnCashAt", unfollowed := true, recurses := true, plainKeys := false, apart := false, narrowed := true }
def FnCashAtUptoSaid : Prop := fnCashAtUptoRow.holds Try.pinned (OpenSpec.upto fnCashAtSpec)

/-- 'laws.FnCashNeed', WHERE WHAT IT READS IS OF BULK AT MOST 1048576: true; the input reads as it did. -/
def fnCashNeedUptoRow : OpenClaim := { program := "ythlnmbnaimobgaa", sum := "7217c81a99a22a5ceea76ad90bd4d741ac05d6189d9103a7d5da879e144df366", func := "loop.example/bonddesk/laws.FnCashNeed", spec := "fnCashNeed", unfollowed := true, recurses := true, plainKeys := false, apart := false, narrowed := true }
def FnCashNeedUptoSaid : Prop := fnCashNeedUptoRow.holds Try.pinned (OpenSpec.upto fnCashNeedSpec)

/-- 'laws.FnCashNeedSorted', WHERE WHAT IT READS IS OF BULK AT MOST 1048576: true; the input reads as it did. -/
def fnCashNeedSortedUptoRow : OpenClaim := { program := "ythlnmbnaimobgaa", sum := "7217c81a99a22a5ceea76ad90bd4d741ac05d6189d9103a7d5da879e144df366", func := "loop.example/bonddesk/laws.FnCashNeedSorted", spec := "fnCashNeedSorted", unfollowed := true, recurses := true, plainKeys := false, apart := false, narrowed := true }
def FnCashNeedSortedUptoSaid : Prop := fnCashNeedSortedUptoRow.holds Try.pinned (OpenSpec.upto fnCashNeedSortedSpec)

/-- 'laws.FnExactLadderOf', WHERE WHAT IT READS IS OF BULK AT MOST 1048576: true; the input reads as it did. -/
def fnExactLadderOfUptoRow : OpenClaim := { program := "ythlnmbnaimobgaa", sum := "7217c81a99a22a5ceea76ad90bd4d741ac05d6189d9103a7d5da879e144df366", func := "loop.example/bonddesk/laws.FnExactLadderOf", spec := "fnExactLadderOf", unfollowed := true, recurses := true, plainKeys := false, apart := false, narrowed := true }
def FnExactLadderOfUptoSaid : Prop := fnExactLadderOfUptoRow.holds Try.pinned (OpenSpec.upto fnExactLadderOfSpec)

/-- 'laws.FnExactCashAt', WHERE WHAT IT READS IS OF BULK AT MOST 1048576: true; the input reads as it did. -/
def fnExactCashAtUptoRow : OpenClaim := { program := "ythlnmbnaimobgaa", sum := "7217c81a99a22a5ceea76ad90bd4d741ac05d6189d9103a7d5da879e144df366", func := "loop.example/bonddesk/laws.FnExactCashAt", spec := "fnExactCashAt", unfollowed := true, recurses := true, plainKeys := false, apart := false, narrowed := true }
def FnExactCashAtUptoSaid : Prop := fnExactCashAtUptoRow.holds Try.pinned (OpenSpec.upto fnExactCashAtSpec)

/-- 'laws.FnExactCashNeed', WHERE WHAT IT READS IS OF BULK AT MOST 1048576: true; the input reads as it did. -/
def fnExactCashNeedUptoRow : OpenClaim := { program := "ythlnmbnaimobgaa", sum := "7217c81a99a22a5ceea76ad90bd4d741ac05d6189d9103a7d5da879e144df366", func := "loop.example/bonddesk/laws.FnExactCashNeed", spec := "fnExactCashNeed", unfollowed := true, recurses := true, plainKeys := false, apart := false, narrowed := true }
def FnExactCashNeedUptoSaid : Prop := fnExactCashNeedUptoRow.holds Try.pinned (OpenSpec.upto fnExactCashNeedSpec)

end Rows
end Go.Proofs.Ythlnmbnaimobgaa
