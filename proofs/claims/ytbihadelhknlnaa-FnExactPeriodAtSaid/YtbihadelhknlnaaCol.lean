/- The periods from the last one on: the iterator, and what collects it. -/
import Derived.RangeFuncNested
import Derived.RangeFuncBound
import Derived.RangeFuncCalls
import Derived.RangeFuncLeaves
import Derived.RangeFuncBox
import Derived.Shelf.Abstract
import Derived.Shelf.RegionOpen
import Derived.WalkKit
import Derived.OwnWalkIn
import Derived.TacticsInMore
import Derived.LoopNIn
import Derived.LoopIn
import Derived.Maps.AppendAt
import Derived.Test.YtbihadelhknlnaaSch
import Derived.Test.YtbihadelhknlnaaDrawB
import Derived.Test.YtbihadelhknlnaaDate2
import Derived.Test.YtbihadelhknlnaaRow
namespace Go.Proofs.Ytbihadelhknlnaa
open Go.RowKit Go.Shelf
attribute [local go_sem] Oper.semAt_some
def pv (p : Per) : Value := .agg #[.int .i64 p.1, .int .i64 p.2.1, .bool p.2.2]
def encP (p : Per) : Array Value := #[pv p]
theorem grown_of_below {w w' : World} (hb : Below w.heap.size w w') : w.grownBy w' none := ⟨hb.os, hb.tape, hb.output, hb.size, fun k hk _ => hb.block k hk⟩
theorem infoP : (Try.prog.info? 33).map (fun i => (i.zero, i.size, i.bytes)) = some (some (.agg #[.int .i64 0, .int .i64 0, .bool false]), 3, 24) := by kernel_rfl
theorem cell_three_new (w : World) (a b c : Value) (t : TypeId) : ∀ j u, [a, b, c][j]? = some u → (w.alloc (.cells #[a, b, c] t)).cell? ((⟨w.heap.size, 0, none⟩ : Addr).add j) = some u := by
  intro j u hj
  match j, hj with
  | 0, hj => simp at hj; subst hj; simp [Addr.add]
  | 1, hj => simp at hj; subst hj; simp [Addr.add]
  | 2, hj => simp at hj; subst hj; simp [Addr.add]
theorem blk_own (B : Nat) (t : TypeId) (cs : Array Value) : ∀ (X Y : World) (row : Option Nat), Blk X B t cs → X.grownBy Y row → (∀ r, row = some r → ∃ o : Obj, X.heap[r]? = some o ∧ o.isCells = false) → Blk Y B t cs := fun X Y row h hg hr =>
  (hg.block B h.lt (fun e' => by obtain ⟨o, ho, hc⟩ := hr B e'.symm; rw [show X.heap[B]? = _ from h] at ho; cases ho; cases hc)).trans h
def Coll (ps : List Per) (w : World) (x : Ending) (w' : World) : Prop := ∃ v, x = .returned v ∧ PRow w' w.heap.size v ps ∧ (v = .slice none 0 0 ↔ ps = []) ∧ Below w.heap.size w w'
end Go.Proofs.Ytbihadelhknlnaa
