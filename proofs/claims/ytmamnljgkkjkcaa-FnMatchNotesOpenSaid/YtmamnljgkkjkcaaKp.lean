/- Blocks that are kept, and nothing older has turned. -/
import Derived.Test.YtmamnljgkkjkcaaDrawB
namespace Go.Proofs.Ytmamnljgkkjkcaa
open Go.RowKit
def Kp (w : World) (l : List (Nat × TypeId × Array Value)) (W : World) : Prop :=
  Below w.heap.size w W ∧ ∀ t ∈ l, Blk W t.1 t.2.1 t.2.2
theorem Kp.below {w W W' : World} {l : List (Nat × TypeId × Array Value)} (k : Kp w l W) (hb : Below W.heap.size W W') : Kp w l W' :=
  ⟨k.1.trans (hb.mono k.1.size), fun t ht => (k.2 t ht).below hb (k.2 t ht).lt⟩
theorem Kp.drew {w W : World} {l : List (Nat × TypeId × Array Value)} (k : Kp w l W) : Kp w l W.drew := ⟨k.1.drew, k.2⟩
theorem Kp.alloc {w W : World} {l : List (Nat × TypeId × Array Value)} (k : Kp w l W) (o : Obj) : Kp w l (W.alloc o) := k.below ((Below.refl _ _).alloc (Nat.le_refl _) o)
theorem Blk.far {W : World} {g : Nat} {T : TypeId} {cs : Array Value} (h : Blk W g T cs) {q : Addr} (hq : g ≠ q.block) (u : Value) : Blk (W.setCell q u) g T cs := by
  unfold Blk at *
  simp only [World.setCell, Array.getElem?_modify]
  rw [if_neg (fun e => hq e.symm), h]
theorem Kp.set {w W : World} {l : List (Nat × TypeId × Array Value)} (k : Kp w l W) {p : Addr} (hp : ∀ t ∈ l, t.1 ≠ p.block) (hw : w.heap.size ≤ p.block) (u : Value) : Kp w l (W.setCell p u) :=
  ⟨k.1.setCell hw u, fun t ht => (k.2 t ht).far (hp t ht) u⟩
theorem Kp.add {w W : World} {l : List (Nat × TypeId × Array Value)} (k : Kp w l W) {b : Nat} {T : TypeId} {cs : Array Value} (h : Blk W b T cs) : Kp w ((b, T, cs) :: l) W :=
  ⟨k.1, fun t ht => by
    rcases List.mem_cons.1 ht with e | e
    · subst e; exact h
    · exact k.2 t e⟩
theorem Kp.refl (w : World) : Kp w [] w := ⟨Below.refl _ _, fun t ht => by cases ht⟩
theorem Kp.new {w W : World} {l : List (Nat × TypeId × Array Value)} (k : Kp w l W) (T : TypeId) (cs : Array Value) : Kp w ((W.heap.size, T, cs) :: l) (W.alloc (.cells cs T)) := (k.alloc _).add (Blk.new W cs T)
theorem Kp.first {w W : World} {l : List (Nat × TypeId × Array Value)} {b : Nat} {T : TypeId} {cs : Array Value} (k : Kp w ((b, T, cs) :: l) W) : Blk W b T cs := k.2 (b, T, cs) (by simp)
theorem Kp.second {w W : World} {l : List (Nat × TypeId × Array Value)} {b : Nat} {T : TypeId} {cs : Array Value} {x : Nat × TypeId × Array Value} (k : Kp w (x :: (b, T, cs) :: l) W) : Blk W b T cs := k.2 (b, T, cs) (by simp)
theorem Kp.third {w W : World} {l : List (Nat × TypeId × Array Value)} {b : Nat} {T : TypeId} {cs : Array Value} {x y : Nat × TypeId × Array Value} (k : Kp w (x :: y :: (b, T, cs) :: l) W) : Blk W b T cs := k.2 (b, T, cs) (by simp)
end Go.Proofs.Ytmamnljgkkjkcaa
