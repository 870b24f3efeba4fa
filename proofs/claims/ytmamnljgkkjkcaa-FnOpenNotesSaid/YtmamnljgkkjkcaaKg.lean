/- Blocks that are kept while numbers are drawn: the reader alone turns. -/
import Derived.Test.YtmamnljgkkjkcaaDrawB
namespace Go.Proofs.Ytmamnljgkkjkcaa
open Go.RowKit
def Kg (w : World) (g : Nat) (l : List (Nat × TypeId × Array Value)) (W : World) : Prop :=
  g < w.heap.size ∧ w.grownBy W (some g) ∧ ∀ t ∈ l, w.heap.size ≤ t.1 ∧ Blk W t.1 t.2.1 t.2.2
theorem Kg.refl {w : World} {g : Nat} (h : g < w.heap.size) : Kg w g [] w := ⟨h, grown_refl w g, fun t ht => by cases ht⟩
theorem Kg.size {w W : World} {g : Nat} {l : List (Nat × TypeId × Array Value)} (k : Kg w g l W) : w.heap.size ≤ W.heap.size := k.2.1.size
theorem Kg.grown {w W W' : World} {g : Nat} {l : List (Nat × TypeId × Array Value)} (k : Kg w g l W) (hg : W.grownBy W' (some g)) : Kg w g l W' :=
  ⟨k.1, grown_trans k.2.1 hg, fun t ht => ⟨(k.2.2 t ht).1, (k.2.2 t ht).2.grown hg (by have := (k.2.2 t ht).1; have := k.1; omega)⟩⟩
theorem Kg.alloc {w W : World} {g : Nat} {l : List (Nat × TypeId × Array Value)} (k : Kg w g l W) (o : Obj) : Kg w g l (W.alloc o) :=
  ⟨k.1, grown_alloc k.2.1 o, fun t ht => ⟨(k.2.2 t ht).1, (k.2.2 t ht).2.alloc o⟩⟩
theorem Kg.add {w W : World} {g : Nat} {l : List (Nat × TypeId × Array Value)} (k : Kg w g l W) {b : Nat} {T : TypeId} {cs : Array Value} (hb : w.heap.size ≤ b) (h : Blk W b T cs) : Kg w g ((b, T, cs) :: l) W :=
  ⟨k.1, k.2.1, fun t ht => by
    rcases List.mem_cons.1 ht with e | e
    · subst e; exact ⟨hb, h⟩
    · exact k.2.2 t e⟩
theorem Kg.new {w W : World} {g : Nat} {l : List (Nat × TypeId × Array Value)} (k : Kg w g l W) (T : TypeId) (cs : Array Value) : Kg w g ((W.heap.size, T, cs) :: l) (W.alloc (.cells cs T)) := (k.alloc _).add k.size (Blk.new W cs T)
theorem Kg.set {w W : World} {g : Nat} {l : List (Nat × TypeId × Array Value)} (k : Kg w g l W) {p : Addr} (hp : ∀ t ∈ l, t.1 ≠ p.block) (hw : w.heap.size ≤ p.block) (u : Value) : Kg w g l (W.setCell p u) :=
  ⟨k.1, grown_setCell k.2.1 hw u, fun t ht => ⟨(k.2.2 t ht).1, by
    have h := (k.2.2 t ht).2
    unfold Blk at *
    simp only [World.setCell, Array.getElem?_modify]
    rw [if_neg (fun e => hp t ht e.symm), h]⟩⟩
theorem Kg.first {w W : World} {g : Nat} {l : List (Nat × TypeId × Array Value)} {b : Nat} {T : TypeId} {cs : Array Value} (k : Kg w g ((b, T, cs) :: l) W) : Blk W b T cs := (k.2.2 (b, T, cs) (by simp)).2
theorem Kg.second {w W : World} {g : Nat} {l : List (Nat × TypeId × Array Value)} {b : Nat} {T : TypeId} {cs : Array Value} {x : Nat × TypeId × Array Value} (k : Kg w g (x :: (b, T, cs) :: l) W) : Blk W b T cs := (k.2.2 (b, T, cs) (by simp)).2
theorem Kg.drop {w W : World} {g : Nat} {l : List (Nat × TypeId × Array Value)} {x : Nat × TypeId × Array Value} (k : Kg w g (x :: l) W) : Kg w g l W := ⟨k.1, k.2.1, fun t ht => k.2.2 t (List.mem_cons_of_mem _ ht)⟩
theorem Rdr.far {w : World} {g p b i : Nat} (h : Rdr w g p) (hb : g < b) (v : Value) : Rdr (w.setCell ⟨b, i, none⟩ v) g p :=
  h.below ((Below.refl (g + 1) w).setCell (by show g + 1 ≤ b; omega) v) (by omega)
end Go.Proofs.Ytmamnljgkkjkcaa
