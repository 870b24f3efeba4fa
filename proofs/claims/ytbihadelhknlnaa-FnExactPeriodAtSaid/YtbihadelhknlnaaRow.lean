/- Rows of periods that a call has made. -/
import Derived.Test.YtbihadelhknlnaaProg
import Derived.Test.YtbihadelhknlnaaDrawA
import Derived.Below
import Derived.Maps.AppendAt
import Derived.Laws.OwnMore
namespace Go.Proofs.Ytbihadelhknlnaa
open Go.RowKit
/-- A row's cells, k for each element. -/
theorem flat_len {α : Type} (k : Nat) (f : α → List Value) (hf : ∀ x, (f x).length = k) : ∀ ps : List α, (ps.flatMap f).length = ps.length * k
  | [] => by simp
  | p :: ps => by rw [List.flatMap_cons, List.length_append, hf, flat_len k f hf ps, List.length_cons, Nat.add_mul]; omega
theorem flat_at {α : Type} (k : Nat) (f : α → List Value) (hf : ∀ x, (f x).length = k) (d : α) : ∀ (ps : List α) (i j : Nat), i < ps.length → j < k → (ps.flatMap f)[k * i + j]? = (f (ps.getD i d))[j]?
  | [], i, j, h, _ => by simp at h
  | p :: ps, 0, j, _, hj => by
    rw [List.flatMap_cons, List.getElem?_append_left (by rw [hf]; omega)]
    simp
  | p :: ps, i + 1, j, h, hj => by
    rw [List.flatMap_cons, List.getElem?_append_right (by rw [hf, Nat.mul_add]; omega), hf, show k * (i + 1) + j - k = k * i + j by rw [Nat.mul_add]; omega]
    rw [flat_at k f hf d ps i j (by simpa using h) hj]
    simp
abbrev Per := Int × Int × Bool
def pc (p : Per) : List Value := [.int .i64 p.1, .int .i64 p.2.1, .bool p.2.2]
theorem pc_len (p : Per) : (pc p).length = 3 := rfl
theorem pc_one (p : Per) : ∀ u ∈ pc p, u.oneCell' = true := by intro u hu; simp [pc] at hu; rcases hu with rfl | rfl | rfl <;> rfl
def p0 : Per := (0, 0, false)
/-- A slice of periods in memory of the call's own; nil where there is none. -/
def PRow (w : World) (B : Nat) (v : Value) (ps : List Per) : Prop := w.ownsRow B 33 3 v ps.length (ps.flatMap pc)
theorem PRow.nil (w : World) (B : Nat) : PRow w B (.slice none 0 0) [] := World.ownsRow_nil w B _ 3
theorem PRow.kept {w w' : World} {B : Nat} {v : Value} {ps : List Per} {row : Option Nat} (h : PRow w B v ps) (hg : w.grownBy w' row) (hr : ∀ j, row = some j → j < B) : PRow w' B v ps :=
  World.ownsRow.kept h hg (by
    cases hb : v.ownBlock with
    | none => exact .inl rfl
    | some k => exact .inr fun e => by have := hr k e.symm; have := (World.ownsRow.lt h k hb).1; omega)
theorem PRow.below {w w' : World} {B C : Nat} {v : Value} {ps : List Per} (h : PRow w B v ps) (hb : Below C w w') (hC : w.heap.size ≤ C) : PRow w' B v ps :=
  World.ownsRow.kept h (row := none) ⟨hb.os, hb.tape, hb.output, hb.size, fun k hk _ => hb.block k (by omega)⟩ (by cases v.ownBlock <;> simp)
theorem PRow.alloc {w : World} {B : Nat} {v : Value} {ps : List Per} (h : PRow w B v ps) (o : Obj) : PRow (w.alloc o) B v ps := World.ownsRow.alloc h o
theorem PRow.drewN {w : World} {B : Nat} {v : Value} {ps : List Per} (h : PRow w B v ps) (n : Nat) : PRow (w.drewN n) B v ps := h
theorem PRow.lower {w : World} {B C : Nat} {v : Value} {ps : List Per} (h : PRow w B v ps) (hC : C ≤ B) : PRow w C v ps := by
  obtain ⟨h1, h2⟩ := h
  refine ⟨h1, ?_⟩
  rcases h2 with h2 | ⟨g, cap, cur, e, hb, rest⟩
  · exact .inl h2
  · exact .inr ⟨g, cap, cur, e, Nat.le_trans hC hb, rest⟩
/-- What can be read of it. -/
theorem PRow.form {w : World} {B : Nat} {v : Value} {ps : List Per} (h : PRow w B v ps) (hl : 0 < ps.length) :
    ∃ b cap, v = .slice (some ⟨b, 0, none⟩) ps.length cap ∧ B ≤ b ∧ b < w.heap.size ∧ (ps.length ≤ cap ∧ cap ≤ maxLen) ∧
      (∀ i, i < ps.length → w.cell? ⟨b, i * 3, none⟩ = some (.int .i64 (ps.getD i p0).1) ∧ w.cell? ⟨b, i * 3 + 1, none⟩ = some (.int .i64 (ps.getD i p0).2.1) ∧ w.cell? ⟨b, i * 3 + 2, none⟩ = some (.bool (ps.getD i p0).2.2)) ∧ (∀ i, w.frozen? ⟨b, i, none⟩ = false) := by
  have h0 := h
  rcases h.2 with ⟨_, h3⟩ | ⟨b, cap, cur, rfl, hb, hblk, hc1, hc2, _⟩
  · omega
  · refine ⟨b, cap, rfl, hb, ?_, ⟨hc1, hc2⟩, fun i hi => ?_, fun i => World.ownsRow.frozenAt h0 i⟩
    · exact (World.ownsRow.lt h0 b rfl).2
    · have key : ∀ j, j < 3 → w.cell? ⟨b, i * 3 + j, none⟩ = (pc (ps.getD i p0))[j]? := fun j hj => by
        rw [World.ownsRow.cellAt h0 (i * 3 + j) (by omega), Nat.mul_comm i 3, flat_at 3 pc pc_len p0 ps i j hi hj]
      exact ⟨key 0 (by omega), key 1 (by omega), key 2 (by omega)⟩
/-- An element's three cells stored anew. -/
theorem flat_set : ∀ (ps : List Per) (i : Nat) (x : Int) (y : Int) (z : Bool), ((((ps.flatMap pc).set (i * 3) (.int .i64 x)).set (i * 3 + 1) (.int .i64 y)).set (i * 3 + 2) (.bool z)) = if i < ps.length then (ps.set i (x, y, z)).flatMap pc else ps.flatMap pc
  | [], i, x, y, z => by simp
  | p :: ps, 0, x, y, z => by simp [pc]
  | p :: ps, i + 1, x, y, z => by
    have ih := flat_set ps i x y z
    have e : ∀ j, (i + 1) * 3 + j = (i * 3 + j) + 1 + 1 + 1 := fun j => by omega
    rw [List.flatMap_cons]
    show ((((Value.int .i64 p.1 :: .int .i64 p.2.1 :: .bool p.2.2 :: ps.flatMap pc).set ((i + 1) * 3) (.int .i64 x)).set ((i + 1) * 3 + 1) (.int .i64 y)).set ((i + 1) * 3 + 2) (.bool z)) = _
    rw [show (i + 1) * 3 = i * 3 + 1 + 1 + 1 by omega, show i * 3 + 1 + 1 + 1 + 1 = (i * 3 + 1) + 1 + 1 + 1 by omega, show i * 3 + 1 + 1 + 1 + 2 = (i * 3 + 2) + 1 + 1 + 1 by omega]
    simp only [List.set_cons_succ]
    rw [ih]
    by_cases c : i < ps.length
    · rw [if_pos c, if_pos (by simpa using c)]; simp [pc]
    · rw [if_neg c, if_neg (by simpa using c)]; simp [pc]
theorem PRow.store {w : World} {B b cap : Nat} {ps : List Per} (h : PRow w B (.slice (some ⟨b, 0, none⟩) ps.length cap) ps) (i : Nat) (hi : i < ps.length) (x y : Int) (z : Bool) :
    PRow (((w.setCell ⟨b, i * 3, none⟩ (.int .i64 x)).setCell ⟨b, i * 3 + 1, none⟩ (.int .i64 y)).setCell ⟨b, i * 3 + 2, none⟩ (.bool z)) B (.slice (some ⟨b, 0, none⟩) (ps.set i (x, y, z)).length cap) (ps.set i (x, y, z)) ∧
    w.grownBy (((w.setCell ⟨b, i * 3, none⟩ (.int .i64 x)).setCell ⟨b, i * 3 + 1, none⟩ (.int .i64 y)).setCell ⟨b, i * 3 + 2, none⟩ (.bool z)) (some b) := by
  have h1 := World.ownsRow.stored h (i * 3) (.int .i64 x)
  have h2 := World.ownsRow.stored h1.1 (i * 3 + 1) (.int .i64 y)
  have h3 := World.ownsRow.stored h2.1 (i * 3 + 2) (.bool z)
  have e := flat_set ps i x y z
  rw [if_pos hi] at e
  refine ⟨?_, (h1.2.trans h2.2).trans h3.2⟩
  unfold PRow
  rw [← e, List.length_set]
  exact h3.1
theorem flat_take {α : Type} (f : α → List Value) (ps : List α) (p : α) : (ps ++ [p]).flatMap f = ps.flatMap f ++ f p := by simp
end Go.Proofs.Ytbihadelhknlnaa
