/- Rows of triples of numbers in memory of the call's own. -/
import Derived.Test.YtmamnljgkkjkcaaPs
import Derived.Test.YtmamnljgkkjkcaaRow
import Derived.OwnWalk
namespace Go.Proofs.Ytmamnljgkkjkcaa
open Go.RowKit
def ac (p : Tri) : List Value := [.int .i64 p.1, .int .i64 p.2.1, .int .i64 p.2.2]
theorem ac_len (p : Tri) : (ac p).length = 3 := rfl
theorem ac_one (p : Tri) : ∀ u ∈ ac p, u.oneCell' = true := by intro u hu; simp [ac] at hu; rcases hu with rfl | rfl | rfl <;> rfl
/-- A slice of triples in memory of the call's own; nil where there is none. -/
def TRow (T : TypeId) (w : World) (B : Nat) (v : Value) (ps : List Tri) : Prop := w.ownsRow B T 3 v ps.length (ps.flatMap ac)
theorem TRow.nil (T : TypeId) (w : World) (B : Nat) : TRow T w B (.slice none 0 0) [] := World.ownsRow_nil w B _ 3
theorem TRow.kept {T : TypeId} {w w' : World} {B : Nat} {v : Value} {ps : List Tri} {row : Option Nat} (h : TRow T w B v ps) (hg : w.grownBy w' row) (hr : ∀ j, row = some j → j < B) : TRow T w' B v ps :=
  World.ownsRow.kept h hg (by
    cases hb : v.ownBlock with
    | none => exact .inl rfl
    | some k => exact .inr fun e => by have := hr k e.symm; have := (World.ownsRow.lt h k hb).1; omega)
theorem TRow.below {T : TypeId} {w w' : World} {B C : Nat} {v : Value} {ps : List Tri} (h : TRow T w B v ps) (hb : Below C w w') (hC : w.heap.size ≤ C) : TRow T w' B v ps :=
  World.ownsRow.kept h (row := none) ⟨hb.os, hb.tape, hb.output, hb.size, fun k hk _ => hb.block k (by omega)⟩ (by cases v.ownBlock <;> simp)
theorem TRow.alloc {T : TypeId} {w : World} {B : Nat} {v : Value} {ps : List Tri} (h : TRow T w B v ps) (o : Obj) : TRow T (w.alloc o) B v ps := World.ownsRow.alloc h o
theorem TRow.drewN {T : TypeId} {w : World} {B : Nat} {v : Value} {ps : List Tri} (h : TRow T w B v ps) (n : Nat) : TRow T (w.drewN n) B v ps := h
theorem TRow.lower {T : TypeId} {w : World} {B C : Nat} {v : Value} {ps : List Tri} (h : TRow T w B v ps) (hC : C ≤ B) : TRow T w C v ps := by
  obtain ⟨h1, h2⟩ := h
  refine ⟨h1, ?_⟩
  rcases h2 with h2 | ⟨g, cap, cur, e, hb, rest⟩
  · exact .inl h2
  · exact .inr ⟨g, cap, cur, e, Nat.le_trans hC hb, rest⟩
theorem TRow.form {T : TypeId} {w : World} {B : Nat} {v : Value} {ps : List Tri} (h : TRow T w B v ps) (hl : 0 < ps.length) :
    ∃ b cap, v = .slice (some ⟨b, 0, none⟩) ps.length cap ∧ B ≤ b ∧ b < w.heap.size ∧ (ps.length ≤ cap ∧ cap ≤ maxLen) ∧
      (∀ i, i < ps.length → w.cell? ⟨b, i * 3, none⟩ = some (.int .i64 (ps.getD i t0).1) ∧ w.cell? ⟨b, i * 3 + 1, none⟩ = some (.int .i64 (ps.getD i t0).2.1) ∧ w.cell? ⟨b, i * 3 + 2, none⟩ = some (.int .i64 (ps.getD i t0).2.2)) ∧ (∀ i, w.frozen? ⟨b, i, none⟩ = false) := by
  have h0 := h
  rcases h.2 with ⟨_, h3⟩ | ⟨b, cap, cur, rfl, hb, hblk, hc1, hc2, _⟩
  · omega
  · refine ⟨b, cap, rfl, hb, ?_, ⟨hc1, hc2⟩, fun i hi => ?_, fun i => World.ownsRow.frozenAt h0 i⟩
    · exact (World.ownsRow.lt h0 b rfl).2
    · have key : ∀ j, j < 3 → w.cell? ⟨b, i * 3 + j, none⟩ = (ac (ps.getD i t0))[j]? := fun j hj => by
        rw [World.ownsRow.cellAt h0 (i * 3 + j) (by omega), Nat.mul_comm i 3, flat_at 3 ac ac_len t0 ps i j hi hj]
      exact ⟨key 0 (by omega), key 1 (by omega), key 2 (by omega)⟩
theorem TRow.r3 {T : TypeId} {w : World} {B : Nat} {v : Value} {ps : List Tri} (h : TRow T w B v ps) : R3 w v ps := by
  refine ⟨?_, fun hl => ?_⟩
  · rcases h.2 with ⟨rfl, h3⟩ | ⟨b, cap, cur, rfl, _⟩
    · exact ⟨none, 0, by rw [h3]⟩
    · exact ⟨_, _, rfl⟩
  · obtain ⟨b, cap, e, _, hlt, _, hc, _⟩ := h.form hl
    exact ⟨b, cap, e, hlt, hc⟩
/-- An element's cells stored anew. -/
theorem tflat_set : ∀ (ps : List Tri) (i : Nat) (x y z : Int), i < ps.length → ((((ps.flatMap ac).set (i * 3) (.int .i64 x)).set (i * 3 + 1) (.int .i64 y)).set (i * 3 + 2) (.int .i64 z)) = (ps.set i (x, y, z)).flatMap ac
  | [], i, x, y, z, h => by simp at h
  | p :: ps, 0, x, y, z, _ => by simp [ac]
  | p :: ps, i + 1, x, y, z, h => by
    have ih := tflat_set ps i x y z (by simpa using h)
    rw [List.flatMap_cons]
    show ((((Value.int .i64 p.1 :: .int .i64 p.2.1 :: .int .i64 p.2.2 :: ps.flatMap ac).set ((i + 1) * 3) (.int .i64 x)).set ((i + 1) * 3 + 1) (.int .i64 y)).set ((i + 1) * 3 + 2) (.int .i64 z)) = _
    rw [show (i + 1) * 3 = i * 3 + 1 + 1 + 1 by omega, show i * 3 + 1 + 1 + 1 + 1 = (i * 3 + 1) + 1 + 1 + 1 by omega, show i * 3 + 1 + 1 + 1 + 2 = (i * 3 + 2) + 1 + 1 + 1 by omega]
    simp only [List.set_cons_succ]
    rw [ih]
    simp [ac]
theorem TRow.store {T : TypeId} {w : World} {B b cap : Nat} {ps : List Tri} (h : TRow T w B (.slice (some ⟨b, 0, none⟩) ps.length cap) ps) (i : Nat) (hi : i < ps.length) (x y z : Int) :
    TRow T (((w.setCell ⟨b, i * 3, none⟩ (.int .i64 x)).setCell ⟨b, i * 3 + 1, none⟩ (.int .i64 y)).setCell ⟨b, i * 3 + 2, none⟩ (.int .i64 z)) B (.slice (some ⟨b, 0, none⟩) (ps.set i (x, y, z)).length cap) (ps.set i (x, y, z)) ∧
    w.grownBy (((w.setCell ⟨b, i * 3, none⟩ (.int .i64 x)).setCell ⟨b, i * 3 + 1, none⟩ (.int .i64 y)).setCell ⟨b, i * 3 + 2, none⟩ (.int .i64 z)) (some b) := by
  have h1 := World.ownsRow.stored h (i * 3) (.int .i64 x)
  have h2 := World.ownsRow.stored h1.1 (i * 3 + 1) (.int .i64 y)
  have h3 := World.ownsRow.stored h2.1 (i * 3 + 2) (.int .i64 z)
  have e := tflat_set ps i x y z hi
  refine ⟨?_, (h1.2.trans h2.2).trans h3.2⟩
  unfold TRow
  rw [← e, List.length_set]
  exact h3.1
theorem made_tris (n : Nat) : (madeCells (Value.agg #[.int .i64 0, .int .i64 0, .int .i64 0]).cells (n * 3)).toList = (List.replicate n t0).flatMap ac := by
  show (madeCells #[.int .i64 0, .int .i64 0, .int .i64 0] (n * 3)).toList = _
  have e : (List.replicate n t0).flatMap ac = List.replicate (n * 3) (Value.int .i64 0) := by
    induction n with
    | zero => rfl
    | succ n ih => rw [List.replicate_succ, List.flatMap_cons, ih, Nat.add_mul]; simp [ac, List.replicate_succ]
  rw [e]
  refine List.ext_getElem (by simp [madeCells]) fun i h1 h2 => ?_
  have h3 : i < n * 3 := by simpa using h2
  have : i % 3 = 0 ∨ i % 3 = 1 ∨ i % 3 = 2 := by omega
  rcases this with c | c | c <;> simp [madeCells, c]
theorem copy_tri {ps : List Tri} {k : Nat} (hk : k < ps.length) : (ps.take k ++ List.replicate (ps.length - k) t0).set k (ps.getD k t0) = ps.take (k + 1) ++ List.replicate (ps.length - (k + 1)) t0 := by
  obtain ⟨m, hm⟩ : ∃ m, ps.length - k = m + 1 := ⟨ps.length - k - 1, by omega⟩
  have hs : ps.take (k + 1) = ps.take k ++ [ps.getD k t0] := by
    rw [List.take_add_one, List.getD_eq_getElem?_getD, List.getElem?_eq_getElem hk]; rfl
  rw [hm, show ps.length - (k + 1) = m by omega, List.replicate_succ, hs, List.set_append_right _ _ (by simp; omega)]
  simp [Nat.min_eq_left (Nat.le_of_lt hk)]
end Go.Proofs.Ytmamnljgkkjkcaa
