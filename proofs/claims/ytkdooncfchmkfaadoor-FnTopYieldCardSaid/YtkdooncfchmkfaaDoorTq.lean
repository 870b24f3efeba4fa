/- Rows of pairs of numbers in memory of the call's own. -/
import Derived.Test.YtkdooncfchmkfaaDoorAvB
import Derived.Test.YtkdooncfchmkfaaDoorZC
import Derived.OwnWalk
namespace Go.Proofs.YtkdooncfchmkfaaDoor
open Go.RowKit
abbrev Pr := Int × Int
abbrev pr0 : Pr := (0, 0)
def R2 (w : World) (v : Value) (ps : List Pr) : Prop := (∃ a c, v = .slice a ps.length c) ∧ (0 < ps.length → ∃ b c, v = .slice (some ⟨b, 0, none⟩) ps.length c ∧ b < w.heap.size ∧ ∀ i, i < ps.length → w.cell? ⟨b, i * 2, none⟩ = some (.int .i64 (ps.getD i pr0).1) ∧ w.cell? ⟨b, i * 2 + 1, none⟩ = some (.int .i64 (ps.getD i pr0).2))
theorem R2.below {w w' : World} {v : Value} {ps : List Pr} {B : Nat} (h : R2 w v ps) (hb : Below B w w') (hB : w.heap.size ≤ B) : R2 w' v ps := by
  refine ⟨h.1, fun hl => ?_⟩
  obtain ⟨b, c, e, hlt, hc⟩ := h.2 hl
  refine ⟨b, c, e, Nat.lt_of_lt_of_le hlt hb.size, fun i hi => ?_⟩
  obtain ⟨c0, c1⟩ := hc i hi
  exact ⟨(hb.cell (p := ⟨b, i * 2, none⟩) (by show b < B; omega)).trans c0, (hb.cell (p := ⟨b, i * 2 + 1, none⟩) (by show b < B; omega)).trans c1⟩
theorem R2.o {w : World} {v : Value} {ps : List Pr} (h : R2 w v ps) : R2o w v ps := by
  refine ⟨h.1, fun hl => ?_⟩
  obtain ⟨b, c, e, hlt, hc⟩ := h.2 hl
  exact ⟨b, 0, c, e, hlt, fun i hi => by simpa using hc i hi⟩
def ac2 (p : Pr) : List Value := [.int .i64 p.1, .int .i64 p.2]
theorem ac2_len (p : Pr) : (ac2 p).length = 2 := rfl
theorem ac2_one (p : Pr) : ∀ u ∈ ac2 p, u.oneCell' = true := by intro u hu; simp [ac2] at hu; rcases hu with rfl | rfl <;> rfl
/-- A slice of pairs in memory of the call's own; nil where there is none. -/
def TRow2 (T : TypeId) (w : World) (B : Nat) (v : Value) (ps : List Pr) : Prop := w.ownsRow B T 2 v ps.length (ps.flatMap ac2)
theorem TRow2.nil (T : TypeId) (w : World) (B : Nat) : TRow2 T w B (.slice none 0 0) [] := World.ownsRow_nil w B _ 2
theorem TRow2.kept {T : TypeId} {w w' : World} {B : Nat} {v : Value} {ps : List Pr} {row : Option Nat} (h : TRow2 T w B v ps) (hg : w.grownBy w' row) (hr : ∀ j, row = some j → j < B) : TRow2 T w' B v ps :=
  World.ownsRow.kept h hg (by
    cases hb : v.ownBlock with
    | none => exact .inl rfl
    | some k => exact .inr fun e => by have := hr k e.symm; have := (World.ownsRow.lt h k hb).1; omega)
theorem TRow2.below {T : TypeId} {w w' : World} {B C : Nat} {v : Value} {ps : List Pr} (h : TRow2 T w B v ps) (hb : Below C w w') (hC : w.heap.size ≤ C) : TRow2 T w' B v ps :=
  World.ownsRow.kept h (row := none) ⟨hb.os, hb.tape, hb.output, hb.size, fun k hk _ => hb.block k (by omega)⟩ (by cases v.ownBlock <;> simp)
theorem TRow2.alloc {T : TypeId} {w : World} {B : Nat} {v : Value} {ps : List Pr} (h : TRow2 T w B v ps) (o : Obj) : TRow2 T (w.alloc o) B v ps := World.ownsRow.alloc h o
theorem TRow2.drewN {T : TypeId} {w : World} {B : Nat} {v : Value} {ps : List Pr} (h : TRow2 T w B v ps) (n : Nat) : TRow2 T (w.drewN n) B v ps := h
theorem TRow2.lower {T : TypeId} {w : World} {B C : Nat} {v : Value} {ps : List Pr} (h : TRow2 T w B v ps) (hC : C ≤ B) : TRow2 T w C v ps := by
  obtain ⟨h1, h2⟩ := h
  refine ⟨h1, ?_⟩
  rcases h2 with h2 | ⟨g, cap, cur, e, hb, rest⟩
  · exact .inl h2
  · exact .inr ⟨g, cap, cur, e, Nat.le_trans hC hb, rest⟩
theorem TRow2.form {T : TypeId} {w : World} {B : Nat} {v : Value} {ps : List Pr} (h : TRow2 T w B v ps) (hl : 0 < ps.length) :
    ∃ b cap, v = .slice (some ⟨b, 0, none⟩) ps.length cap ∧ B ≤ b ∧ b < w.heap.size ∧ (ps.length ≤ cap ∧ cap ≤ maxLen) ∧
      (∀ i, i < ps.length → w.cell? ⟨b, i * 2, none⟩ = some (.int .i64 (ps.getD i pr0).1) ∧ w.cell? ⟨b, i * 2 + 1, none⟩ = some (.int .i64 (ps.getD i pr0).2)) ∧ (∀ i, w.frozen? ⟨b, i, none⟩ = false) := by
  have h0 := h
  rcases h.2 with ⟨_, h3⟩ | ⟨b, cap, cur, rfl, hb, hblk, hc1, hc2, _⟩
  · omega
  · refine ⟨b, cap, rfl, hb, ?_, ⟨hc1, hc2⟩, fun i hi => ?_, fun i => World.ownsRow.frozenAt h0 i⟩
    · exact (World.ownsRow.lt h0 b rfl).2
    · have key : ∀ j, j < 2 → w.cell? ⟨b, i * 2 + j, none⟩ = (ac2 (ps.getD i pr0))[j]? := fun j hj => by
        rw [World.ownsRow.cellAt h0 (i * 2 + j) (by omega), Nat.mul_comm i 2, flat_at 2 ac2 ac2_len pr0 ps i j hi hj]
      exact ⟨key 0 (by omega), key 1 (by omega)⟩
theorem TRow2.r2 {T : TypeId} {w : World} {B : Nat} {v : Value} {ps : List Pr} (h : TRow2 T w B v ps) : R2 w v ps := by
  refine ⟨?_, fun hl => ?_⟩
  · rcases h.2 with ⟨rfl, h3⟩ | ⟨b, cap, cur, rfl, _⟩
    · exact ⟨none, 0, by rw [h3]⟩
    · exact ⟨_, _, rfl⟩
  · obtain ⟨b, cap, e, _, hlt, _, hc, _⟩ := h.form hl
    exact ⟨b, cap, e, hlt, hc⟩
/-- An element's cells stored anew. -/
theorem pflat_set : ∀ (ps : List Pr) (i : Nat) (x y : Int), i < ps.length → (((ps.flatMap ac2).set (i * 2) (.int .i64 x)).set (i * 2 + 1) (.int .i64 y)) = (ps.set i (x, y)).flatMap ac2
  | [], i, x, y, h => by simp at h
  | p :: ps, 0, x, y, _ => by simp [ac2]
  | p :: ps, i + 1, x, y, h => by
    have ih := pflat_set ps i x y (by simpa using h)
    rw [List.flatMap_cons]
    show (((Value.int .i64 p.1 :: .int .i64 p.2 :: ps.flatMap ac2).set ((i + 1) * 2) (.int .i64 x)).set ((i + 1) * 2 + 1) (.int .i64 y)) = _
    rw [show (i + 1) * 2 = i * 2 + 1 + 1 by omega, show i * 2 + 1 + 1 + 1 = (i * 2 + 1) + 1 + 1 by omega]
    simp only [List.set_cons_succ]
    rw [ih]
    simp [ac2]
theorem TRow2.store {T : TypeId} {w : World} {B b cap : Nat} {ps : List Pr} (h : TRow2 T w B (.slice (some ⟨b, 0, none⟩) ps.length cap) ps) (i : Nat) (hi : i < ps.length) (x y : Int) :
    TRow2 T ((w.setCell ⟨b, i * 2, none⟩ (.int .i64 x)).setCell ⟨b, i * 2 + 1, none⟩ (.int .i64 y)) B (.slice (some ⟨b, 0, none⟩) (ps.set i (x, y)).length cap) (ps.set i (x, y)) ∧
    w.grownBy ((w.setCell ⟨b, i * 2, none⟩ (.int .i64 x)).setCell ⟨b, i * 2 + 1, none⟩ (.int .i64 y)) (some b) := by
  have h1 := World.ownsRow.stored h (i * 2) (.int .i64 x)
  have h2 := World.ownsRow.stored h1.1 (i * 2 + 1) (.int .i64 y)
  have e := pflat_set ps i x y hi
  refine ⟨?_, h1.2.trans h2.2⟩
  unfold TRow2
  rw [← e, List.length_set]
  exact h2.1
theorem made_prs (n : Nat) : (madeCells (Value.agg #[.int .i64 0, .int .i64 0]).cells (n * 2)).toList = (List.replicate n pr0).flatMap ac2 := by
  show (madeCells #[.int .i64 0, .int .i64 0] (n * 2)).toList = _
  have e : (List.replicate n pr0).flatMap ac2 = List.replicate (n * 2) (Value.int .i64 0) := by
    induction n with
    | zero => rfl
    | succ n ih => rw [List.replicate_succ, List.flatMap_cons, ih, Nat.add_mul]; simp [ac2, List.replicate_succ]
  rw [e]
  refine List.ext_getElem (by simp [madeCells]) fun i h1 h2 => ?_
  have h3 : i < n * 2 := by simpa using h2
  have : i % 2 = 0 ∨ i % 2 = 1 := by omega
  rcases this with c | c <;> simp [madeCells, c]
theorem copy_pr {ps : List Pr} {k : Nat} (hk : k < ps.length) : (ps.take k ++ List.replicate (ps.length - k) pr0).set k (ps.getD k pr0) = ps.take (k + 1) ++ List.replicate (ps.length - (k + 1)) pr0 := by
  obtain ⟨m, hm⟩ : ∃ m, ps.length - k = m + 1 := ⟨ps.length - k - 1, by omega⟩
  have hs : ps.take (k + 1) = ps.take k ++ [ps.getD k pr0] := by
    rw [List.take_add_one, List.getD_eq_getElem?_getD, List.getElem?_eq_getElem hk]; rfl
  rw [hm, show ps.length - (k + 1) = m by omega, List.replicate_succ, hs, List.set_append_right _ _ (by simp; omega)]
  simp [Nat.min_eq_left (Nat.le_of_lt hk)]
end Go.Proofs.YtkdooncfchmkfaaDoor
