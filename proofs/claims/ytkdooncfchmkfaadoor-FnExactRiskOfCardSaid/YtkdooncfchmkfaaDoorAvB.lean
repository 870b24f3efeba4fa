/- What lists rest on: all of their elements, rows of numbers and of pairs. -/
import Derived.Test.YtkdooncfchmkfaaDoorPs
namespace Go.Proofs.YtkdooncfchmkfaaDoor
open Go.RowKit
theorem allB_take {α : Type} (ok : α → Bool) (z : α) {ps : List α} {i : Nat} (h : ∀ j, j < i → ok (ps.getD j z) = true) (hlast : i = ps.length) : ps.all ok = true := by
  rw [List.all_eq_true]
  intro p hp
  obtain ⟨j, hj, rfl⟩ := List.mem_iff_getElem.1 hp
  have := h j (by omega)
  rwa [List.getD_eq_getElem?_getD, List.getElem?_eq_getElem hj, Option.getD_some] at this
theorem allB_bad {α : Type} (ok : α → Bool) (z : α) {ps : List α} {i : Nat} (hi : i < ps.length) (h : ok (ps.getD i z) = false) : ps.all ok = false := by
  cases e : ps.all ok with
  | false => rfl
  | true =>
    have := List.all_eq_true.1 e (ps.getD i z) (by rw [List.getD_eq_getElem?_getD, List.getElem?_eq_getElem hi, Option.getD_some]; exact List.getElem_mem hi)
    rw [this] at h; cases h
theorem allB_at {α : Type} {ok : α → Bool} (z : α) {ps : List α} {i : Nat} (h : ps.all ok = true) (hi : i < ps.length) : ok (ps.getD i z) = true :=
  List.all_eq_true.1 h (ps.getD i z) (by rw [List.getD_eq_getElem?_getD, List.getElem?_eq_getElem hi, Option.getD_some]; exact List.getElem_mem hi)
theorem Blk.one0 {w : World} {b : Nat} {t : TypeId} {x : Value} (h : Blk w b t #[x]) : w.cell? ⟨b, 0, none⟩ = some x := by
  unfold Blk at h
  simp [World.cell?, h]
/-- A slice of numbers that can be read. -/
def R1o (w : World) (v : Value) (ps : List Int) : Prop := (∃ a c, v = .slice a ps.length c) ∧ (0 < ps.length → ∃ b off c, v = .slice (some ⟨b, off, none⟩) ps.length c ∧ b < w.heap.size ∧ ∀ i, i < ps.length → w.cell? ⟨b, off + i, none⟩ = some (.int .i64 (ps.getD i 0)))
theorem R1o.below {w w' : World} {v : Value} {ps : List Int} {B : Nat} (h : R1o w v ps) (hb : Below B w w') (hB : w.heap.size ≤ B) : R1o w' v ps := by
  refine ⟨h.1, fun hl => ?_⟩
  obtain ⟨b, off, c, e, hlt, hc⟩ := h.2 hl
  exact ⟨b, off, c, e, Nat.lt_of_lt_of_le hlt hb.size, fun i hi => (hb.cell (p := ⟨b, off + i, none⟩) (by show b < B; omega)).trans (hc i hi)⟩
abbrev Flo' := Int × Int
abbrev floV (p : Int × Int) : Value := .agg #[.int .i64 p.1, .int .i64 p.2]
/-- A slice of pairs that can be read. -/
def R2o (w : World) (v : Value) (ps : List (Int × Int)) : Prop := (∃ a c, v = .slice a ps.length c) ∧ (0 < ps.length → ∃ b off c, v = .slice (some ⟨b, off, none⟩) ps.length c ∧ b < w.heap.size ∧ ∀ i, i < ps.length → w.cell? ⟨b, off + i * 2, none⟩ = some (.int .i64 (ps.getD i (0, 0)).1) ∧ w.cell? ⟨b, off + i * 2 + 1, none⟩ = some (.int .i64 (ps.getD i (0, 0)).2))
theorem R2o.below {w w' : World} {v : Value} {ps : List (Int × Int)} {B : Nat} (h : R2o w v ps) (hb : Below B w w') (hB : w.heap.size ≤ B) : R2o w' v ps := by
  refine ⟨h.1, fun hl => ?_⟩
  obtain ⟨b, off, c, e, hlt, hc⟩ := h.2 hl
  refine ⟨b, off, c, e, Nat.lt_of_lt_of_le hlt hb.size, fun i hi => ?_⟩
  obtain ⟨c0, c1⟩ := hc i hi
  exact ⟨(hb.cell (p := ⟨b, off + i * 2, none⟩) (by show b < B; omega)).trans c0, (hb.cell (p := ⟨b, off + i * 2 + 1, none⟩) (by show b < B; omega)).trans c1⟩
end Go.Proofs.YtkdooncfchmkfaaDoor
