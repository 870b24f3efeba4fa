/- Rows of periods that can be read. -/
import Derived.Test.YtkdooncfchmkfaaDoorZC
namespace Go.Proofs.YtkdooncfchmkfaaDoor
open Go.RowKit
/-- A slice whose elements can be read: nil where it has none. -/
def Rd (w : World) (v : Value) (ps : List Per) : Prop := (∃ a c, v = .slice a ps.length c) ∧ (0 < ps.length → ∃ b c, v = .slice (some ⟨b, 0, none⟩) ps.length c ∧ b < w.heap.size ∧ ∀ i, i < ps.length → w.cell? ⟨b, i * 3, none⟩ = some (.int .i64 (ps.getD i p0).1) ∧ w.cell? ⟨b, i * 3 + 1, none⟩ = some (.int .i64 (ps.getD i p0).2.1) ∧ w.cell? ⟨b, i * 3 + 2, none⟩ = some (.bool (ps.getD i p0).2.2))
theorem PRow.rd {w : World} {B : Nat} {v : Value} {ps : List Per} (h : PRow w B v ps) : Rd w v ps := by
  refine ⟨?_, fun hl => ?_⟩
  · rcases h.2 with ⟨rfl, h3⟩ | ⟨b, cap, cur, rfl, _⟩
    · exact ⟨none, 0, by rw [h3]⟩
    · exact ⟨_, _, rfl⟩
  · obtain ⟨b, cap, e, _, hlt, _, hc, _⟩ := h.form hl
    exact ⟨b, cap, e, hlt, hc⟩
theorem Rd.below {w w' : World} {v : Value} {ps : List Per} {B : Nat} (h : Rd w v ps) (hb : Below B w w') (hB : w.heap.size ≤ B) : Rd w' v ps := by
  refine ⟨h.1, fun hl => ?_⟩
  obtain ⟨b, c, e, hlt, hc⟩ := h.2 hl
  refine ⟨b, c, e, Nat.lt_of_lt_of_le hlt hb.size, fun i hi => ?_⟩
  obtain ⟨c0, c1, c2⟩ := hc i hi
  exact ⟨(hb.cell (p := ⟨b, i * 3, none⟩) (by show b < B; omega)).trans c0, (hb.cell (p := ⟨b, i * 3 + 1, none⟩) (by show b < B; omega)).trans c1, (hb.cell (p := ⟨b, i * 3 + 2, none⟩) (by show b < B; omega)).trans c2⟩
end Go.Proofs.YtkdooncfchmkfaaDoor
