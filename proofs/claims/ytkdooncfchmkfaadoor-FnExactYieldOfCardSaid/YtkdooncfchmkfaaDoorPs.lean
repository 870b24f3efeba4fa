/- Rows of postings, and which are valid, on both sides. -/
import Derived.Test.YtkdooncfchmkfaaDoorBtw
import Derived.Test.YtkdooncfchmkfaaDoorDrawB
import Derived.Test.YtkdooncfchmkfaaDoorChecked
import Derived.Outline
namespace Go.Proofs.YtkdooncfchmkfaaDoor
open Go.RowKit
/-- Three numbers. -/
abbrev Tri := Int × Int × Int
abbrev t0 : Tri := (0, 0, 0)
abbrev triV (p : Tri) : Value := .agg #[.int .i64 p.1, .int .i64 p.2.1, .int .i64 p.2.2]
/-- A slice of triples that can be read. -/
def R3 (w : World) (v : Value) (ps : List Tri) : Prop := (∃ a c, v = .slice a ps.length c) ∧ (0 < ps.length → ∃ b c, v = .slice (some ⟨b, 0, none⟩) ps.length c ∧ b < w.heap.size ∧ ∀ i, i < ps.length → w.cell? ⟨b, i * 3, none⟩ = some (.int .i64 (ps.getD i t0).1) ∧ w.cell? ⟨b, i * 3 + 1, none⟩ = some (.int .i64 (ps.getD i t0).2.1) ∧ w.cell? ⟨b, i * 3 + 2, none⟩ = some (.int .i64 (ps.getD i t0).2.2))
theorem R3.below {w w' : World} {v : Value} {ps : List Tri} {B : Nat} (h : R3 w v ps) (hb : Below B w w') (hB : w.heap.size ≤ B) : R3 w' v ps := by
  refine ⟨h.1, fun hl => ?_⟩
  obtain ⟨b, c, e, hlt, hc⟩ := h.2 hl
  refine ⟨b, c, e, Nat.lt_of_lt_of_le hlt hb.size, fun i hi => ?_⟩
  obtain ⟨c0, c1, c2⟩ := hc i hi
  exact ⟨(hb.cell (p := ⟨b, i * 3, none⟩) (by show b < B; omega)).trans c0, (hb.cell (p := ⟨b, i * 3 + 1, none⟩) (by show b < B; omega)).trans c1, (hb.cell (p := ⟨b, i * 3 + 2, none⟩) (by show b < B; omega)).trans c2⟩
/-- A slice of triples from outside: it may begin anywhere. -/
def R3o (w : World) (v : Value) (ps : List Tri) : Prop := (∃ a c, v = .slice a ps.length c) ∧ (0 < ps.length → ∃ b off c, v = .slice (some ⟨b, off, none⟩) ps.length c ∧ b < w.heap.size ∧ ∀ i, i < ps.length → w.cell? ⟨b, off + i * 3, none⟩ = some (.int .i64 (ps.getD i t0).1) ∧ w.cell? ⟨b, off + i * 3 + 1, none⟩ = some (.int .i64 (ps.getD i t0).2.1) ∧ w.cell? ⟨b, off + i * 3 + 2, none⟩ = some (.int .i64 (ps.getD i t0).2.2))
theorem R3o.below {w w' : World} {v : Value} {ps : List Tri} {B : Nat} (h : R3o w v ps) (hb : Below B w w') (hB : w.heap.size ≤ B) : R3o w' v ps := by
  refine ⟨h.1, fun hl => ?_⟩
  obtain ⟨b, off, c, e, hlt, hc⟩ := h.2 hl
  refine ⟨b, off, c, e, Nat.lt_of_lt_of_le hlt hb.size, fun i hi => ?_⟩
  obtain ⟨c0, c1, c2⟩ := hc i hi
  exact ⟨(hb.cell (p := ⟨b, off + i * 3, none⟩) (by show b < B; omega)).trans c0, (hb.cell (p := ⟨b, off + i * 3 + 1, none⟩) (by show b < B; omega)).trans c1, (hb.cell (p := ⟨b, off + i * 3 + 2, none⟩) (by show b < B; omega)).trans c2⟩
theorem R3.o {w : World} {v : Value} {ps : List Tri} (h : R3 w v ps) : R3o w v ps := by
  refine ⟨h.1, fun hl => ?_⟩
  obtain ⟨b, c, e, hlt, hc⟩ := h.2 hl
  exact ⟨b, 0, c, e, hlt, fun i hi => by simpa using hc i hi⟩
/-- A valid posting. -/
def Ps.one (p : Tri) : Bool := btw p.1 0 5 && (btw p.2.1 0 5 && (p.1 != p.2.1 && btw p.2.2 1 1000000000))
def Ps.ok (ps : List Tri) : Bool := decide (ps.length ≤ 40) && ps.all Ps.one
/-- Whether one of the first ones is invalid. -/
theorem all_take {ps : List Tri} {i : Nat} (h : ∀ j, j < i → Ps.one (ps.getD j t0) = true) (hlast : i = ps.length) : ps.all Ps.one = true := by
  rw [List.all_eq_true]
  intro p hp
  obtain ⟨j, hj, rfl⟩ := List.mem_iff_getElem.1 hp
  have := h j (by omega)
  rwa [List.getD_eq_getElem?_getD, List.getElem?_eq_getElem hj, Option.getD_some] at this
theorem all_bad {ps : List Tri} {i : Nat} (hi : i < ps.length) (h : Ps.one (ps.getD i t0) = false) : ps.all Ps.one = false := by
  cases e : ps.all Ps.one with
  | false => rfl
  | true =>
    have := List.all_eq_true.1 e (ps.getD i t0) (by rw [List.getD_eq_getElem?_getD, List.getElem?_eq_getElem hi, Option.getD_some]; exact List.getElem_mem hi)
    rw [this] at h; cases h
theorem quietP {P : Program} {f : FuncId} {args : Array Value} {w : World} {n : Nat} {v : Value}
    (h : Calls P f args (w.drewN n) fun e w' => e = .returned v ∧ w.drewN n = w') : Calls P f args (w.drewN n) fun e w'' => e = .returned v ∧ ∃ m, w'' = w.drewN m :=
  h.mono fun _ _ ⟨he, hm⟩ => ⟨he, n, hm.symm⟩
theorem belowN {B : Nat} {a w : World} (h : Below B a w) (n : Nat) : Below B a (w.drewN n) := ⟨h.os, h.tape, h.output, h.size, h.block⟩
theorem inRC {n l h : Int} {b : Bool} (e : btw n l h = b) : ∀ W : World, Calls Tryd.prog 31 #[.int .i64 n, .int .i64 l, .int .i64 h] W fun e w' => e = .returned (.bool b) ∧ W = w' := fun W => by
  have := inRange_any n l h W; rw [e] at this; exact this
end Go.Proofs.YtkdooncfchmkfaaDoor
