/- Rows of numbers: read, compared, summed up, copied, marked. -/
import Derived.Test.YtkbojibgbmbmdaaAvB
import Derived.Test.YtkbojibgbmbmdaaOwn
import Derived.Test.YtkbojibgbmbmdaaKp
import Derived.StillTailTactics
namespace Go.Proofs.Ytkbojibgbmbmdaa
open Go.RowKit
/-- A slice of numbers in memory of the call's own; nil where there is none. -/
def IRow (w : World) (B : Nat) (v : Value) (xs : List Int) : Prop := w.ownsRow B 3 1 v xs.length (xs.map (Value.int .i64))
theorem Own.irow {w : World} {B : Nat} {v : Value} {xs : List Int} (h : Own w B v xs) : IRow w B v xs := h.1
theorem IRow.nil (w : World) (B : Nat) : IRow w B (.slice none 0 0) [] := World.ownsRow_nil w B _ 1
theorem IRow.kept {w w' : World} {B : Nat} {v : Value} {xs : List Int} {row : Option Nat} (h : IRow w B v xs) (hg : w.grownBy w' row) (hr : ∀ j, row = some j → j < B) : IRow w' B v xs :=
  World.ownsRow.kept h hg (by
    cases hb : v.ownBlock with
    | none => exact .inl rfl
    | some k => exact .inr fun e => by have := hr k e.symm; have := (World.ownsRow.lt h k hb).1; omega)
theorem IRow.keptBy {w w' : World} {B : Nat} {v : Value} {xs : List Int} {b : Nat} (h : IRow w B v xs) (hg : w.grownBy w' (some b)) (hr : ∀ j, v.ownBlock = some j → j ≠ b) : IRow w' B v xs :=
  World.ownsRow.kept h hg (by
    cases hb : v.ownBlock with
    | none => exact .inl rfl
    | some k => exact .inr fun e => by injection e with e; exact hr k hb e)
theorem IRow.below {w w' : World} {B C : Nat} {v : Value} {xs : List Int} (h : IRow w B v xs) (hb : Below C w w') (hC : w.heap.size ≤ C) : IRow w' B v xs :=
  World.ownsRow.kept h (row := none) ⟨hb.os, hb.tape, hb.output, hb.size, fun k hk _ => hb.block k (by omega)⟩ (by cases v.ownBlock <;> simp)
theorem IRow.alloc {w : World} {B : Nat} {v : Value} {xs : List Int} (h : IRow w B v xs) (o : Obj) : IRow (w.alloc o) B v xs := World.ownsRow.alloc h o
theorem IRow.drewN {w : World} {B : Nat} {v : Value} {xs : List Int} (h : IRow w B v xs) (n : Nat) : IRow (w.drewN n) B v xs := h
theorem IRow.lower {w : World} {B C : Nat} {v : Value} {xs : List Int} (h : IRow w B v xs) (hC : C ≤ B) : IRow w C v xs := by
  obtain ⟨h1, h2⟩ := h
  refine ⟨h1, ?_⟩
  rcases h2 with h2 | ⟨g, cap, cur, e, hb, rest⟩
  · exact .inl h2
  · exact .inr ⟨g, cap, cur, e, Nat.le_trans hC hb, rest⟩
theorem IRow.form {w : World} {B : Nat} {v : Value} {xs : List Int} (h : IRow w B v xs) (hl : 0 < xs.length) :
    ∃ b cap, v = .slice (some ⟨b, 0, none⟩) xs.length cap ∧ B ≤ b ∧ b < w.heap.size ∧ (xs.length ≤ cap ∧ cap ≤ maxLen) ∧
      (∀ i, i < xs.length → w.cell? ⟨b, i, none⟩ = some (.int .i64 (xs.getD i 0))) ∧ (∀ i, w.frozen? ⟨b, i, none⟩ = false) := by
  have h0 := h
  rcases h.2 with ⟨_, h3⟩ | ⟨b, cap, cur, rfl, hb, hblk, hc1, hc2, _⟩
  · omega
  · refine ⟨b, cap, rfl, hb, (World.ownsRow.lt h0 b rfl).2, ⟨hc1, hc2⟩, fun i hi => ?_, fun i => World.ownsRow.frozenAt h0 i⟩
    rw [World.ownsRow.cellAt h0 i (by omega), List.getElem?_map, List.getElem?_eq_getElem hi, List.getD_eq_getElem?_getD, List.getElem?_eq_getElem hi]
    rfl
theorem IRow.slice {w : World} {B : Nat} {v : Value} {xs : List Int} (h : IRow w B v xs) : ∃ a c, v = .slice a xs.length c := by
  rcases h.2 with ⟨rfl, h3⟩ | ⟨b, cap, cur, rfl, _⟩
  · exact ⟨none, 0, by rw [h3]⟩
  · exact ⟨_, _, rfl⟩
theorem IRow.r1 {w : World} {B : Nat} {v : Value} {xs : List Int} (h : IRow w B v xs) : R1o w v xs := by
  refine ⟨h.slice, fun hl => ?_⟩
  obtain ⟨b, cap, e, _, hlt, _, hc, _⟩ := h.form hl
  exact ⟨b, 0, cap, e, hlt, fun i hi => by simpa using hc i hi⟩
theorem IRow.store {w : World} {B b cap : Nat} {xs : List Int} (h : IRow w B (.slice (some ⟨b, 0, none⟩) xs.length cap) xs) (i : Nat) (x : Int) :
    IRow (w.setCell ⟨b, i, none⟩ (.int .i64 x)) B (.slice (some ⟨b, 0, none⟩) (xs.set i x).length cap) (xs.set i x) ∧ w.grownBy (w.setCell ⟨b, i, none⟩ (.int .i64 x)) (some b) := by
  have h1 := World.ownsRow.stored h i (.int .i64 x)
  refine ⟨?_, h1.2⟩
  unfold IRow
  rw [List.map_set, List.length_set]
  exact h1.1
theorem R1o.drewN {w : World} {v : Value} {xs : List Int} (h : R1o w v xs) (n : Nat) : R1o (w.drewN n) v xs := h
theorem belowD {B : Nat} {a w : World} (h : Below B a w) (n : Nat) : Below B a (w.drewN n) := ⟨h.os, h.tape, h.output, h.size, h.block⟩
/-- A slice of numbers from outside. -/
theorem r1_of_row {w : World} {a : Option Addr} {len cap : Nat} {zs : List Int} (h : IsRow .i64 w a len cap zs) : (zs.take len).length = len ∧ R1o w (.slice a len cap) (zs.take len) := by
  rcases h with ⟨rfl, rfl, rfl, rfl⟩ | ⟨x, rfl, h1, h2, h3, h4, h5⟩
  · exact ⟨rfl, ⟨_, _, rfl⟩, fun hl => by simp at hl⟩
  · have hlen : (zs.take len).length = len := by simp; omega
    refine ⟨hlen, ⟨_, _, by rw [hlen]⟩, fun hl => ?_⟩
    have hc := h4 0 (by omega)
    obtain ⟨b, off, spot⟩ := x
    have hspot : spot = none := by simpa [Addr.add] using World.cell?_spot hc
    subst hspot
    have hb : b < w.heap.size := by
      rcases Nat.lt_or_ge b w.heap.size with hlt | hge
      · exact hlt
      · simp [World.cell?, Addr.add, Array.getElem?_eq_none hge] at hc
    refine ⟨b, off, cap, by rw [hlen], hb, fun i hi => ?_⟩
    have hi' := h4 i (by omega)
    have e : (Addr.add ⟨b, off, none⟩ i : Addr) = ⟨b, off + i, none⟩ := by unfold Addr.add; split <;> simp_all
    rw [e] at hi'
    rw [hi']
    simp [List.getD_eq_getElem?_getD, show i < len by omega]
theorem made_ints1 (n : Nat) : (madeCells (Value.int .i64 0).cells (n * 1)).toList = (List.replicate n (0 : Int)).map (Value.int .i64) := by
  rw [Nat.mul_one]
  show (madeCells #[.int .i64 0] n).toList = _
  rw [toList_madeCells_one]; simp
theorem take_snoc1 {xs : List Int} {k : Nat} (hk : k < xs.length) : xs.take (k + 1) = xs.take k ++ [xs.getD k 0] := by
  rw [List.take_add_one, List.getD_eq_getElem?_getD, List.getElem?_eq_getElem hk]; rfl
theorem copy_int {xs : List Int} {k : Nat} (hk : k < xs.length) : (xs.take k ++ List.replicate (xs.length - k) 0).set k (xs.getD k 0) = xs.take (k + 1) ++ List.replicate (xs.length - (k + 1)) 0 := by
  obtain ⟨m, hm⟩ : ∃ m, xs.length - k = m + 1 := ⟨xs.length - k - 1, by omega⟩
  rw [hm, show xs.length - (k + 1) = m by omega, List.replicate_succ, take_snoc1 hk, List.set_append_right _ _ (by simp; omega)]
  simp [Nat.min_eq_left (Nat.le_of_lt hk)]
/-- A row of numbers that a call hands back. -/
def HandsI (xs : List Int) (w : World) (e : Ending) (w' : World) : Prop := ∃ v, e = .returned v ∧ IRow w' w.heap.size v xs ∧ Below w.heap.size w w'
end Go.Proofs.Ytkbojibgbmbmdaa
