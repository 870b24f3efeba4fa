/- Rows of flows that a call has made, and what can be read of them. -/
import Derived.Test.YtcckopnpmcbbcaaDoorRow
import Derived.Test.YtcckopnpmcbbcaaDoorCpnS
namespace Go.Proofs.YtcckopnpmcbbcaaDoor
open Go.RowKit
abbrev Flo := Int × Int
def fc (p : Flo) : List Value := [.int .i64 p.1, .int .i64 p.2]
theorem fc_len (p : Flo) : (fc p).length = 2 := rfl
theorem fc_one (p : Flo) : ∀ u ∈ fc p, u.oneCell' = true := by intro u hu; simp [fc] at hu; rcases hu with rfl | rfl <;> rfl
def f0 : Flo := (0, 0)
/-- A slice of flows in memory of the call's own; nil where there is none. -/
def FRow (w : World) (B : Nat) (v : Value) (fs : List Flo) : Prop := w.ownsRow B 34 2 v fs.length (fs.flatMap fc)
theorem FRow.nil (w : World) (B : Nat) : FRow w B (.slice none 0 0) [] := World.ownsRow_nil w B _ 2
theorem FRow.kept {w w' : World} {B : Nat} {v : Value} {fs : List Flo} {row : Option Nat} (h : FRow w B v fs) (hg : w.grownBy w' row) (hr : ∀ j, row = some j → j < B) : FRow w' B v fs :=
  World.ownsRow.kept h hg (by
    cases hb : v.ownBlock with
    | none => exact .inl rfl
    | some k => exact .inr fun e => by have := hr k e.symm; have := (World.ownsRow.lt h k hb).1; omega)
theorem FRow.below {w w' : World} {B C : Nat} {v : Value} {fs : List Flo} (h : FRow w B v fs) (hb : Below C w w') (hC : w.heap.size ≤ C) : FRow w' B v fs :=
  World.ownsRow.kept h (row := none) ⟨hb.os, hb.tape, hb.output, hb.size, fun k hk _ => hb.block k (by omega)⟩ (by cases v.ownBlock <;> simp)
theorem FRow.alloc {w : World} {B : Nat} {v : Value} {fs : List Flo} (h : FRow w B v fs) (o : Obj) : FRow (w.alloc o) B v fs := World.ownsRow.alloc h o
theorem FRow.drewN {w : World} {B : Nat} {v : Value} {fs : List Flo} (h : FRow w B v fs) (n : Nat) : FRow (w.drewN n) B v fs := h
theorem FRow.lower {w : World} {B C : Nat} {v : Value} {fs : List Flo} (h : FRow w B v fs) (hC : C ≤ B) : FRow w C v fs := by
  obtain ⟨h1, h2⟩ := h
  refine ⟨h1, ?_⟩
  rcases h2 with h2 | ⟨g, cap, cur, e, hb, rest⟩
  · exact .inl h2
  · exact .inr ⟨g, cap, cur, e, Nat.le_trans hC hb, rest⟩
/-- What can be read of it. -/
theorem FRow.form {w : World} {B : Nat} {v : Value} {fs : List Flo} (h : FRow w B v fs) (hl : 0 < fs.length) :
    ∃ b cap, v = .slice (some ⟨b, 0, none⟩) fs.length cap ∧ B ≤ b ∧ b < w.heap.size ∧ (fs.length ≤ cap ∧ cap ≤ maxLen) ∧
      (∀ i, i < fs.length → w.cell? ⟨b, i * 2, none⟩ = some (.int .i64 (fs.getD i f0).1) ∧ w.cell? ⟨b, i * 2 + 1, none⟩ = some (.int .i64 (fs.getD i f0).2)) ∧ (∀ i, w.frozen? ⟨b, i, none⟩ = false) := by
  have h0 := h
  rcases h.2 with ⟨_, h3⟩ | ⟨b, cap, cur, rfl, hb, hblk, hc1, hc2, _⟩
  · omega
  · refine ⟨b, cap, rfl, hb, ?_, ⟨hc1, hc2⟩, fun i hi => ?_, fun i => World.ownsRow.frozenAt h0 i⟩
    · exact (World.ownsRow.lt h0 b rfl).2
    · have key : ∀ j, j < 2 → w.cell? ⟨b, i * 2 + j, none⟩ = (fc (fs.getD i f0))[j]? := fun j hj => by
        rw [World.ownsRow.cellAt h0 (i * 2 + j) (by omega), Nat.mul_comm i 2, flat_at 2 fc fc_len f0 fs i j hi hj]
      exact ⟨key 0 (by omega), key 1 (by omega)⟩
/-- An element's cells stored anew. -/
theorem fflat_set : ∀ (fs : List Flo) (i : Nat) (x y : Int), (((fs.flatMap fc).set (i * 2) (.int .i64 x)).set (i * 2 + 1) (.int .i64 y)) = if i < fs.length then (fs.set i (x, y)).flatMap fc else fs.flatMap fc
  | [], i, x, y => by simp
  | p :: fs, 0, x, y => by simp [fc]
  | p :: fs, i + 1, x, y => by
    have ih := fflat_set fs i x y
    rw [List.flatMap_cons]
    show (((Value.int .i64 p.1 :: .int .i64 p.2 :: fs.flatMap fc).set ((i + 1) * 2) (.int .i64 x)).set ((i + 1) * 2 + 1) (.int .i64 y)) = _
    rw [show (i + 1) * 2 = i * 2 + 1 + 1 by omega, show i * 2 + 1 + 1 + 1 = (i * 2 + 1) + 1 + 1 by omega]
    simp only [List.set_cons_succ]
    rw [ih]
    by_cases c : i < fs.length
    · rw [if_pos c, if_pos (by simpa using c)]; simp [fc]
    · rw [if_neg c, if_neg (by simpa using c)]; simp [fc]
theorem FRow.store {w : World} {B b cap : Nat} {fs : List Flo} (h : FRow w B (.slice (some ⟨b, 0, none⟩) fs.length cap) fs) (i : Nat) (hi : i < fs.length) (x y : Int) :
    FRow ((w.setCell ⟨b, i * 2, none⟩ (.int .i64 x)).setCell ⟨b, i * 2 + 1, none⟩ (.int .i64 y)) B (.slice (some ⟨b, 0, none⟩) (fs.set i (x, y)).length cap) (fs.set i (x, y)) ∧
    w.grownBy ((w.setCell ⟨b, i * 2, none⟩ (.int .i64 x)).setCell ⟨b, i * 2 + 1, none⟩ (.int .i64 y)) (some b) := by
  have h1 := World.ownsRow.stored h (i * 2) (.int .i64 x)
  have h2 := World.ownsRow.stored h1.1 (i * 2 + 1) (.int .i64 y)
  have e := fflat_set fs i x y
  rw [if_pos hi] at e
  refine ⟨?_, h1.2.trans h2.2⟩
  unfold FRow
  rw [← e, List.length_set]
  exact h2.1
theorem fflat_set2 : ∀ (fs : List Flo) (i : Nat) (y : Int), (fs.flatMap fc).set (i * 2 + 1) (.int .i64 y) = if i < fs.length then (fs.set i ((fs.getD i f0).1, y)).flatMap fc else fs.flatMap fc
  | [], i, y => by simp
  | p :: fs, 0, y => by simp [fc]
  | p :: fs, i + 1, y => by
    have ih := fflat_set2 fs i y
    rw [List.flatMap_cons]
    show ((Value.int .i64 p.1 :: .int .i64 p.2 :: fs.flatMap fc).set ((i + 1) * 2 + 1) (.int .i64 y)) = _
    rw [show (i + 1) * 2 + 1 = (i * 2 + 1) + 1 + 1 by omega]
    simp only [List.set_cons_succ]
    rw [ih]
    by_cases c : i < fs.length
    · rw [if_pos c, if_pos (by simpa using c)]; simp [fc]
    · rw [if_neg c, if_neg (by simpa using c)]; simp [fc]
theorem FRow.store2 {w : World} {B b cap : Nat} {fs : List Flo} (h : FRow w B (.slice (some ⟨b, 0, none⟩) fs.length cap) fs) (i : Nat) (hi : i < fs.length) (y : Int) :
    FRow (w.setCell ⟨b, i * 2 + 1, none⟩ (.int .i64 y)) B (.slice (some ⟨b, 0, none⟩) fs.length cap) (fs.set i ((fs.getD i f0).1, y)) ∧
    w.grownBy (w.setCell ⟨b, i * 2 + 1, none⟩ (.int .i64 y)) (some b) := by
  have h1 := World.ownsRow.stored h (i * 2 + 1) (.int .i64 y)
  have e := fflat_set2 fs i y
  rw [if_pos hi] at e
  refine ⟨?_, h1.2⟩
  unfold FRow
  rw [← e, List.length_set]
  exact h1.1
theorem FRow.at_ {w : World} {B b n cap : Nat} {fs : List Flo} (h : FRow w B (.slice (some ⟨b, 0, none⟩) n cap) fs) (hn : fs.length = n) {i : Nat} (hi : i < n) :
    (w.cell? ⟨b, i * 2, none⟩ = some (.int .i64 (fs.getD i f0).1) ∧ w.cell? ⟨b, i * 2 + 1, none⟩ = some (.int .i64 (fs.getD i f0).2)) ∧ (w.frozen? ⟨b, i * 2, none⟩ = false ∧ w.frozen? ⟨b, i * 2 + 1, none⟩ = false) := by
  obtain ⟨b', cap', e', -, -, -, hc, hf⟩ := h.form (by omega)
  simp only [Value.slice.injEq, Option.some.injEq, Addr.mk.injEq, and_true] at e'
  obtain ⟨rfl, -, rfl⟩ := e'
  exact ⟨hc i (by omega), hf _, hf _⟩
theorem cpn_bd {m r f t : Int} (z : Bool) (m0 : 1 ≤ m) (m1 : m ≤ 12) (r0 : 0 ≤ r) (r1 : r ≤ 3000) (f0 : 0 ≤ f) (f1 : f < t) (t1 : t ≤ 36524) (hA : addV t (-m) < t) : 0 ≤ cpnV m r f t z ∧ cpnV m r f t z ≤ 120000000 := by
  obtain ⟨w0, w1⟩ := whole_bd m0 m1 r0 r1
  unfold cpnV
  split
  · omega
  · have h1 : fullF m f t < t := by unfold fullF; split <;> omega
    have hp := mul_bd (a := wholeV m r) (b := t - f) (A := 3000) (B := 36524) (by omega) (by omega) (by omega) (by omega)
    have hn : 0 ≤ wholeV m r * (t - f) := Int.mul_nonneg w0 (by omega)
    generalize wholeV m r * (t - f) = a at *
    obtain ⟨d, hd⟩ : ∃ d, d = t - fullF m f t := ⟨_, rfl⟩
    have hd1 : 1 ≤ d := by omega
    rw [← hd]
    unfold Rt.near
    refine ⟨Int.ediv_nonneg (by omega) (by omega), ?_⟩
    have h2 : (2 * a + d) / (2 * d) < 120000001 := Int.ediv_lt_of_lt_mul (by omega) (by omega)
    omega
theorem map_at {α β : Type} (g : α → β) (l : List α) (d : α) (d' : β) {i : Nat} (hi : i < l.length) : (l.map g).getD i d' = g (l.getD i d) := by
  rw [List.getD_eq_getElem?_getD, List.getD_eq_getElem?_getD, List.getElem?_map, List.getElem?_eq_getElem hi]; rfl
theorem set_at (fs : List Flo) (i t : Nat) (x : Flo) (hi : i < fs.length) : (fs.set i x).getD t f0 = if t = i then x else fs.getD t f0 := by
  rw [List.getD_eq_getElem?_getD, List.getElem?_set]
  by_cases c : i = t
  · subst c; rw [if_pos rfl, if_pos hi, if_pos rfl]; rfl
  · rw [if_neg c, if_neg (fun h => c h.symm), ← List.getD_eq_getElem?_getD]
abbrev S8 (B P : Nat) (s e m r f t : Int) (z : Bool) (w' : World) : Prop := w'.cell? ⟨B, 0, none⟩ = some (.int .i64 s) ∧ w'.cell? ⟨B, 1, none⟩ = some (.int .i64 e) ∧ w'.cell? ⟨B, 2, none⟩ = some (.int .i64 m) ∧ w'.cell? ⟨B, 3, none⟩ = some (.int .i64 r) ∧ w'.cell? ⟨P, 0, none⟩ = some (.int .i64 f) ∧ w'.cell? ⟨P, 1, none⟩ = some (.int .i64 t) ∧ w'.cell? ⟨P, 2, none⟩ = some (.bool z)
theorem keep8 {B P : Nat} {s e m r f t : Int} {z : Bool} {W W' : World} (h : S8 B P s e m r f t z W) (hb : Below W.heap.size W W') (hB : B < W.heap.size) (hP : P < W.heap.size) : S8 B P s e m r f t z W' :=
  ⟨(hb.cell (p := ⟨B, 0, none⟩) hB).trans h.1, (hb.cell (p := ⟨B, 1, none⟩) hB).trans h.2.1, (hb.cell (p := ⟨B, 2, none⟩) hB).trans h.2.2.1, (hb.cell (p := ⟨B, 3, none⟩) hB).trans h.2.2.2.1,
    (hb.cell (p := ⟨P, 0, none⟩) hP).trans h.2.2.2.2.1, (hb.cell (p := ⟨P, 1, none⟩) hP).trans h.2.2.2.2.2.1, (hb.cell (p := ⟨P, 2, none⟩) hP).trans h.2.2.2.2.2.2⟩
theorem keep8s {B P b : Nat} {s e m r f t : Int} {z : Bool} {W : World} (h : S8 B P s e m r f t z W) (i j : Nat) (x y : Value) (hB : b ≠ B) (hP : b ≠ P) : S8 B P s e m r f t z ((W.setCell ⟨b, i, none⟩ x).setCell ⟨b, j, none⟩ y) := by
  have k : ∀ (c k : Nat), b ≠ c → ((W.setCell ⟨b, i, none⟩ x).setCell ⟨b, j, none⟩ y).cell? ⟨c, k, none⟩ = W.cell? ⟨c, k, none⟩ := fun c k hc => by
    rw [World.cell?_setCell_other _ _ _ _ (by intro e; injection e; omega), World.cell?_setCell_other _ _ _ _ (by intro e; injection e; omega)]
  exact ⟨(k _ _ hB).trans h.1, (k _ _ hB).trans h.2.1, (k _ _ hB).trans h.2.2.1, (k _ _ hB).trans h.2.2.2.1, (k _ _ hP).trans h.2.2.2.2.1, (k _ _ hP).trans h.2.2.2.2.2.1, (k _ _ hP).trans h.2.2.2.2.2.2⟩
theorem list_same {fs gs : List Flo} (hl : fs.length = gs.length) (h : ∀ t, t < fs.length → fs.getD t f0 = gs.getD t f0) : fs = gs := by
  apply List.ext_getElem hl
  intro i h1 h2
  have := h i h1
  rwa [List.getD_eq_getElem?_getD, List.getD_eq_getElem?_getD, List.getElem?_eq_getElem h1, List.getElem?_eq_getElem h2] at this
/-- A slice of flows that can be read: nil where it has none. -/
def RdF (w : World) (v : Value) (fs : List Flo) : Prop := (∃ a c, v = .slice a fs.length c) ∧ (0 < fs.length → ∃ b c, v = .slice (some ⟨b, 0, none⟩) fs.length c ∧ b < w.heap.size ∧ ∀ i, i < fs.length → w.cell? ⟨b, i * 2, none⟩ = some (.int .i64 (fs.getD i f0).1) ∧ w.cell? ⟨b, i * 2 + 1, none⟩ = some (.int .i64 (fs.getD i f0).2))
theorem FRow.rd {w : World} {B : Nat} {v : Value} {fs : List Flo} (h : FRow w B v fs) : RdF w v fs := by
  refine ⟨?_, fun hl => ?_⟩
  · rcases h.2 with ⟨rfl, h3⟩ | ⟨b, cap, cur, rfl, _⟩
    · exact ⟨none, 0, by rw [h3]⟩
    · exact ⟨_, _, rfl⟩
  · obtain ⟨b, cap, e, _, hlt, _, hc, _⟩ := h.form hl
    exact ⟨b, cap, e, hlt, hc⟩
theorem RdF.below {w w' : World} {v : Value} {fs : List Flo} {B : Nat} (h : RdF w v fs) (hb : Below B w w') (hB : w.heap.size ≤ B) : RdF w' v fs := by
  refine ⟨h.1, fun hl => ?_⟩
  obtain ⟨b, c, e, hlt, hc⟩ := h.2 hl
  refine ⟨b, c, e, Nat.lt_of_lt_of_le hlt hb.size, fun i hi => ?_⟩
  obtain ⟨c0, c1⟩ := hc i hi
  exact ⟨(hb.cell (p := ⟨b, i * 2, none⟩) (by show b < B; omega)).trans c0, (hb.cell (p := ⟨b, i * 2 + 1, none⟩) (by show b < B; omega)).trans c1⟩
/-- The days of two neighbours. -/
theorem addV_less {t m : Int} (m0 : 1 ≤ m) (h0 : 0 ≤ t) (h1 : t ≤ 36524) : addV t (-m) < t := by
  have h := Sc.S_lt (e := t) (m := m) (j := 0) (k := 1) m0 (by omega) (by rw [Sc.S_zero h0 h1]; exact h0) (by omega)
  rw [Sc.S_zero h0 h1] at h
  unfold Sc.S at h
  simpa using h
/-- What a bond pays, the face not counted. -/
noncomputable def cpnL (s e m r : Int) : List Flo := (perL s e m r).map fun p => (p.2.1, cpnV m r p.1 p.2.1 p.2.2)
theorem cpnL_len (s e m r : Int) : (cpnL s e m r).length = (perL s e m r).length := by unfold cpnL; rw [List.length_map]
/-- The face besides, at the last one. -/
def faced (fs : List Flo) : List Flo := fs.set (fs.length - 1) ((fs.getD (fs.length - 1) f0).1, (fs.getD (fs.length - 1) f0).2 + 10000)
/-- What a bond pays. -/
noncomputable def floL (s e m r : Int) : List Flo := faced (cpnL s e m r)
theorem faced_len (fs : List Flo) : (faced fs).length = fs.length := by unfold faced; rw [List.length_set]
end Go.Proofs.YtcckopnpmcbbcaaDoor
