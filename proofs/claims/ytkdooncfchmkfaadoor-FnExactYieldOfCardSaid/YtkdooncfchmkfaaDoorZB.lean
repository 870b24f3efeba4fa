import Derived.Test.YtkdooncfchmkfaaDoorZC
import Derived.Test.YtkdooncfchmkfaaDoorCpnS
import Derived.Test.YtkdooncfchmkfaaDoorSchD
import Derived.RegionTactic
import Derived.Deep.RegionHeld3
import Derived.Tactics2
import Derived.StillTactics
import Derived.Maps.AppendAt
import Derived.Deep.AppendLies
/- Rows of flows that a call has made, and what can be read of them. -/
namespace Go.Proofs.YtkdooncfchmkfaaDoor
open Go.RowKit
abbrev Flo := Int × Int
def fc (p : Flo) : List Value := [.int .i64 p.1, .int .i64 p.2]
theorem fc_len (p : Flo) : (fc p).length = 2 := rfl
theorem fc_one (p : Flo) : ∀ u ∈ fc p, u.oneCell' = true := by intro u hu; simp [fc] at hu; rcases hu with rfl | rfl <;> rfl
def f0 : Flo := (0, 0)
/-- A slice of flows in memory of the call's own; nil where there is none. -/
def FRow (w : World) (B : Nat) (v : Value) (fs : List Flo) : Prop := w.ownsRow B 39 2 v fs.length (fs.flatMap fc)
theorem FRow.nil (w : World) (B : Nat) : FRow w B (.slice none 0 0) [] := World.ownsRow_nil w B _ 2
theorem FRow.kept {w w' : World} {B : Nat} {v : Value} {fs : List Flo} {row : Option Nat} (h : FRow w B v fs) (hg : w.grownBy w' row) (hr : ∀ j, row = some j → j < B) : FRow w' B v fs :=
  World.ownsRow.kept h hg (by
    cases hb : v.ownBlock with
    | none => exact .inl rfl
    | some k => exact .inr fun e => by have := hr k e.symm; have := (World.ownsRow.lt h k hb).1; omega)
theorem FRow.below {w w' : World} {B C : Nat} {v : Value} {fs : List Flo} (h : FRow w B v fs) (hb : Below C w w') (hC : w.heap.size ≤ C) : FRow w' B v fs :=
  World.ownsRow.kept h (row := none) ⟨hb.os, hb.tape, hb.output, hb.size, fun k hk _ => hb.block k (by omega)⟩ (by cases v.ownBlock <;> simp)
theorem FRow.alloc {w : World} {B : Nat} {v : Value} {fs : List Flo} (h : FRow w B v fs) (o : Obj) : FRow (w.alloc o) B v fs := World.ownsRow.alloc h o
theorem FRow.drewN {w : World} {B : Nat} {v : Value} {fs : List Flo} (h : FRow w B v fs) (n : Nat) : FRow (w.drewN n) B v fs := h
theorem FRow.lower {w : World} {B C : Nat} {v : Value} {fs : List Flo} (h : FRow w B v fs) (hC : C ≤ B) : FRow w C v fs := by
  obtain ⟨h1, h2⟩ := h
  refine ⟨h1, ?_⟩
  rcases h2 with h2 | ⟨g, cap, cur, e, hb, rest⟩
  · exact .inl h2
  · exact .inr ⟨g, cap, cur, e, Nat.le_trans hC hb, rest⟩
/-- What can be read of it. -/
theorem FRow.form {w : World} {B : Nat} {v : Value} {fs : List Flo} (h : FRow w B v fs) (hl : 0 < fs.length) :
    ∃ b cap, v = .slice (some ⟨b, 0, none⟩) fs.length cap ∧ B ≤ b ∧ b < w.heap.size ∧ (fs.length ≤ cap ∧ cap ≤ maxLen) ∧
      (∀ i, i < fs.length → w.cell? ⟨b, i * 2, none⟩ = some (.int .i64 (fs.getD i f0).1) ∧ w.cell? ⟨b, i * 2 + 1, none⟩ = some (.int .i64 (fs.getD i f0).2)) ∧ (∀ i, w.frozen? ⟨b, i, none⟩ = false) := by
  have h0 := h
  rcases h.2 with ⟨_, h3⟩ | ⟨b, cap, cur, rfl, hb, hblk, hc1, hc2, _⟩
  · omega
  · refine ⟨b, cap, rfl, hb, ?_, ⟨hc1, hc2⟩, fun i hi => ?_, fun i => World.ownsRow.frozenAt h0 i⟩
    · exact (World.ownsRow.lt h0 b rfl).2
    · have key : ∀ j, j < 2 → w.cell? ⟨b, i * 2 + j, none⟩ = (fc (fs.getD i f0))[j]? := fun j hj => by
        rw [World.ownsRow.cellAt h0 (i * 2 + j) (by omega), Nat.mul_comm i 2, flat_at 2 fc fc_len f0 fs i j hi hj]
      exact ⟨key 0 (by omega), key 1 (by omega)⟩
/-- An element's cells stored anew. -/
theorem fflat_set : ∀ (fs : List Flo) (i : Nat) (x y : Int), (((fs.flatMap fc).set (i * 2) (.int .i64 x)).set (i * 2 + 1) (.int .i64 y)) = if i < fs.length then (fs.set i (x, y)).flatMap fc else fs.flatMap fc
  | [], i, x, y => by simp
  | p :: fs, 0, x, y => by simp [fc]
  | p :: fs, i + 1, x, y => by
    have ih := fflat_set fs i x y
    rw [List.flatMap_cons]
    show (((Value.int .i64 p.1 :: .int .i64 p.2 :: fs.flatMap fc).set ((i + 1) * 2) (.int .i64 x)).set ((i + 1) * 2 + 1) (.int .i64 y)) = _
    rw [show (i + 1) * 2 = i * 2 + 1 + 1 by omega, show i * 2 + 1 + 1 + 1 = (i * 2 + 1) + 1 + 1 by omega]
    simp only [List.set_cons_succ]
    rw [ih]
    by_cases c : i < fs.length
    · rw [if_pos c, if_pos (by simpa using c)]; simp [fc]
    · rw [if_neg c, if_neg (by simpa using c)]; simp [fc]
theorem FRow.store {w : World} {B b cap : Nat} {fs : List Flo} (h : FRow w B (.slice (some ⟨b, 0, none⟩) fs.length cap) fs) (i : Nat) (hi : i < fs.length) (x y : Int) :
    FRow ((w.setCell ⟨b, i * 2, none⟩ (.int .i64 x)).setCell ⟨b, i * 2 + 1, none⟩ (.int .i64 y)) B (.slice (some ⟨b, 0, none⟩) (fs.set i (x, y)).length cap) (fs.set i (x, y)) ∧
    w.grownBy ((w.setCell ⟨b, i * 2, none⟩ (.int .i64 x)).setCell ⟨b, i * 2 + 1, none⟩ (.int .i64 y)) (some b) := by
  have h1 := World.ownsRow.stored h (i * 2) (.int .i64 x)
  have h2 := World.ownsRow.stored h1.1 (i * 2 + 1) (.int .i64 y)
  have e := fflat_set fs i x y
  rw [if_pos hi] at e
  refine ⟨?_, h1.2.trans h2.2⟩
  unfold FRow
  rw [← e, List.length_set]
  exact h2.1
theorem fflat_set2 : ∀ (fs : List Flo) (i : Nat) (y : Int), (fs.flatMap fc).set (i * 2 + 1) (.int .i64 y) = if i < fs.length then (fs.set i ((fs.getD i f0).1, y)).flatMap fc else fs.flatMap fc
  | [], i, y => by simp
  | p :: fs, 0, y => by simp [fc]
  | p :: fs, i + 1, y => by
    have ih := fflat_set2 fs i y
    rw [List.flatMap_cons]
    show ((Value.int .i64 p.1 :: .int .i64 p.2 :: fs.flatMap fc).set ((i + 1) * 2 + 1) (.int .i64 y)) = _
    rw [show (i + 1) * 2 + 1 = (i * 2 + 1) + 1 + 1 by omega]
    simp only [List.set_cons_succ]
    rw [ih]
    by_cases c : i < fs.length
    · rw [if_pos c, if_pos (by simpa using c)]; simp [fc]
    · rw [if_neg c, if_neg (by simpa using c)]; simp [fc]
theorem FRow.store2 {w : World} {B b cap : Nat} {fs : List Flo} (h : FRow w B (.slice (some ⟨b, 0, none⟩) fs.length cap) fs) (i : Nat) (hi : i < fs.length) (y : Int) :
    FRow (w.setCell ⟨b, i * 2 + 1, none⟩ (.int .i64 y)) B (.slice (some ⟨b, 0, none⟩) fs.length cap) (fs.set i ((fs.getD i f0).1, y)) ∧
    w.grownBy (w.setCell ⟨b, i * 2 + 1, none⟩ (.int .i64 y)) (some b) := by
  have h1 := World.ownsRow.stored h (i * 2 + 1) (.int .i64 y)
  have e := fflat_set2 fs i y
  rw [if_pos hi] at e
  refine ⟨?_, h1.2⟩
  unfold FRow
  rw [← e, List.length_set]
  exact h1.1
theorem FRow.at_ {w : World} {B b n cap : Nat} {fs : List Flo} (h : FRow w B (.slice (some ⟨b, 0, none⟩) n cap) fs) (hn : fs.length = n) {i : Nat} (hi : i < n) :
    (w.cell? ⟨b, i * 2, none⟩ = some (.int .i64 (fs.getD i f0).1) ∧ w.cell? ⟨b, i * 2 + 1, none⟩ = some (.int .i64 (fs.getD i f0).2)) ∧ (w.frozen? ⟨b, i * 2, none⟩ = false ∧ w.frozen? ⟨b, i * 2 + 1, none⟩ = false) := by
  obtain ⟨b', cap', e', -, -, -, hc, hf⟩ := h.form (by omega)
  simp only [Value.slice.injEq, Option.some.injEq, Addr.mk.injEq, and_true] at e'
  obtain ⟨rfl, -, rfl⟩ := e'
  exact ⟨hc i (by omega), hf _, hf _⟩
theorem cpn_bd {m r f t : Int} (z : Bool) (m0 : 1 ≤ m) (m1 : m ≤ 12) (r0 : 0 ≤ r) (r1 : r ≤ 3000) (f0 : 0 ≤ f) (f1 : f < t) (t1 : t ≤ 36524) (hA : addV t (-m) < t) : 0 ≤ cpnV m r f t z ∧ cpnV m r f t z ≤ 120000000 := by
  obtain ⟨w0, w1⟩ := whole_bd m0 m1 r0 r1
  unfold cpnV
  split
  · omega
  · have h1 : fullF m f t < t := by unfold fullF; split <;> omega
    have hp := mul_bd (a := wholeV m r) (b := t - f) (A := 3000) (B := 36524) (by omega) (by omega) (by omega) (by omega)
    have hn : 0 ≤ wholeV m r * (t - f) := Int.mul_nonneg w0 (by omega)
    generalize wholeV m r * (t - f) = a at *
    obtain ⟨d, hd⟩ : ∃ d, d = t - fullF m f t := ⟨_, rfl⟩
    have hd1 : 1 ≤ d := by omega
    rw [← hd]
    unfold Rt.near
    refine ⟨Int.ediv_nonneg (by omega) (by omega), ?_⟩
    have h2 : (2 * a + d) / (2 * d) < 120000001 := Int.ediv_lt_of_lt_mul (by omega) (by omega)
    omega
theorem map_at {α β : Type} (g : α → β) (l : List α) (d : α) (d' : β) {i : Nat} (hi : i < l.length) : (l.map g).getD i d' = g (l.getD i d) := by
  rw [List.getD_eq_getElem?_getD, List.getD_eq_getElem?_getD, List.getElem?_map, List.getElem?_eq_getElem hi]; rfl
theorem set_at (fs : List Flo) (i t : Nat) (x : Flo) (hi : i < fs.length) : (fs.set i x).getD t f0 = if t = i then x else fs.getD t f0 := by
  rw [List.getD_eq_getElem?_getD, List.getElem?_set]
  by_cases c : i = t
  · subst c; rw [if_pos rfl, if_pos hi, if_pos rfl]; rfl
  · rw [if_neg c, if_neg (fun h => c h.symm), ← List.getD_eq_getElem?_getD]
abbrev S8 (B P : Nat) (s e m r f t : Int) (z : Bool) (w' : World) : Prop := w'.cell? ⟨B, 0, none⟩ = some (.int .i64 s) ∧ w'.cell? ⟨B, 1, none⟩ = some (.int .i64 e) ∧ w'.cell? ⟨B, 2, none⟩ = some (.int .i64 m) ∧ w'.cell? ⟨B, 3, none⟩ = some (.int .i64 r) ∧ w'.cell? ⟨P, 0, none⟩ = some (.int .i64 f) ∧ w'.cell? ⟨P, 1, none⟩ = some (.int .i64 t) ∧ w'.cell? ⟨P, 2, none⟩ = some (.bool z)
theorem keep8 {B P : Nat} {s e m r f t : Int} {z : Bool} {W W' : World} (h : S8 B P s e m r f t z W) (hb : Below W.heap.size W W') (hB : B < W.heap.size) (hP : P < W.heap.size) : S8 B P s e m r f t z W' :=
  ⟨(hb.cell (p := ⟨B, 0, none⟩) hB).trans h.1, (hb.cell (p := ⟨B, 1, none⟩) hB).trans h.2.1, (hb.cell (p := ⟨B, 2, none⟩) hB).trans h.2.2.1, (hb.cell (p := ⟨B, 3, none⟩) hB).trans h.2.2.2.1,
    (hb.cell (p := ⟨P, 0, none⟩) hP).trans h.2.2.2.2.1, (hb.cell (p := ⟨P, 1, none⟩) hP).trans h.2.2.2.2.2.1, (hb.cell (p := ⟨P, 2, none⟩) hP).trans h.2.2.2.2.2.2⟩
theorem keep8s {B P b : Nat} {s e m r f t : Int} {z : Bool} {W : World} (h : S8 B P s e m r f t z W) (i j : Nat) (x y : Value) (hB : b ≠ B) (hP : b ≠ P) : S8 B P s e m r f t z ((W.setCell ⟨b, i, none⟩ x).setCell ⟨b, j, none⟩ y) := by
  have k : ∀ (c k : Nat), b ≠ c → ((W.setCell ⟨b, i, none⟩ x).setCell ⟨b, j, none⟩ y).cell? ⟨c, k, none⟩ = W.cell? ⟨c, k, none⟩ := fun c k hc => by
    rw [World.cell?_setCell_other _ _ _ _ (by intro e; injection e; omega), World.cell?_setCell_other _ _ _ _ (by intro e; injection e; omega)]
  exact ⟨(k _ _ hB).trans h.1, (k _ _ hB).trans h.2.1, (k _ _ hB).trans h.2.2.1, (k _ _ hB).trans h.2.2.2.1, (k _ _ hP).trans h.2.2.2.2.1, (k _ _ hP).trans h.2.2.2.2.2.1, (k _ _ hP).trans h.2.2.2.2.2.2⟩
theorem list_same {fs gs : List Flo} (hl : fs.length = gs.length) (h : ∀ t, t < fs.length → fs.getD t f0 = gs.getD t f0) : fs = gs := by
  apply List.ext_getElem hl
  intro i h1 h2
  have := h i h1
  rwa [List.getD_eq_getElem?_getD, List.getD_eq_getElem?_getD, List.getElem?_eq_getElem h1, List.getElem?_eq_getElem h2] at this
/-- A slice of flows that can be read: nil where it has none. -/
def RdF (w : World) (v : Value) (fs : List Flo) : Prop := (∃ a c, v = .slice a fs.length c) ∧ (0 < fs.length → ∃ b c, v = .slice (some ⟨b, 0, none⟩) fs.length c ∧ b < w.heap.size ∧ ∀ i, i < fs.length → w.cell? ⟨b, i * 2, none⟩ = some (.int .i64 (fs.getD i f0).1) ∧ w.cell? ⟨b, i * 2 + 1, none⟩ = some (.int .i64 (fs.getD i f0).2))
theorem FRow.rd {w : World} {B : Nat} {v : Value} {fs : List Flo} (h : FRow w B v fs) : RdF w v fs := by
  refine ⟨?_, fun hl => ?_⟩
  · rcases h.2 with ⟨rfl, h3⟩ | ⟨b, cap, cur, rfl, _⟩
    · exact ⟨none, 0, by rw [h3]⟩
    · exact ⟨_, _, rfl⟩
  · obtain ⟨b, cap, e, _, hlt, _, hc, _⟩ := h.form hl
    exact ⟨b, cap, e, hlt, hc⟩
theorem RdF.below {w w' : World} {v : Value} {fs : List Flo} {B : Nat} (h : RdF w v fs) (hb : Below B w w') (hB : w.heap.size ≤ B) : RdF w' v fs := by
  refine ⟨h.1, fun hl => ?_⟩
  obtain ⟨b, c, e, hlt, hc⟩ := h.2 hl
  refine ⟨b, c, e, Nat.lt_of_lt_of_le hlt hb.size, fun i hi => ?_⟩
  obtain ⟨c0, c1⟩ := hc i hi
  exact ⟨(hb.cell (p := ⟨b, i * 2, none⟩) (by show b < B; omega)).trans c0, (hb.cell (p := ⟨b, i * 2 + 1, none⟩) (by show b < B; omega)).trans c1⟩
/-- The days of two neighbours. -/
theorem addV_less {t m : Int} (m0 : 1 ≤ m) (h0 : 0 ≤ t) (h1 : t ≤ 36524) : addV t (-m) < t := by
  have h := Sc.S_lt (e := t) (m := m) (j := 0) (k := 1) m0 (by omega) (by rw [Sc.S_zero h0 h1]; exact h0) (by omega)
  rw [Sc.S_zero h0 h1] at h
  unfold Sc.S at h
  simpa using h
/-- What a bond pays, the face not counted. -/
noncomputable def cpnL (s e m r : Int) : List Flo := (perL s e m r).map fun p => (p.2.1, cpnV m r p.1 p.2.1 p.2.2)
theorem cpnL_len (s e m r : Int) : (cpnL s e m r).length = (perL s e m r).length := by unfold cpnL; rw [List.length_map]
/-- The face besides, at the last one. -/
def faced (fs : List Flo) : List Flo := fs.set (fs.length - 1) ((fs.getD (fs.length - 1) f0).1, (fs.getD (fs.length - 1) f0).2 + 10000)
/-- What a bond pays. -/
noncomputable def floL (s e m r : Int) : List Flo := faced (cpnL s e m r)
theorem faced_len (fs : List Flo) : (faced fs).length = fs.length := by unfold faced; rw [List.length_set]
end Go.Proofs.YtkdooncfchmkfaaDoor

/- The payments of a bond, the program's side. -/
namespace Go.Proofs.YtkdooncfchmkfaaDoor
open Go.RowKit
theorem infoF : (Tryd.prog.info? 39).map (fun i => (i.zero, i.size, i.bytes)) = some (some (.agg #[.int .i64 0, .int .i64 0]), 2, 16) := by kernel_rfl
theorem made_flows (n : Nat) : (madeCells (Value.agg #[.int .i64 0, .int .i64 0]).cells (n * 2)).toList = (List.replicate n f0).flatMap fc := by
  show (madeCells #[.int .i64 0, .int .i64 0] (n * 2)).toList = _
  have e : (List.replicate n f0).flatMap fc = List.replicate (n * 2) (Value.int .i64 0) := by
    induction n with
    | zero => rfl
    | succ n ih => rw [List.replicate_succ, List.flatMap_cons, ih, Nat.add_mul]; simp [fc, f0, List.replicate_succ]
  rw [e]
  apply List.ext_getElem?
  intro i
  by_cases h : i < n * 2
  · have h2 : i % 2 = 0 ∨ i % 2 = 1 := by omega
    rcases h2 with h2 | h2 <;> simp [madeCells, h, h2]
  · simp [madeCells, h]
/-- What is known of a bond's periods. -/
theorem per_facts {s e m r : Int} (h : perL s e m r ≠ []) :
    (1 ≤ m ∧ m ≤ 12) ∧ (0 ≤ r ∧ r ≤ 3000) ∧ (perL s e m r).length ≤ 40 ∧ ∀ i, i < (perL s e m r).length → ∃ f t : Int, ∃ z : Bool, (perL s e m r).getD i p0 = (f, t, z) ∧ 0 ≤ f ∧ f < t ∧ t ≤ 36524 ∧ addV t (-m) < t := by
  have hr : btw r 0 3000 = true := by
    unfold perL at h
    by_cases c : btw r 0 3000 = true
    · exact c
    · rw [if_neg c] at h; exact absurd rfl h
  have hp : perL s e m r = Sc.sch s e m := by unfold perL; rw [if_pos hr]
  rw [hp] at h ⊢
  obtain ⟨ok, hN, hall⟩ := Sc.sch_pos h
  obtain ⟨⟨s0, se, e1⟩, hm⟩ := Sc.okB_iff.1 ok
  refine ⟨Sc.mon_bd hm, btw_iff.1 hr, Sc.sch_len s e m, fun i hi => ?_⟩
  rw [hall, Sc.all_len] at hi
  obtain ⟨f, t, z, hg, hft, ⟨fa, fb⟩, ⟨ta, tb⟩, -, h0, -, hpre⟩ := Sc.all_facts ok hN hi
  have hf : 0 ≤ f := by
    rcases Nat.eq_zero_or_pos i with c | c
    · rw [h0 c]; omega
    · obtain ⟨-, hq⟩ := hpre c
      obtain ⟨f', t', z', hg', hft', ⟨fa', fb'⟩, -⟩ := Sc.all_facts ok hN (i := i - 1) (by omega)
      rw [hg'] at hq
      have hq : f = t' := hq
      omega
  exact ⟨f, t, z, by rw [hall]; exact hg, hf, hft, by omega, addV_less (Sc.mon_bd hm).1 (by omega) (by omega)⟩
def CollF (fs : List Flo) (w : World) (x : Ending) (w' : World) : Prop := ∃ v, x = .returned v ∧ FRow w' w.heap.size v fs ∧ (v = .slice none 0 0 ↔ fs = []) ∧ Below w.heap.size w w'
set_option maxRecDepth 8000 in
set_option maxHeartbeats 4000000 in
theorem flowsOf_any (s e m r : Int) (w : World) (hT : Tab w) :
    Calls Tryd.prog 58 #[.agg #[.int .i64 s, .int .i64 e, .int .i64 m, .int .i64 r]] w (CollF (floL s e m r) w) := by
  have HT := Lib.hid hT; clear hT
  have kB := Blk.new w #[.int .i64 s, .int .i64 e, .int .i64 m, .int .i64 r] 27
  have HKB := Lib.hid kB
  have hB := (Below.refl w.heap.size w).alloc (Nat.le_refl _) (.cells #[.int .i64 s, .int .i64 e, .int .i64 m, .int .i64 r] 27)
  obtain ⟨c0, c1, c2, c3⟩ := kB.four
  clear kB
  have HT1 := Lib.hid (HT.out.alloc (.cells #[.int .i64 s, .int .i64 e, .int .i64 m, .int .i64 r] 27))
  have HB := Lib.hid hB
  clear hB
  have HSZ := Lib.hid (show w.heap.size < (w.alloc (.cells #[.int .i64 s, .int .i64 e, .int .i64 m, .int .i64 r] 27)).heap.size by simp)
  have HPF := Lib.hid (@per_facts s e m r)
  have HPR := Lib.hid (periods_any s e m r)
  have HCL := Lib.hid (show cpnL s e m r = (perL s e m r).map fun p => (p.2.1, cpnV m r p.1 p.2.1 p.2.2) from rfl)
  have HFL := Lib.hid (show floL s e m r = faced (cpnL s e m r) from rfl)
  obtain ⟨ps, hps⟩ : ∃ ps, ps = perL s e m r := ⟨_, rfl⟩
  rw [← hps] at HPF HPR HCL
  have HCL2 : Hid ((perL s e m r).length = ps.length) := Lib.hid (by rw [hps])
  clear hps
  by_cases hz : ps = []
  · have E : floL s e m r = [] := by rw [HFL.out, HCL.out, hz]; rfl
    have HE := Lib.hid E; clear E
    subst hz
    go_enter Tryd.func58, Tryd.ntmps58
    go_wp2_with fail
    refine (HPR.out _ HT1.out).mono ?_
    rintro x w1 ⟨v, rfl, hr, hn, hb⟩
    have hv := hn.2 rfl
    subst hv
    clear hn hr
    have HB1 := Lib.hid hb
    clear hb
    go_wp2_with fail
    go_ret
    exact ⟨_, rfl, by rw [HE.out]; exact FRow.nil _ _, by rw [HE.out]; simp, HB.out.trans (HB1.out.mono (Nat.le_of_lt HSZ.out))⟩
  · obtain ⟨⟨m0, m1⟩, ⟨r0, r1⟩, hl40, hpf⟩ := HPF.out hz
    have HP := Lib.hid hpf
    clear hpf
    obtain ⟨n, hn⟩ : ∃ n, n = ps.length := ⟨_, rfl⟩
    rw [← hn] at hl40
    have n1 : 1 ≤ n := by
      cases ps with
      | nil => exact absurd rfl hz
      | cons a l => rw [hn]; simp
    have HN := Lib.hid hn
    have nz : ((n : Int) == 0) = false := by simp; omega
    have HZ := Lib.hid hz
    clear hz
    obtain ⟨i0, hi, hz0, hz1, hz2⟩ := info_parts infoF
    go_enter Tryd.func58, Tryd.ntmps58
    go_wp2_with fail
    refine (HPR.out _ HT1.out).mono ?_
    rintro x w1 ⟨v, rfl, hr, hnil, hb⟩
    clear hnil
    have HR := Lib.hid hr.rd
    clear hr
    obtain ⟨pb, pc', rfl, hpb, hcells⟩ := HR.out.2 (by omega)
    rw [← hn] at hcells HR ⊢
    have HC := Lib.hid hcells
    have HB1 := Lib.hid hb
    clear hcells hb hn
    go_wp2_with (at_make; refine wpList_make_full _ rfl _ _ 61 rfl w1.heap.size 39 i0 (.agg #[.int .i64 0, .int .i64 0]) 2 Tryd.underlying61 hi hz0 hz1 .i64 .i64 _ _ n rfl rfl rfl rfl (by rw [hz2]; omega) (by unfold maxLen; omega) (by omega) ?_; intro w2 hown hgrow)
    rw [made_flows] at hown
    have hb2 : Below w1.heap.size w1 w2 := (Below.refl _ _).grown hgrow (Nat.le_refl _) (fun j hj => by cases hj)
    have HT2 := Lib.hid ((HT1.out.below HB1.out (by have := HT1.out.pos; exact this)))
    have hs1 := HB1.out.size
    have hBl : w.heap.size < w1.heap.size := Nat.lt_of_lt_of_le HSZ.out hs1
    obtain ⟨k0, k1, k2, k3⟩ := (HKB.out.below HB1.out HSZ.out).four
    have HK := Lib.hid (And.intro k0 (And.intro k1 (And.intro k2 k3)))
    have HO : Hid (FRow w2 w1.heap.size (.slice (some ⟨w1.heap.size, 0, none⟩) n n) (List.replicate n f0)) := Lib.hid (by unfold FRow; rw [List.length_replicate]; exact hown)
    clear hown hgrow k0 k1 k2 k3 hs1 c0 c1 c2 c3
    have HCP := Lib.hid (coupon_any s e m r)
    have HB2 := Lib.hid hb2
    clear hb2
    go_loopw [17] (fun x wr => ∃ (i : Nat) (qs : List Flo), i ≤ n ∧ x = .int .i64 i ∧ Hid (qs.length = n ∧ ∀ t, t < i → qs.getD t f0 = (cpnL s e m r).getD t f0) ∧ Hid (FRow wr w1.heap.size (.slice (some ⟨w1.heap.size, 0, none⟩) n n) qs) ∧ Hid (Below w1.heap.size w1 wr)) (fun x _ => n - (intOf x).toNat)
    case atStart => exact ⟨0, List.replicate n f0, Nat.zero_le _, rfl, Lib.hid ⟨by simp, fun t ht => by omega⟩, HO, HB2⟩
    case round =>
      obtain ⟨i, qs, hi', rfl, HQ, HF, HW⟩ := hrel
      by_cases hlt : i < n
      · obtain ⟨f, t, z, hg, f0', f1', t1', hA'⟩ := HP.out i (by rw [← HN.out]; exact hlt)
        obtain ⟨a0, a1, a2⟩ := HC.out i hlt
        rw [hg] at a0 a1 a2
        dsimp only at a0 a1 a2
        have hW := HW.out
        replace a0 := (hW.cell (p := ⟨pb, i * 3, none⟩) hpb).trans a0
        replace a1 := (hW.cell (p := ⟨pb, i * 3 + 1, none⟩) hpb).trans a1
        replace a2 := (hW.cell (p := ⟨pb, i * 3 + 2, none⟩) hpb).trans a2
        have hgl : (cpnL s e m r).getD i f0 = (t, cpnV m r f t z) := by rw [HCL.out, map_at _ ps p0 f0 (by rw [← HN.out]; exact hlt), hg]
        have HGL := Lib.hid hgl
        have hsz := hW.size
        have HF1 := Lib.hid (HF.out.alloc (.cells #[.int .i64 f, .int .i64 t, .bool z] 58))
        have HT3 := Lib.hid ((HT2.out.below hW HT2.out.pos).alloc (.cells #[.int .i64 f, .int .i64 t, .bool z] 58))
        have HW1 := Lib.hid (hW.alloc hsz (.cells #[.int .i64 f, .int .i64 t, .bool z] 58))
        have HSB : Hid (w.heap.size < (wr.alloc (.cells #[.int .i64 f, .int .i64 t, .bool z] 58)).heap.size) := Lib.hid (by simp <;> omega)
        have HSP : Hid (wr.heap.size < (wr.alloc (.cells #[.int .i64 f, .int .i64 t, .bool z] 58)).heap.size) := Lib.hid (by simp)
        have K0 : Hid (S8 w.heap.size wr.heap.size s e m r f t z (wr.alloc (.cells #[.int .i64 f, .int .i64 t, .bool z] 58))) := Lib.hid (by
          obtain ⟨k0, k1, k2, k3⟩ := HK.out
          obtain ⟨⟨x0, x1, x2⟩, -⟩ := (Blk.new wr #[.int .i64 f, .int .i64 t, .bool z] 58).three
          have hA := hW.alloc hsz (.cells #[.int .i64 f, .int .i64 t, .bool z] 58)
          exact ⟨(hA.cell (p := ⟨w.heap.size, 0, none⟩) hBl).trans k0, (hA.cell (p := ⟨w.heap.size, 1, none⟩) hBl).trans k1, (hA.cell (p := ⟨w.heap.size, 2, none⟩) hBl).trans k2, (hA.cell (p := ⟨w.heap.size, 3, none⟩) hBl).trans k3, x0, x1, x2⟩)
        have HC1 := Lib.hid (fun W h => HCP.out f t z W h m0 m1 r0 r1 f0' f1' t1' hA')
        have HQ1 := Lib.hid HQ.out.1
        have nB : w1.heap.size ≠ w.heap.size := by omega
        have nP : w1.heap.size < wr.heap.size := by
          obtain ⟨b', cap', e', -, hlt', -⟩ := HF.out.form (by rw [HQ.out.1]; omega)
          simp only [Value.slice.injEq, Option.some.injEq, Addr.mk.injEq, and_true] at e'
          obtain ⟨rfl, -, -⟩ := e'
          exact hlt'
        obtain ⟨C, hC⟩ : ∃ C, C = cpnV m r f t z := ⟨_, rfl⟩
        rw [← hC] at HGL HC1
        clear hW hgl hC hg
        go_wp2_with fail
        obtain ⟨P, hP⟩ : ∃ P, P = wr.heap.size := ⟨_, rfl⟩
        rw [← hP] at K0 HSP nP ⊢
        have nP' : w1.heap.size ≠ P := by omega
        generalize wr.alloc (.cells #[.int .i64 f, .int .i64 t, .bool z] 58) = W1 at K0 HF1 HT3 HW1 HSB HSP ⊢
        clear hP a0 a1 a2
        go_region_held3 (S8 w.heap.size P s e m r f t z) (first | exact k1 | exact K0.out | exact keep8s k1 _ _ _ _ nB nP')
          (first
            | (go_at_call 77; refine (HC1.out _ (by exact HT3.out)).mono ?_; rintro x wx ⟨rfl, hbx⟩; have k1 := keep8 (by exact K0.out) hbx (by exact HSB.out) (by exact HSP.out); have hFx := FRow.below (by exact HF1.out) hbx (Nat.le_refl _); obtain ⟨⟨d0, d1⟩, d2, d3⟩ := hFx.at_ HQ1.out hlt))
        all_goals
          go_wp2_with fail
          have hst := FRow.store (show FRow wx w1.heap.size (.slice (some ⟨w1.heap.size, 0, none⟩) qs.length n) qs by rw [HQ1.out]; exact hFx) i (by rw [HQ1.out]; exact hlt) t C
          rw [List.length_set, HQ1.out] at hst
          have hbw := HW1.out.drew.trans (hbx.mono HW1.out.size)
          refine ⟨⟨i + 1, qs.set i (t, C), by omega, by go_num, Lib.hid ⟨by rw [List.length_set]; exact HQ1.out, fun u hu => ?_⟩, Lib.hid hst.1, Lib.hid (hbw.grown hst.2 hbw.size (fun j hj => by injection hj with hj; omega))⟩, by simp [intOf] <;> omega⟩
          rw [set_at qs i u (t, C) (by rw [HQ1.out]; exact hlt)]
          by_cases c : u = i
          · rw [if_pos c, c, HGL.out]
          · rw [if_neg c]; exact HQ.out.2 u (by omega)
      · obtain rfl : i = n := by omega
        obtain ⟨⟨-, d1⟩, -, d2⟩ := HF.out.at_ HQ.out.1 (i := i - 1) (by omega)
        obtain ⟨A, hA⟩ : ∃ A, A = (qs.getD (i - 1) f0).2 := ⟨_, rfl⟩
        rw [← hA] at d1
        obtain ⟨A0, A1⟩ : 0 ≤ A ∧ A ≤ 120000000 := by
          obtain ⟨f, t, z, hg, f0', f1', t1', hA'⟩ := HP.out (i - 1) (by rw [← HN.out]; omega)
          rw [hA, HQ.out.2 (i - 1) (by omega), HCL.out, map_at _ ps p0 f0 (by rw [← HN.out]; omega), hg]
          exact cpn_bd z m0 m1 r0 r1 f0' f1' t1' hA'
        have HE : Hid (qs.set (i - 1) ((qs.getD (i - 1) f0).1, A + 10000) = floL s e m r) := Lib.hid (by
          have e1 : qs = cpnL s e m r := list_same (by rw [HQ.out.1, cpnL_len, HCL2.out]; exact HN.out) (fun t ht => HQ.out.2 t (by rw [← HQ.out.1]; exact ht))
          rw [HFL.out, ← e1, hA]
          unfold faced
          rw [HQ.out.1])
        have HFS := Lib.hid (FRow.store2 (show FRow wr w1.heap.size (.slice (some ⟨w1.heap.size, 0, none⟩) qs.length i) qs by rw [HQ.out.1]; exact HF.out) (i - 1) (by rw [HQ.out.1]; omega) (A + 10000))
        clear hA
        have w1' : IntKind.i64.wrap ((i : Int) - 1) = (i : Int) - 1 := IntWalk.i64_in _ (by omega)
        have w2' : ((i : Int) - 1).toNat = i - 1 := by omega
        have i2 : (0 : Int) ≤ (i : Int) - 1 := by omega
        have i3 : (i : Int) - 1 < i := by omega
        go_wp2_with fail
        go_ret
        obtain ⟨h1, h2⟩ := HFS.out
        rw [HE.out, HQ.out.1] at h1
        have hb := HW.out.grown h2 HW.out.size (fun j hj => by injection hj with hj; omega)
        have h3 := h1.lower (show w.heap.size ≤ w1.heap.size by omega)
        have e2 : (floL s e m r).length = i := by rw [← HE.out, List.length_set]; exact HQ.out.1
        have h4 : FRow (wr.setCell ⟨w1.heap.size, (i - 1) * 2 + 1, none⟩ (.int .i64 (A + 10000))) w.heap.size (.slice (some ⟨w1.heap.size, 0, none⟩) i i) (floL s e m r) := h3
        refine ⟨_, rfl, h4, ⟨fun h => by simp at h, fun h => by rw [h] at e2; simp at e2; omega⟩, ?_⟩
        exact (HB.out.trans (HB1.out.mono (Nat.le_of_lt HSZ.out))).trans (hb.mono (by omega))
end Go.Proofs.YtkdooncfchmkfaaDoor

/- The payments of a bond, the model's side. -/
namespace Go.Proofs.YtkdooncfchmkfaaDoor
open Go.RowKit
/-- A row of flows that is not nil. -/
def PF (w : World) (B : Nat) (v : Value) (fs : List Flo) : Prop := FRow w B v fs ∧ v ≠ .slice none 0 0
theorem pf_new (w : World) : PF (w.alloc (.cells #[] 39)) w.heap.size (.slice (some ⟨w.heap.size, 0, none⟩) 0 0) [] :=
  ⟨World.ownsRow_lit w #[] 0 (Nat.le_refl _) (Nat.zero_le _) (by simp), by simp⟩
theorem PF.form {w : World} {B : Nat} {v : Value} {fs : List Flo} (h : PF w B v fs) : ∃ b cap, v = .slice (some ⟨b, 0, none⟩) fs.length cap ∧ B ≤ b ∧ b < w.heap.size := by
  rcases h.1.2 with ⟨h3, _⟩ | ⟨b, cap, cur, rfl, hb, hblk, _⟩
  · exact absurd h3 h.2
  · exact ⟨b, cap, rfl, hb, (World.ownsRow.lt h.1 b rfl).2⟩
theorem PF.below {w w' : World} {B : Nat} {v : Value} {fs : List Flo} (h : PF w B v fs) (hb : Below w.heap.size w w') : PF w' B v fs := ⟨h.1.below hb (Nat.le_refl _), h.2⟩
theorem PF.alloc {w : World} {B : Nat} {v : Value} {fs : List Flo} (h : PF w B v fs) (o : Obj) : PF (w.alloc o) B v fs := ⟨h.1.alloc o, h.2⟩
/-- One flow appended. -/
theorem wpList_pushF (w : World) {ops : Array Oper} {rest : List Oper} {o : Oper} {a : Act} {Q : Exit → Act → World → Prop} (hgd : o.guard = none) (s x : Operand)
    (ho : o.op = .call { callee := .builtin .append, args := #[s, x], argTypes := #[61, 61] })
    (B : Nat) (v : Value) (xs : List Flo) (hs : a.eval s = v) (hown : PF w B v xs) (b c : Nat) (y : Flo) (hx : a.eval x = .slice (some ⟨b, 0, none⟩) 1 c) (hcell : ∀ j u, (fc y)[j]? = some u → w.cell? ((⟨b, 0, none⟩ : Addr).add j) = some u)
    (hl : xs.length + 1 ≤ 1000000) (hB : B ≤ w.heap.size)
    (h : ∀ v' w', PF w' B v' (xs ++ [y]) → w.grownBy w' v.ownBlock → (v'.ownBlock = v.ownBlock ∨ v'.ownBlock = some w.heap.size) → wpList Tryd.prog ops Q rest (a.put o.dst v') w') : wpList Tryd.prog ops Q (o :: rest) a w := by
  obtain ⟨i0, hi, hz0, hz1, hz2⟩ := info_parts infoF
  refine wpList_append_own_at w hgd s x 61 ho B 39 i0 (.agg #[.int .i64 0, .int .i64 0]) 2 16 Tryd.underlying61 hi hz0 hz1 hz2 rfl (by decide) v xs.length _ hs hown.1 ⟨b, 0, none⟩ 1 c (fc y) hx rfl hcell (fc_one y) (by unfold maxLen; omega) (by omega) hB ?_
  intro v' w' h1 h2 h3 h4
  refine h v' w' ⟨?_, fun e => ?_⟩ h2 h4
  · unfold FRow
    rw [flat_take, List.length_append]
    exact h1
  · exact hown.2 (h3.1 e).1
theorem cell_two (w : World) (p : Flo) (t : TypeId) : ∀ j u, (fc p)[j]? = some u → (w.alloc (.cells #[.int .i64 p.1, .int .i64 p.2] t)).cell? ((⟨w.heap.size, 0, none⟩ : Addr).add j) = some u := by
  intro j u hj
  match j, hj with
  | 0, hj => simp [fc] at hj; subst hj; simp [Addr.add]
  | 1, hj => simp [fc] at hj; subst hj; simp [Addr.add]
theorem Rd.kept {w w' : World} {lb n lc : Nat} {ps : List Per} {q : Option Nat} (h : Rd w (.slice (some ⟨lb, 0, none⟩) n lc) ps) (hg : w.grownBy w' q) (hne : q ≠ some lb) : Rd w' (.slice (some ⟨lb, 0, none⟩) n lc) ps := by
  refine ⟨h.1, fun hl => ?_⟩
  obtain ⟨b, c, e, hlt, hc⟩ := h.2 hl
  simp only [Value.slice.injEq, Option.some.injEq, Addr.mk.injEq, and_true] at e
  obtain ⟨rfl, rfl, rfl⟩ := e
  refine ⟨_, _, rfl, Nat.lt_of_lt_of_le hlt hg.size, fun i hi => ?_⟩
  obtain ⟨c0, c1, c2⟩ := hc i hi
  exact ⟨(hg.cell_far _ hlt (Ne.symm hne)).trans c0, (hg.cell_far _ hlt (Ne.symm hne)).trans c1, (hg.cell_far _ hlt (Ne.symm hne)).trans c2⟩
/-- What the loop reads: the bond's cells, the period's cells. -/
abbrev S9 (B L i : Nat) (s e m r f t : Int) (z : Bool) (w' : World) : Prop := w'.cell? ⟨B, 0, none⟩ = some (.int .i64 s) ∧ w'.cell? ⟨B, 1, none⟩ = some (.int .i64 e) ∧ w'.cell? ⟨B, 2, none⟩ = some (.int .i64 m) ∧ w'.cell? ⟨B, 3, none⟩ = some (.int .i64 r) ∧ w'.cell? ⟨L, i * 3, none⟩ = some (.int .i64 f) ∧ w'.cell? ⟨L, i * 3 + 1, none⟩ = some (.int .i64 t) ∧ w'.cell? ⟨L, i * 3 + 2, none⟩ = some (.bool z)
theorem keep9 {B L i : Nat} {s e m r f t : Int} {z : Bool} {W W' : World} (h : S9 B L i s e m r f t z W) {q : Option Nat} (hg : W.grownBy W' q) (hB : B < W.heap.size) (hL : L < W.heap.size) (nB : q ≠ some B) (nL : q ≠ some L) : S9 B L i s e m r f t z W' :=
  ⟨(hg.cell_far _ hB (Ne.symm nB)).trans h.1, (hg.cell_far _ hB (Ne.symm nB)).trans h.2.1, (hg.cell_far _ hB (Ne.symm nB)).trans h.2.2.1, (hg.cell_far _ hB (Ne.symm nB)).trans h.2.2.2.1, (hg.cell_far _ hL (Ne.symm nL)).trans h.2.2.2.2.1, (hg.cell_far _ hL (Ne.symm nL)).trans h.2.2.2.2.2.1, (hg.cell_far _ hL (Ne.symm nL)).trans h.2.2.2.2.2.2⟩
theorem grown_none_of_below {w w' : World} (hb : Below w.heap.size w w') : w.grownBy w' none := ⟨hb.os, hb.tape, hb.output, hb.size, fun k hk _ => hb.block k hk⟩
theorem take_more {fs : List Flo} {i : Nat} {y : Flo} (hi : i < fs.length) (hy : fs.getD i f0 = y) : fs.take i ++ [y] = fs.take (i + 1) := by
  rw [← hy, List.getD_eq_getElem?_getD, List.getElem?_eq_getElem hi, List.take_add_one, List.getElem?_eq_getElem hi]
  rfl
def FlowsL (s e m r : Int) (w : World) (x : Ending) (w' : World) : Prop := ∃ v, x = .returned v ∧ PF w' w.heap.size v (floL s e m r) ∧ Below w.heap.size w w'
set_option maxRecDepth 8000 in
set_option maxHeartbeats 4000000 in
theorem sFlows_any (s e m r : Int) (w : World) (hz : perL s e m r ≠ []) :
    Calls Tryd.prog 43 #[.agg #[.int .i64 s, .int .i64 e, .int .i64 m, .int .i64 r]] w (FlowsL s e m r w) := by
  obtain ⟨⟨m0, m1⟩, ⟨r0, r1⟩, hl40, hpf⟩ := per_facts hz
  have hper : perL s e m r = Sc.sch s e m := by unfold perL; rw [if_pos (btw_t r0 r1)]
  have hz' := hz
  rw [hper] at hz'
  obtain ⟨ok, hN, hall⟩ := Sc.sch_pos hz'
  have HL : Hid (Sc.specL s e m (Sc.N s e m) = perL s e m r) := Lib.hid (by rw [hper, hall, Sc.specL_all ok hN])
  have HOK := Lib.hid ok
  have HP := Lib.hid hpf
  have HCL := Lib.hid (show cpnL s e m r = (perL s e m r).map fun p => (p.2.1, cpnV m r p.1 p.2.1 p.2.2) from rfl)
  have HFL := Lib.hid (show floL s e m r = faced (cpnL s e m r) from rfl)
  have n1 : 1 ≤ (perL s e m r).length := by
    rcases Nat.eq_zero_or_pos (perL s e m r).length with h | h
    · exact absurd (List.eq_nil_of_length_eq_zero h) hz
    · exact h
  have HS := Lib.hid (fun W => sSched_any s e m W ok)
  clear hz hz' hper ok hN hall hpf
  obtain ⟨ps, hps⟩ : ∃ ps, ps = perL s e m r := ⟨_, rfl⟩
  have HPS : Hid ((cpnL s e m r).length = ps.length) := Lib.hid (by rw [cpnL_len, hps])
  rw [← hps] at HL HP HCL n1 hl40
  clear hps
  obtain ⟨n, hn⟩ : ∃ n, n = ps.length := ⟨_, rfl⟩
  rw [← hn] at n1 hl40 HPS
  have HN := Lib.hid hn
  have kB := Blk.new w #[.int .i64 s, .int .i64 e, .int .i64 m, .int .i64 r] 27
  have HKB := Lib.hid kB
  obtain ⟨c0, c1, c2, c3⟩ := kB.four
  clear kB
  go_enter Tryd.func43, Tryd.ntmps43
  go_wp2_with fail
  refine (HS.out _).mono ?_
  rintro x w2 ⟨v, rfl, hp, hb⟩
  rw [HL.out] at hp
  obtain ⟨lb, lc, rfl, hlb, hlb2⟩ := hp.form
  have HR := Lib.hid hp.1.rd
  clear hp
  rw [← hn] at HR ⊢
  clear hn
  go_wp2_with fail
  obtain ⟨i0, hi, hz0, hz1, hz2⟩ := info_parts infoF
  have hB0 : Below w.heap.size w ((w.alloc (.cells #[.int .i64 s, .int .i64 e, .int .i64 m, .int .i64 r] 27)).alloc (.cells #[] 39)) := ((Below.refl _ _).alloc (Nat.le_refl _) _).alloc (by simp) _
  have HB2 := Lib.hid (hB0.trans (hb.mono (by simp <;> omega)))
  have kF := ((pf_new (w.alloc (.cells #[.int .i64 s, .int .i64 e, .int .i64 m, .int .i64 r] 27))).1).below hb (Nat.le_refl _)
  have kB := ((Blk.new w #[.int .i64 s, .int .i64 e, .int .i64 m, .int .i64 r] 27).alloc (.cells #[] 39)).below hb (by simp <;> omega)
  have h4 := kB.four
  simp only [World.size_alloc] at kF hlb
  have HF0 := Lib.hid kF
  have HK := Lib.hid h4
  clear hB0 kF kB h4 c0 c1 c2 c3
  have HCP := Lib.hid (sCoupon_any s e m r)
  go_loopw [3, 5] (fun o x wr => ∃ i ob oc : Nat, i ≤ n ∧ x = .int .i64 i ∧ o = .slice (some ⟨ob, 0, none⟩) i oc ∧ Hid (FRow wr (w.heap.size + 1) o ((cpnL s e m r).take i)) ∧ Hid (Rd wr (.slice (some ⟨lb, 0, none⟩) n lc) ps) ∧ Hid (wr.cell? ⟨w.heap.size, 0, none⟩ = some (.int .i64 s) ∧ wr.cell? ⟨w.heap.size, 1, none⟩ = some (.int .i64 e) ∧ wr.cell? ⟨w.heap.size, 2, none⟩ = some (.int .i64 m) ∧ wr.cell? ⟨w.heap.size, 3, none⟩ = some (.int .i64 r)) ∧ Below w.heap.size w wr ∧ (w.heap.size < ob ∧ ob ≠ lb ∧ lb < wr.heap.size)) (fun _ x _ => n - (intOf x).toNat)
  case atStart => exact ⟨0, w.heap.size + 1, 0, Nat.zero_le _, rfl, rfl, Lib.hid (by simpa using HF0.out), HR, HK, HB2.out, by omega, by omega, hlb2⟩
  case round =>
    obtain ⟨i, ob, oc, hi', rfl, rfl, HF, HRr, HKr, hbr, hob, hol, hlr⟩ := hrel
    by_cases hlt : i < n
    · obtain ⟨f, t, z, hg, f0', f1', t1', hA'⟩ := HP.out i (by rw [← HN.out]; exact hlt)
      have K0 : Hid (S9 w.heap.size lb i s e m r f t z wr) := Lib.hid (by
        obtain ⟨b', c', e', -, hc⟩ := HRr.out.2 (by rw [← HN.out]; omega)
        simp only [Value.slice.injEq, Option.some.injEq, Addr.mk.injEq, and_true] at e'
        obtain ⟨rfl, -, -⟩ := e'
        obtain ⟨a0, a1, a2⟩ := hc i (by rw [← HN.out]; exact hlt)
        rw [hg] at a0 a1 a2
        obtain ⟨k0, k1, k2, k3⟩ := HKr.out
        exact ⟨k0, k1, k2, k3, a0, a1, a2⟩)
      have hgl : (cpnL s e m r).getD i f0 = (t, cpnV m r f t z) := by rw [HCL.out, map_at _ ps p0 f0 (by rw [← HN.out]; exact hlt), hg]
      have HC1 := Lib.hid (fun W => HCP.out f t z W m0 m1 r0 r1 f0' f1' t1' hA')
      have HTK := Lib.hid (take_more (fs := cpnL s e m r) (i := i) (by rw [HPS.out]; exact hlt) hgl)
      have hlen : ((cpnL s e m r).take i).length = i := by rw [List.length_take, HPS.out]; omega
      obtain ⟨C, hC⟩ : ∃ C, C = cpnV m r f t z := ⟨_, rfl⟩
      rw [← hC] at HTK HC1
      have HLEN := Lib.hid hlen
      have hsz := hbr.size
      have hszl : w.heap.size < wr.heap.size := by
        obtain ⟨b', c', e', -, -⟩ := HRr.out.2 (by rw [← HN.out]; omega)
        rcases Nat.lt_or_ge w.heap.size wr.heap.size with h | h
        · exact h
        · have := World.block_lt_of_cell? wr _ HKr.out.1
          exact absurd this (by show ¬ w.heap.size < wr.heap.size; omega)
      have hx1 : (0 : Int) ≤ (i : Int) := by omega
      have hx2 : (i : Int) < (n : Int) := by omega
      clear hgl hC hg hlen
      go_wp2_with fail
      go_region_held3 (S9 w.heap.size lb i s e m r f t z) (first | exact k3 | exact keep9 k1 (World.grownBy_alloc _ _ none) zB zL (by simp) (by simp) | exact k1 | exact K0.out)
        (first
          | (go_at_call 63; refine (HC1.out _).mono ?_; rintro x wx ⟨rfl, hbx⟩; have k1 := keep9 (by exact K0.out) (grown_none_of_below hbx) (by exact hszl) (by exact hlr) (by simp) (by simp); have zB := Nat.lt_of_lt_of_le (by exact hszl) hbx.size; have zL := Nat.lt_of_lt_of_le (by exact hlr) hbx.size; have hFx := FRow.below (by exact HF.out) hbx (Nat.le_refl _))
          | (refine step_append_lies _ (by rfl) _ _ _ (by rfl) (w.heap.size + 1) 39 i0 _ 2 16 Tryd.underlying61 hi hz0 hz1 hz2 rfl (by omega) (.slice (some ⟨ob, 0, none⟩) i oc) i (((cpnL s e m r).take i).flatMap fc) (by rfl) (by have := hFx.alloc (.cells #[.int .i64 t, .int .i64 C] 39); unfold FRow at this; rw [HLEN.out] at this; exact this)
              ⟨wx.heap.size, 0, none⟩ 1 1 (fc (t, C)) (by rfl) (by rfl) (cell_two wx (t, C) _) (fc_one _) (by omega) (by unfold maxLen; omega) (by omega) (by simp <;> omega) (wx.heap.size + 1) (by simp) ?_; intro gg cap w4 hown1 hgrow hat hlt4; have k3 := keep9 (keep9 k1 (World.grownBy_alloc wx (.cells #[.int .i64 t, .int .i64 C] 39) none) zB zL (by simp) (by simp)) hgrow (by simp <;> omega) (by simp <;> omega) (by simp [Value.ownBlock] <;> omega) (by simp [Value.ownBlock] <;> omega)))
      all_goals
        have HFN : Hid (FRow w4 (w.heap.size + 1) (.slice (some ⟨gg, 0, none⟩) (i + 1) cap) ((cpnL s e m r).take (i + 1))) := Lib.hid (by
          rw [← HTK.out]
          unfold FRow
          rw [flat_take, List.length_append, HLEN.out]
          exact hown1)
        have HRN : Hid (Rd w4 (.slice (some ⟨lb, 0, none⟩) n lc) ps) := Lib.hid (Rd.kept (Rd.kept (Rd.kept (by exact HRr.out) (grown_none_of_below hbx) (by simp)) (World.grownBy_alloc wx (.cells #[.int .i64 t, .int .i64 C] 39) none) (by simp)) hgrow (by simp [Value.ownBlock]; omega))
        have HKN : Hid (w4.cell? ⟨w.heap.size, 0, none⟩ = some (.int .i64 s) ∧ w4.cell? ⟨w.heap.size, 1, none⟩ = some (.int .i64 e) ∧ w4.cell? ⟨w.heap.size, 2, none⟩ = some (.int .i64 m) ∧ w4.cell? ⟨w.heap.size, 3, none⟩ = some (.int .i64 r)) := Lib.hid ⟨k3.1, k3.2.1, k3.2.2.1, k3.2.2.2.1⟩
        have hbw := hbr.drew.trans (hbx.mono hsz)
        have hbw2 := (hbw.alloc hbw.size (.cells #[.int .i64 t, .int .i64 C] 39)).grown hgrow (by have := hbw.size; simp <;> omega) (fun j hj => by simp [Value.ownBlock] at hj; omega)
        have hlb4 : lb < w4.heap.size := by have := hgrow.size; simp at this; omega
        have hgg : w.heap.size < gg ∧ gg ≠ lb := by
          rcases hat with h | h
          · simp [Value.ownBlock] at h; omega
          · have := hbw.size; omega
        clear k1 k3 hown1
        go_wp2_with fail
        go_roundw
        case rel => exact ⟨i + 1, gg, cap, by omega, by go_num, rfl, HFN, HRN, HKN, hbw2, hgg.1, hgg.2, hlb4⟩
        case measure => simp [intOf] <;> omega
    · obtain rfl : i = n := by omega
      have htk : (cpnL s e m r).take i = cpnL s e m r := by rw [← HPS.out]; exact List.take_length
      have HF' : Hid (FRow wr (w.heap.size + 1) (.slice (some ⟨ob, 0, none⟩) i oc) (cpnL s e m r)) := Lib.hid (by have := HF.out; rw [htk] at this; exact this)
      clear htk
      obtain ⟨⟨-, d1⟩, -, d2⟩ := HF'.out.at_ HPS.out (i := i - 1) (by omega)
      obtain ⟨A, hA⟩ : ∃ A, A = ((cpnL s e m r).getD (i - 1) f0).2 := ⟨_, rfl⟩
      rw [← hA] at d1
      obtain ⟨A0, A1⟩ : 0 ≤ A ∧ A ≤ 120000000 := by
        obtain ⟨f, t, z, hg, f0', f1', t1', hA'⟩ := HP.out (i - 1) (by rw [← HN.out]; omega)
        rw [hA, HCL.out, map_at _ ps p0 f0 (by rw [← HN.out]; omega), hg]
        exact cpn_bd z m0 m1 r0 r1 f0' f1' t1' hA'
      have HE : Hid ((cpnL s e m r).set (i - 1) (((cpnL s e m r).getD (i - 1) f0).1, A + 10000) = floL s e m r) := Lib.hid (by
        rw [HFL.out, hA]
        unfold faced
        rw [HPS.out])
      have HFS := Lib.hid (FRow.store2 (show FRow wr (w.heap.size + 1) (.slice (some ⟨ob, 0, none⟩) (cpnL s e m r).length oc) (cpnL s e m r) by rw [HPS.out]; exact HF'.out) (i - 1) (by rw [HPS.out]; omega) (A + 10000))
      clear hA
      have w1' : IntKind.i64.wrap ((i : Int) - 1) = (i : Int) - 1 := IntWalk.i64_in _ (by omega)
      have w2' : ((i : Int) - 1).toNat = i - 1 := by omega
      have i2 : (0 : Int) ≤ (i : Int) - 1 := by omega
      have i3 : (i : Int) - 1 < i := by omega
      go_wp2_with fail
      go_ret
      obtain ⟨h1, h2⟩ := HFS.out
      rw [HE.out, HPS.out] at h1
      exact ⟨_, rfl, ⟨h1.lower (Nat.le_succ _), by simp⟩, hbr.grown h2 hbr.size (fun j hj => by injection hj with hj; omega)⟩
theorem floL_len (s e m r : Int) : (floL s e m r).length = (perL s e m r).length := by unfold floL; rw [faced_len, cpnL_len]
end Go.Proofs.YtkdooncfchmkfaaDoor

/- The exact law of payments. -/
namespace Go.Proofs.YtkdooncfchmkfaaDoor
open Go.RowKit
def mkF (i : Nat) : Flo := (1 + 2 * i, 1 + 2 * i + 1)
def MkF (fs qs : List Flo) (i : Nat) : Prop := qs.length = fs.length ∧ ∀ t, t < i → qs.getD t f0 = mkF t
theorem mkF_step {fs qs : List Flo} {i : Nat} (h : MkF fs qs i) (hi : i < fs.length) : MkF fs (qs.set i (mkF i)) (i + 1) := by
  refine ⟨by rw [List.length_set]; exact h.1, fun t ht => ?_⟩
  rw [set_at qs i t _ (by rw [h.1]; exact hi)]
  by_cases c : t = i
  · rw [if_pos c, c]
  · rw [if_neg c]; exact h.2 t (by omega)
def MarkedF (w : World) (B b n cap : Nat) (x : Ending) (w' : World) : Prop := ∃ qs : List Flo, x = .returned (.int .i64 (2 * n + 1)) ∧ qs.length = n ∧ (∀ t, t < n → qs.getD t f0 = mkF t) ∧ FRow w' B (.slice (some ⟨b, 0, none⟩) n cap) qs ∧ w.grownBy w' (some b)
theorem below_of_grownF {w w' : World} {b B : Nat} (hg : w.grownBy w' (some b)) (hB : B ≤ b) (hs : B ≤ w.heap.size) : Below B w w' :=
  ⟨hg.os, hg.tape, hg.output, hg.size, fun k hk => hg.block k (by omega) (fun e => by injection e; omega)⟩
end Go.Proofs.YtkdooncfchmkfaaDoor

/- Totals, on both sides; the exact law. -/
namespace Go.Proofs.YtkdooncfchmkfaaDoor
open Go.RowKit
/-- The sum of the first i amounts. -/
def sumTo (fs : List Flo) : Nat → Int
  | 0 => 0
  | i + 1 => sumTo fs i + (fs.getD i f0).2
noncomputable def totV (s e m r : Int) : Int := if (floL s e m r).length = 0 then -1 else sumTo (floL s e m r) (floL s e m r).length
theorem flo_bd (s e m r : Int) {i : Nat} (hi : i < (floL s e m r).length) : 0 ≤ ((floL s e m r).getD i f0).2 ∧ ((floL s e m r).getD i f0).2 ≤ 130000000 := by
  have hl := floL_len s e m r
  have hz : perL s e m r ≠ [] := fun h => by rw [h] at hl; have hl0 : (floL s e m r).length = 0 := hl; omega
  obtain ⟨⟨m0, m1⟩, ⟨r0, r1⟩, -, hpf⟩ := per_facts hz
  have hc : ∀ j, j < (perL s e m r).length → 0 ≤ ((cpnL s e m r).getD j f0).2 ∧ ((cpnL s e m r).getD j f0).2 ≤ 120000000 := fun j hj => by
    obtain ⟨f, t, z, hg, h0, h1, h2, hA⟩ := hpf j hj
    rw [show cpnL s e m r = (perL s e m r).map fun p => (p.2.1, cpnV m r p.1 p.2.1 p.2.2) from rfl, map_at _ (perL s e m r) p0 f0 hj, hg]
    exact cpn_bd z m0 m1 r0 r1 h0 h1 h2 hA
  unfold floL faced
  have hcl := cpnL_len s e m r
  rw [set_at _ _ _ _ (by omega)]
  by_cases c : i = (cpnL s e m r).length - 1
  · rw [if_pos c]
    have := hc ((cpnL s e m r).length - 1) (by omega)
    dsimp only
    omega
  · rw [if_neg c]
    have := hc i (by omega)
    omega
theorem sumTo_bd {fs : List Flo} {n : Nat} (h : ∀ i, i < n → 0 ≤ (fs.getD i f0).2 ∧ (fs.getD i f0).2 ≤ 130000000) : ∀ i, i ≤ n → 0 ≤ sumTo fs i ∧ sumTo fs i ≤ 130000000 * i
  | 0, _ => by simp [sumTo]
  | i + 1, hi => by
    have := sumTo_bd h i (by omega)
    have := h i (by omega)
    simp only [sumTo]
    omega
end Go.Proofs.YtkdooncfchmkfaaDoor
