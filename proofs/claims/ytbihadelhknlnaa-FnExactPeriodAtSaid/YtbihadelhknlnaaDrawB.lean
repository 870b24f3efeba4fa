/- Days drawn out of a law's input. -/
import Derived.Test.YtbihadelhknlnaaDrawA
namespace Go.Proofs.Ytbihadelhknlnaa
open Go.RowKit
set_option maxHeartbeats 400000 in
theorem someDay_any (w : World) (g p : Nat) (h : Rdr w g p) (hp : p ≤ 900000) :
    Calls Try.prog 26 #[.pointer (some ⟨g, 0, none⟩)] w (Drawn 0 36524 2 w g p) := by
  have hgl := h.lt
  go_enter Try.func26, Try.ntmps26
  go_wp2_with fail
  refine (pick_any _ _ _ _ h (by omega) (by omega) (by omega)).mono ?_
  rintro e w1 ⟨v, rfl, ⟨hv, _⟩, hr, hg⟩
  obtain ⟨v0, v1⟩ := hv (by omega)
  by_cases c0 : v = 0
  · subst c0
    go_wp2_with fail
    refine (one_any 0 36524 _ g (p + 1) w1.heap.size _ _ (hr.alloc _) (by omega) (heap_alloc_new w1 _) (by have := hr.lt; omega) (by decide) (by decide) (by decide) 8 8 (by rfl)).mono ?_
    rintro e w2 ⟨v, rfl, hv, hr2, hg2⟩
    go_wp2_with fail
    go_ret
    exact ⟨v, rfl, hv, hr2, grown_trans (grown_alloc hg _) hg2⟩
  · by_cases c1 : v = 1
    · subst c1
      go_wp2_with fail
      refine (pick_any _ _ _ _ hr (by omega) (by omega) (by omega)).mono ?_
      rintro e w2 ⟨v, rfl, ⟨hv, _⟩, hr2, hg2⟩
      obtain ⟨v0, v1⟩ := hv (by omega)
      go_wp2_with fail
      go_ret
      exact ⟨_, rfl, ⟨by omega, by omega⟩, hr2, grown_trans hg hg2⟩
    · have e0 : (v == 0) = false := by simp [c0]
      have e1 : (v == 1) = false := by simp [c1]
      go_wp2_with fail
      refine (pick_any _ _ _ _ hr (by omega) (by omega) (by omega)).mono ?_
      rintro e w2 ⟨v, rfl, ⟨hv, _⟩, hr2, hg2⟩
      obtain ⟨v0, v1⟩ := hv (by omega)
      go_wp2_with fail
      go_ret
      exact ⟨_, rfl, ⟨by omega, by omega⟩, hr2, grown_trans hg hg2⟩
set_option maxHeartbeats 400000 in
theorem anyDay_any (w : World) (g p : Nat) (h : Rdr w g p) (hp : p ≤ 800000) :
    Calls Try.prog 20 #[.pointer (some ⟨g, 0, none⟩)] w (Drawn (-1) 36525 3 w g p) := by
  have hgl := h.lt
  go_enter Try.func20, Try.ntmps20
  go_wp2_with fail
  refine (pick_any _ _ _ _ h (by omega) (by omega) (by omega)).mono ?_
  rintro e w1 ⟨v, rfl, ⟨hv, _⟩, hr, hg⟩
  obtain ⟨v0, v1⟩ := hv (by omega)
  by_cases c0 : v = 0
  · subst c0
    go_wp2_with fail
    refine (one_any (-1) 36525 _ g (p + 1) w1.heap.size _ _ (hr.alloc _) (by omega) (heap_alloc_new w1 _) (by have := hr.lt; omega) (by decide) (by decide) (by decide) 4 4 (by rfl)).mono ?_
    rintro e w2 ⟨v, rfl, hv, hr2, hg2⟩
    go_wp2_with fail
    go_ret
    exact ⟨v, rfl, hv, hr2.more (by omega), grown_trans (grown_alloc hg _) hg2⟩
  · have e0 : (v == 0) = false := by simp [c0]
    go_wp2_with fail
    refine (someDay_any _ _ _ hr (by omega)).mono ?_
    rintro e w2 ⟨v, rfl, hv, hr2, hg2⟩
    go_wp2_with fail
    go_ret
    exact ⟨v, rfl, ⟨by omega, by omega⟩, hr2, grown_trans hg hg2⟩
/-- A block of cells that nobody has frozen. -/
def Blk (w : World) (b : Nat) (t : TypeId) (cs : Array Value) : Prop := w.heap[b]? = some (.cells cs t (0, 0))
theorem Blk.lt {w : World} {b : Nat} {t : TypeId} {cs : Array Value} (h : Blk w b t cs) : b < w.heap.size := by
  rcases Nat.lt_or_ge b w.heap.size with hlt | hge
  · exact hlt
  · unfold Blk at h; rw [Array.getElem?_eq_none hge] at h; cases h
theorem Blk.grown {w w' : World} {b g : Nat} {t : TypeId} {cs : Array Value} (h : Blk w b t cs) (hg : w.grownBy w' (some g)) (hne : b ≠ g) : Blk w' b t cs :=
  (hg.block b h.lt (fun e => hne (by injection e))).trans h
theorem Blk.alloc {w : World} {b : Nat} {t : TypeId} {cs : Array Value} (h : Blk w b t cs) (o : Obj) : Blk (w.alloc o) b t cs := (Below.heap_alloc w o b h.lt).trans h
theorem Blk.below {w w' : World} {b B : Nat} {t : TypeId} {cs : Array Value} (h : Blk w b t cs) (hb : Below B w w') (hB : b < B) : Blk w' b t cs := (hb.block b hB).trans h
theorem Blk.new (w : World) (cs : Array Value) (t : TypeId) : Blk (w.alloc (.cells cs t)) w.heap.size t cs := heap_alloc_new w _
theorem Blk.three {w : World} {b : Nat} {t : TypeId} {x y z : Value} (h : Blk w b t #[x, y, z]) :
    (w.cell? ⟨b, 0, none⟩ = some x ∧ w.cell? ⟨b, 1, none⟩ = some y ∧ w.cell? ⟨b, 2, none⟩ = some z) ∧ (w.frozen? ⟨b, 0, none⟩ = false ∧ w.frozen? ⟨b, 1, none⟩ = false ∧ w.frozen? ⟨b, 2, none⟩ = false) := by
  unfold Blk at h
  simp [World.cell?, World.frozen?, h]
theorem grown_setCell {a w : World} {g : Nat} (h : a.grownBy w (some g)) {p : Addr} (hp : a.heap.size ≤ p.block) (u : Value) : a.grownBy (w.setCell p u) (some g) :=
  ⟨h.os, h.tape, h.output, by simpa [World.setCell] using h.size, fun i hi hne => (Below.heap_setCell w p u i (by omega)).trans (h.block i hi hne)⟩
theorem below_grown {a b c : World} {g : Nat} (h : Below a.heap.size a b) (k : b.grownBy c (some g)) (hg : a.heap.size ≤ g) : Below a.heap.size a c :=
  h.grown k h.size (fun j hj => by injection hj with hj; omega)
/-- A number drawn out of a law's input. -/
def Drawn1 (lo hi : Int) (w : World) (e : Ending) (w' : World) : Prop :=
  ∃ x : Int, e = .returned (.int .i64 x) ∧ (lo ≤ x ∧ x ≤ hi) ∧ Below w.heap.size w w'
end Go.Proofs.Ytbihadelhknlnaa
