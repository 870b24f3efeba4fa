/- Coupons, on both sides. -/
import Derived.Test.YtapalkohfhohhaaDoorBnd
import Derived.Test.YtapalkohfhohhaaDoorRw5
import Derived.Test.YtapalkohfhohhaaDoorRs3
import Derived.Test.YtapalkohfhohhaaDoorSpec2
import Derived.RegionTactic
import Derived.Deep.RegionHeld3
import Derived.Tactics2
import Derived.WalkKit
import Derived.StillTactics
import Derived.Test.YtapalkohfhohhaaDoorMath1
namespace Go.Proofs.YtapalkohfhohhaaDoor
open Go.RowKit
/-- What a whole period pays. -/
def wholeV (m r : Int) : Int := Rt.near (10000 * r * m) 120000
/-- The first day of the period that has all months. -/
noncomputable def fullF (m f t : Int) : Int := if addV t (-m) < 0 then f else addV t (-m)
/-- A coupon. -/
noncomputable def cpnV (m r f t : Int) (z : Bool) : Int := if z = true then wholeV m r else Rt.near (wholeV m r * (t - f)) (t - fullF m f t)
theorem rm_bd {m r : Int} (m0 : 1 ≤ m) (m1 : m ≤ 12) (r0 : 0 ≤ r) (r1 : r ≤ 3000) : 0 ≤ 10000 * r * m ∧ 10000 * r * m ≤ 360000000 := by
  have h : m = 1 ∨ m = 2 ∨ m = 3 ∨ m = 4 ∨ m = 5 ∨ m = 6 ∨ m = 7 ∨ m = 8 ∨ m = 9 ∨ m = 10 ∨ m = 11 ∨ m = 12 := by omega
  rcases h with rfl | rfl | rfl | rfl | rfl | rfl | rfl | rfl | rfl | rfl | rfl | rfl <;> omega
theorem whole_bd {m r : Int} (m0 : 1 ≤ m) (m1 : m ≤ 12) (r0 : 0 ≤ r) (r1 : r ≤ 3000) : 0 ≤ wholeV m r ∧ wholeV m r ≤ 3000 := by
  obtain ⟨a, b⟩ := rm_bd m0 m1 r0 r1
  unfold wholeV Rt.near
  omega
theorem Blk.put {w w' : World} {b : Nat} {t : TypeId} {cs : Array Value} (h : Blk w b t cs) (i : Nat) (v : Value) (h2 : w' = w.setCell ⟨b, i, none⟩ v) : Blk w' b t (cs.setIfInBounds i v) := by
  subst h2
  unfold Blk at h ⊢
  simp only [World.setCell]
  rw [Array.getElem?_modify, if_pos rfl, h]
  rfl
abbrev S7 (n : Nat) (s e m r f t : Int) (w' : World) : Prop := w'.cell? ⟨n, 0, none⟩ = some (.int .i64 s) ∧ w'.cell? ⟨n, 1, none⟩ = some (.int .i64 e) ∧ w'.cell? ⟨n, 2, none⟩ = some (.int .i64 m) ∧ w'.cell? ⟨n, 3, none⟩ = some (.int .i64 r) ∧ w'.cell? ⟨n + 1, 0, none⟩ = some (.int .i64 f) ∧ w'.cell? ⟨n + 1, 1, none⟩ = some (.int .i64 t) ∧ w'.cell? ⟨n + 1, 2, none⟩ = some (.bool false)
theorem seven_new (w : World) (s e m r f t : Int) : S7 w.heap.size s e m r f t ((w.alloc (.cells #[.int .i64 s, .int .i64 e, .int .i64 m, .int .i64 r] 35)).alloc (.cells #[.int .i64 f, .int .i64 t, .bool false] 99)) := by
  obtain ⟨a, b, c, d⟩ := ((Blk.new w #[.int .i64 s, .int .i64 e, .int .i64 m, .int .i64 r] 35).alloc (.cells #[.int .i64 f, .int .i64 t, .bool false] 99)).four
  obtain ⟨⟨x, y, z⟩, -⟩ := (Blk.new (w.alloc (.cells #[.int .i64 s, .int .i64 e, .int .i64 m, .int .i64 r] 35)) #[.int .i64 f, .int .i64 t, .bool false] 99).three
  simp only [World.size_alloc] at x y z
  exact ⟨a, b, c, d, x, y, z⟩
theorem keep7 {n : Nat} {s e m r f t : Int} {W W' : World} (h : S7 n s e m r f t W) (hb : Below W.heap.size W W') (hn : n + 2 ≤ W.heap.size) : S7 n s e m r f t W' :=
  ⟨(hb.cell (p := ⟨n, 0, none⟩) (by show n < _; omega)).trans h.1, (hb.cell (p := ⟨n, 1, none⟩) (by show n < _; omega)).trans h.2.1, (hb.cell (p := ⟨n, 2, none⟩) (by show n < _; omega)).trans h.2.2.1, (hb.cell (p := ⟨n, 3, none⟩) (by show n < _; omega)).trans h.2.2.2.1,
    (hb.cell (p := ⟨n + 1, 0, none⟩) (by show n + 1 < _; omega)).trans h.2.2.2.2.1, (hb.cell (p := ⟨n + 1, 1, none⟩) (by show n + 1 < _; omega)).trans h.2.2.2.2.2.1, (hb.cell (p := ⟨n + 1, 2, none⟩) (by show n + 1 < _; omega)).trans h.2.2.2.2.2.2⟩
end Go.Proofs.YtapalkohfhohhaaDoor
