/- Discounts: what the laws say, as mathematics. -/
import Derived.Test.YtfelledogdplaaaDoorDcE
namespace Go.Proofs.YtfelledogdplaaaDoor
open Go.RowKit
theorem Dc.val_is {y p d : Int} {m : Nat} (h : Dc.ok y p d m = true) : Dc.val y p d m = (Dc.dl (Dc.hi y p d m), Dc.dh (Dc.lo y p d m)) := by unfold Dc.val; rw [if_pos h]; rfl
theorem Dc.val_no {y p d n : Int} (h : Dc.ok y p d n = false) : Dc.val y p d n = (0, 0) := by unfold Dc.val; rw [if_neg (by rw [h]; simp)]
theorem Dc.val_bd {y p d n : Int} (h : Dc.ok y p d n = true) : 0 < (Dc.val y p d n).1 ∧ (Dc.val y p d n).1 ≤ (Dc.val y p d n).2 ∧ (Dc.val y p d n).2 ≤ 1000000 := by
  obtain ⟨-, -, -, n0, n1⟩ := Dc.ok_iff.1 h
  obtain ⟨m, rfl⟩ : ∃ m : Nat, n = m := ⟨n.toNat, by omega⟩
  rw [Dc.val_is h]
  obtain ⟨b0, b1, b2⟩ := Dc.bd40 h (i := m) (by omega)
  have := Dc.d_bd b0 b1 b2
  simp only
  omega
theorem Dc.val_up {y p d n : Int} (h : Dc.ok y p d n = true) (h1 : n < 40) : (Dc.val y p d (n + 1)).1 ≤ (Dc.val y p d n).1 ∧ (Dc.val y p d (n + 1)).2 ≤ (Dc.val y p d n).2 := by
  obtain ⟨⟨y0, y1⟩, ⟨d0, d1⟩, ⟨p0, p1⟩, n0, -⟩ := Dc.ok_iff.1 h
  obtain ⟨m, rfl⟩ : ∃ m : Nat, n = m := ⟨n.toNat, by omega⟩
  have h2 : Dc.ok y p d ((m + 1 : Nat) : Int) = true := Dc.ok_iff.2 ⟨⟨y0, y1⟩, ⟨d0, d1⟩, ⟨p0, p1⟩, by omega, by omega⟩
  rw [show (m : Int) + 1 = ((m + 1 : Nat) : Int) by omega, Dc.val_is h2, Dc.val_is h]
  obtain ⟨b0, b1, b2⟩ := Dc.bd40 h (i := m) (by omega)
  obtain ⟨c0, c1, c2⟩ := Dc.bd40 h (i := m + 1) (by omega)
  obtain ⟨u0, u1⟩ := Dc.up y0 y1 d0 p0 p1 m
  exact ⟨Dc.dl_mono (by omega) u1, Dc.dh_mono (by omega) u0⟩
theorem Dc.val_mono {y z p q d n : Int} (h : Dc.ok y q d n = true) (h2 : Dc.ok z p d n = true) (hyz : y ≤ z) (hpq : p ≤ q) : (Dc.val z p d n).1 ≤ (Dc.val y q d n).1 ∧ (Dc.val z p d n).2 ≤ (Dc.val y q d n).2 := by
  obtain ⟨⟨y0, y1⟩, ⟨d0, d1⟩, ⟨q0, q1⟩, n0, n1⟩ := Dc.ok_iff.1 h
  obtain ⟨⟨z0, z1⟩, -, ⟨p0, p1⟩, -, -⟩ := Dc.ok_iff.1 h2
  obtain ⟨m, rfl⟩ : ∃ m : Nat, n = m := ⟨n.toNat, by omega⟩
  rw [Dc.val_is h, Dc.val_is h2]
  obtain ⟨b0, b1, b2⟩ := Dc.bd40 h (i := m) (by omega)
  obtain ⟨u0, u1⟩ := Dc.mono y0 z1 d0 p0 q1 hyz hpq m
  exact ⟨Dc.dl_mono (by omega) u1, Dc.dh_mono (by omega) u0⟩
theorem Dc.val_zero {p d n : Int} (h : Dc.ok 0 p d n = true) : Dc.val 0 p d n = (1000000, 1000000) := by
  obtain ⟨-, -, -, n0, n1⟩ := Dc.ok_iff.1 h
  obtain ⟨m, rfl⟩ : ∃ m : Nat, n = m := ⟨n.toNat, by omega⟩
  rw [Dc.val_is h, (Dc.still m).1, (Dc.still m).2]
  rfl
theorem Dc.val_end {y d n : Int} (h : Dc.ok y d d n = true) (h2 : Dc.ok y 1 1 n = true) : Dc.val y d d n = Dc.val y 1 1 n := by
  obtain ⟨-, -, -, n0, n1⟩ := Dc.ok_iff.1 h
  obtain ⟨m, rfl⟩ : ∃ m : Nat, n = m := ⟨n.toNat, by omega⟩
  rw [Dc.val_is h, Dc.val_is h2, (Dc.end_ (y := y) (d := d) (e := 1) m).1, (Dc.end_ (y := y) (d := d) (e := 1) m).2]
end Go.Proofs.YtfelledogdplaaaDoor
