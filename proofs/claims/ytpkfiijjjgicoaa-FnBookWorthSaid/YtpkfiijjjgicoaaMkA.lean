/- Positions: which are valid, their values and gains, on both sides. -/
import Derived.Test.YtpkfiijjjgicoaaPs
import Derived.Test.YtpkfiijjjgicoaaKp
import Derived.Outline
namespace Go.Proofs.Ytpkfiijjjgicoaa
open Go.RowKit
abbrev mkA (p : Tri) : Array Value := #[.int .i64 p.1, .int .i64 p.2.1, .int .i64 p.2.2]
def Mk.one (p : Tri) : Bool := btw p.1 (-9999) 9999 && (btw p.2.1 0 50000 && btw p.2.2 0 50000)
theorem Mk.one_iff {m c a : Int} : Mk.one (m, c, a) = true ↔ (-9999 ≤ m ∧ m ≤ 9999) ∧ (0 ≤ c ∧ c ≤ 50000) ∧ (0 ≤ a ∧ a ≤ 50000) := by
  unfold Mk.one
  rw [Bool.and_eq_true, Bool.and_eq_true, btw_iff, btw_iff, btw_iff]
theorem Mk.f0 {m c a : Int} (h : btw m (-9999) 9999 = false) : Mk.one (m, c, a) = false := by unfold Mk.one; simp only [h]; rfl
theorem Mk.f1 {m c a : Int} (h : btw m (-9999) 9999 = true) (h1 : btw c 0 50000 = false) : Mk.one (m, c, a) = false := by unfold Mk.one; simp only [h, h1]; rfl
theorem Mk.f2 {m c a : Int} (h : btw m (-9999) 9999 = true) (h1 : btw c 0 50000 = true) : Mk.one (m, c, a) = btw a 0 50000 := by unfold Mk.one; simp only [h, h1]; rfl
theorem mulN {m s : Int} {A B : Nat} (hm : m.natAbs ≤ A) (hs : s.natAbs ≤ B) : (m * s).natAbs ≤ A * B := by
  rw [Int.natAbs_mul]; exact Nat.mul_le_mul hm hs
/-- What a position is worth. -/
def Mk.wor (p : Tri) : Int := p.1 * (p.2.1 + p.2.2)
theorem Mk.wor_bd {m c a : Int} (h : Mk.one (m, c, a) = true) : -999900000 ≤ m * (c + a) ∧ m * (c + a) ≤ 999900000 := by
  obtain ⟨⟨m0, m1⟩, ⟨c0, c1⟩, a0, a1⟩ := Mk.one_iff.1 h
  have := mulN (m := m) (s := c + a) (A := 9999) (B := 100000) (by omega) (by omega)
  omega
set_option maxHeartbeats 400000 in
theorem vprice_any (n : Int) (w : World) : Calls Try.prog 65 #[.int .i64 n] w fun e w' => e = .returned (.bool (btw n 0 50000)) ∧ w = w' := by
  go_enter Try.func65, Try.ntmps65
  go_wp2_with fail
  refine (between_any _ _ _ _).mono ?_
  rintro e w' ⟨rfl, rfl⟩
  go_wp2_with fail
  go_ret
  exact ⟨rfl, rfl⟩
set_option maxHeartbeats 800000 in
theorem mvalid_any (p : Tri) (w : World) :
    Calls Try.prog 41 #[triV p] w fun e w' => e = .returned (.bool (Mk.one p)) ∧ Below w.heap.size w w' := by
  obtain ⟨m, c, a⟩ := p
  have hbA := (Below.refl w.heap.size w).alloc (Nat.le_refl _) (.cells #[.int .i64 m, .int .i64 c, .int .i64 a] 33)
  cases h0 : btw m (-9999) 9999 with
  | false =>
    have E := Lib.hid (Mk.f0 (c := c) (a := a) h0)
    go_enter Try.func41, Try.ntmps41
    go_wp2_with fail
    refine (between_any _ _ _ _).mono ?_
    rintro e w1 ⟨rfl, rfl⟩
    rw [h0]
    go_wp2_with fail
    go_ret
    exact ⟨ret_bool E.out.symm, hbA⟩
  | true =>
    cases h1 : btw c 0 50000 with
    | false =>
      have E := Lib.hid (Mk.f1 (a := a) h0 h1)
      go_enter Try.func41, Try.ntmps41
      go_wp2_with fail
      refine (between_any _ _ _ _).mono ?_
      rintro e w1 ⟨rfl, rfl⟩
      rw [h0]
      go_wp2_with fail
      refine (vprice_any _ _).mono ?_
      rintro e w1 ⟨rfl, rfl⟩
      rw [h1]
      go_wp2_with fail
      go_ret
      exact ⟨ret_bool E.out.symm, hbA⟩
    | true =>
      have E := Lib.hid (Mk.f2 (a := a) h0 h1)
      go_enter Try.func41, Try.ntmps41
      go_wp2_with fail
      refine (between_any _ _ _ _).mono ?_
      rintro e w1 ⟨rfl, rfl⟩
      rw [h0]
      go_wp2_with fail
      refine (vprice_any _ _).mono ?_
      rintro e w1 ⟨rfl, rfl⟩
      rw [h1]
      go_wp2_with fail
      refine (vprice_any _ _).mono ?_
      rintro e w1 ⟨rfl, rfl⟩
      go_wp2_with fail
      go_ret
      exact ⟨ret_bool E.out.symm, hbA⟩
set_option maxHeartbeats 800000 in
theorem smvalid_any (p : Tri) (w : World) :
    Calls Try.prog 67 #[triV p] w fun e w' => e = .returned (.bool (Mk.one p)) ∧ Below w.heap.size w w' := by
  obtain ⟨m, c, a⟩ := p
  have hbA := (Below.refl w.heap.size w).alloc (Nat.le_refl _) (.cells #[.int .i64 m, .int .i64 c, .int .i64 a] 33)
  cases h0 : btw m (-9999) 9999 with
  | false =>
    have E := Lib.hid (Mk.f0 (c := c) (a := a) h0)
    go_enter Try.func67, Try.ntmps67
    go_wp2_with fail
    refine (inRange_any _ _ _ _).mono ?_
    rintro e w1 ⟨rfl, rfl⟩
    rw [h0]
    go_wp2_with fail
    go_ret
    exact ⟨ret_bool E.out.symm, hbA⟩
  | true =>
    cases h1 : btw c 0 50000 with
    | false =>
      have E := Lib.hid (Mk.f1 (a := a) h0 h1)
      go_enter Try.func67, Try.ntmps67
      go_wp2_with fail
      refine (inRange_any _ _ _ _).mono ?_
      rintro e w1 ⟨rfl, rfl⟩
      rw [h0]
      go_wp2_with fail
      refine (inRange_any _ _ _ _).mono ?_
      rintro e w1 ⟨rfl, rfl⟩
      rw [h1]
      go_wp2_with fail
      go_ret
      exact ⟨ret_bool E.out.symm, hbA⟩
    | true =>
      have E := Lib.hid (Mk.f2 (a := a) h0 h1)
      go_enter Try.func67, Try.ntmps67
      go_wp2_with fail
      refine (inRange_any _ _ _ _).mono ?_
      rintro e w1 ⟨rfl, rfl⟩
      rw [h0]
      go_wp2_with fail
      refine (inRange_any _ _ _ _).mono ?_
      rintro e w1 ⟨rfl, rfl⟩
      rw [h1]
      go_wp2_with fail
      refine (inRange_any _ _ _ _).mono ?_
      rintro e w1 ⟨rfl, rfl⟩
      go_wp2_with fail
      go_ret
      exact ⟨ret_bool E.out.symm, hbA⟩
end Go.Proofs.Ytpkfiijjjgicoaa
