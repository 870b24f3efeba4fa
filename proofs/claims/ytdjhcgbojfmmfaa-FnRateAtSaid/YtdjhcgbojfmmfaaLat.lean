/- Lattices: the rate of a node, in the program and in the model. -/
import Derived.Test.YtdjhcgbojfmmfaaBtw
import Derived.Test.YtdjhcgbojfmmfaaDrawB
import Derived.Test.YtdjhcgbojfmmfaaChecked
namespace Go.Proofs.Ytdjhcgbojfmmfaa
open Go.RowKit
abbrev latV (s r t : Int) : Value := .agg #[.int .i64 s, .int .i64 r, .int .i64 t]
/-- A valid lattice. -/
def Lt.ok (s r t : Int) : Bool := btw s 1 8 && (btw t 0 150 && btw r (s * t) (3000 - s * t))
/-- A node's rate. -/
def Lt.rate (s r t k u : Int) : Int := if Lt.ok s r t = true ∧ (0 ≤ k ∧ k ≤ s - 1) ∧ 0 ≤ u ∧ u ≤ k then r + t * (2 * u - k) else -1
theorem mul_box {s t : Int} (h0 : 1 ≤ s) (h1 : s ≤ 8) (h2 : 0 ≤ t) (h3 : t ≤ 150) : 0 ≤ s * t ∧ s * t ≤ 1200 := by
  refine ⟨Int.mul_nonneg (by omega) h2, ?_⟩
  have := Int.mul_le_mul h1 h3 h2 (by omega)
  omega
theorem Lt.ok_iff {s r t : Int} : Lt.ok s r t = true ↔ (1 ≤ s ∧ s ≤ 8) ∧ (0 ≤ t ∧ t ≤ 150) ∧ s * t ≤ r ∧ r ≤ 3000 - s * t := by
  unfold Lt.ok
  rw [Bool.and_eq_true, Bool.and_eq_true, btw_iff, btw_iff, btw_iff]
set_option maxHeartbeats 800000 in
theorem lvalid_any (s r t : Int) (w : World) :
    Calls Try.prog 31 #[latV s r t] w fun e w' => e = .returned (.bool (Lt.ok s r t)) ∧ Below w.heap.size w w' := by
  have hbA := (Below.refl w.heap.size w).alloc (Nat.le_refl _) (.cells #[.int .i64 s, .int .i64 r, .int .i64 t] 24)
  cases h1 : btw s 1 8 with
  | false =>
    have E := Lib.hid (show Lt.ok s r t = false by unfold Lt.ok; rw [h1]; rfl)
    go_enter Try.func31, Try.ntmps31
    go_wp2_with fail
    refine (between_any _ _ _ _).mono ?_
    rintro e w1 ⟨rfl, rfl⟩
    rw [h1]
    go_wp2_with fail
    go_ret
    exact ⟨ret_bool E.out.symm, hbA⟩
  | true =>
    cases h2 : btw t 0 150 with
    | false =>
      have E := Lib.hid (show Lt.ok s r t = false by unfold Lt.ok; rw [h1, h2]; rfl)
      go_enter Try.func31, Try.ntmps31
      go_wp2_with fail
      refine (between_any _ _ _ _).mono ?_
      rintro e w1 ⟨rfl, rfl⟩
      rw [h1]
      go_wp2_with fail
      refine (between_any _ _ _ _).mono ?_
      rintro e w1 ⟨rfl, rfl⟩
      rw [h2]
      go_wp2_with fail
      go_ret
      exact ⟨ret_bool E.out.symm, hbA⟩
    | true =>
      have E := Lib.hid (show Lt.ok s r t = btw r (s * t) (3000 - s * t) by unfold Lt.ok; rw [h1, h2]; rfl)
      obtain ⟨s0, s1⟩ := btw_iff.1 h1
      obtain ⟨t0, t1⟩ := btw_iff.1 h2
      obtain ⟨p0, p1⟩ := mul_box s0 s1 t0 t1
      go_enter Try.func31, Try.ntmps31
      go_wp2_with fail
      refine (between_any _ _ _ _).mono ?_
      rintro e w1 ⟨rfl, rfl⟩
      rw [h1]
      go_wp2_with fail
      refine (between_any _ _ _ _).mono ?_
      rintro e w1 ⟨rfl, rfl⟩
      rw [h2]
      have W1 : IntKind.i64.wrap (s * t) = s * t := IntWalk.i64_in _ (by omega)
      have W2 : IntKind.i64.wrap (3000 - s * t) = 3000 - s * t := IntWalk.i64_in _ (by omega)
      go_wp2_with fail
      refine (between_any _ _ _ _).mono ?_
      rintro e w1 ⟨rfl, rfl⟩
      go_wp2_with fail
      go_ret
      exact ⟨ret_bool E.out.symm, hbA⟩
set_option maxHeartbeats 800000 in
theorem slvalid_any (s r t : Int) (w : World) :
    Calls Try.prog 33 #[latV s r t] w fun e w' => e = .returned (.bool (Lt.ok s r t)) ∧ Below w.heap.size w w' := by
  have hbA := (Below.refl w.heap.size w).alloc (Nat.le_refl _) (.cells #[.int .i64 s, .int .i64 r, .int .i64 t] 24)
  cases h1 : btw s 1 8 with
  | false =>
    have E := Lib.hid (show Lt.ok s r t = false by unfold Lt.ok; rw [h1]; rfl)
    go_enter Try.func33, Try.ntmps33
    go_wp2_with fail
    refine (inRange_any _ _ _ _).mono ?_
    rintro e w1 ⟨rfl, rfl⟩
    rw [h1]
    go_wp2_with fail
    go_ret
    exact ⟨ret_bool E.out.symm, hbA⟩
  | true =>
    cases h2 : btw t 0 150 with
    | false =>
      have E := Lib.hid (show Lt.ok s r t = false by unfold Lt.ok; rw [h1, h2]; rfl)
      go_enter Try.func33, Try.ntmps33
      go_wp2_with fail
      refine (inRange_any _ _ _ _).mono ?_
      rintro e w1 ⟨rfl, rfl⟩
      rw [h1]
      go_wp2_with fail
      refine (inRange_any _ _ _ _).mono ?_
      rintro e w1 ⟨rfl, rfl⟩
      rw [h2]
      go_wp2_with fail
      go_ret
      exact ⟨ret_bool E.out.symm, hbA⟩
    | true =>
      have E := Lib.hid (show Lt.ok s r t = btw r (s * t) (3000 - s * t) by unfold Lt.ok; rw [h1, h2]; rfl)
      obtain ⟨s0, s1⟩ := btw_iff.1 h1
      obtain ⟨t0, t1⟩ := btw_iff.1 h2
      obtain ⟨p0, p1⟩ := mul_box s0 s1 t0 t1
      go_enter Try.func33, Try.ntmps33
      go_wp2_with fail
      refine (inRange_any _ _ _ _).mono ?_
      rintro e w1 ⟨rfl, rfl⟩
      rw [h1]
      go_wp2_with fail
      refine (inRange_any _ _ _ _).mono ?_
      rintro e w1 ⟨rfl, rfl⟩
      rw [h2]
      have W1 : IntKind.i64.wrap (s * t) = s * t := IntWalk.i64_in _ (by omega)
      have W2 : IntKind.i64.wrap (3000 - s * t) = 3000 - s * t := IntWalk.i64_in _ (by omega)
      go_wp2_with fail
      refine (inRange_any _ _ _ _).mono ?_
      rintro e w1 ⟨rfl, rfl⟩
      go_wp2_with fail
      go_ret
      exact ⟨ret_bool E.out.symm, hbA⟩
theorem Lt.no1 {s r t k u : Int} (h : Lt.ok s r t = false) : Lt.rate s r t k u = -1 := by unfold Lt.rate; rw [if_neg (by rw [h]; simp)]
theorem Lt.no2 {s r t k u : Int} (h : btw k 0 (s - 1) = false) : Lt.rate s r t k u = -1 := by unfold Lt.rate; rw [btw_iff_f] at h; rw [if_neg (by omega)]
theorem Lt.no3 {s r t k u : Int} (h : btw u 0 k = false) : Lt.rate s r t k u = -1 := by unfold Lt.rate; rw [btw_iff_f] at h; rw [if_neg (by omega)]
theorem Lt.yes {s r t k u : Int} (h : Lt.ok s r t = true) (h1 : btw k 0 (s - 1) = true) (h2 : btw u 0 k = true) : Lt.rate s r t k u = r + t * (2 * u - k) := by
  unfold Lt.rate; rw [btw_iff] at h1 h2; rw [if_pos ⟨h, h1, h2⟩]
theorem move_bd {t d : Int} (t0 : 0 ≤ t) (t1 : t ≤ 150) (d0 : -8 ≤ d) (d1 : d ≤ 8) : -1200 ≤ t * d ∧ t * d ≤ 1200 := by
  have h1 := Int.mul_le_mul_of_nonneg_left d1 t0
  have h2 := Int.mul_le_mul_of_nonneg_left d0 t0
  omega
theorem Blk.lat {w : World} {b : Nat} {s r t : Int} (h : Blk w b 24 #[.int .i64 s, .int .i64 r, .int .i64 t]) : w.cell? ⟨b, 0, none⟩ = some (.int .i64 s) ∧ w.cell? ⟨b, 1, none⟩ = some (.int .i64 r) ∧ w.cell? ⟨b, 2, none⟩ = some (.int .i64 t) := h.three.1
set_option maxHeartbeats 1000000 in
theorem rateAt_any (s r t k u : Int) (w : World) :
    Calls Try.prog 13 #[latV s r t, .int .i64 k, .int .i64 u] w fun e w' => e = .returned (.int .i64 (Lt.rate s r t k u)) ∧ Below w.heap.size w w' := by
  have kA := Blk.new w #[.int .i64 s, .int .i64 r, .int .i64 t] 24
  have hbA := (Below.refl w.heap.size w).alloc (Nat.le_refl _) (.cells #[.int .i64 s, .int .i64 r, .int .i64 t] 24)
  cases h1 : Lt.ok s r t with
  | false =>
    have E := Lib.hid (Lt.no1 (k := k) (u := u) h1)
    go_enter Try.func13, Try.ntmps13
    go_wp2_with fail
    refine (lvalid_any _ _ _ _).mono ?_
    rintro e w1 ⟨rfl, hb1⟩
    rw [h1]
    go_wp2_with fail
    go_ret
    exact ⟨ret_int E.out.symm, hbA.trans (hb1.mono hbA.size)⟩
  | true =>
    obtain ⟨⟨s0, s1⟩, ⟨t0, t1⟩, -, -⟩ := Lt.ok_iff.1 h1
    have Rb := (Lt.ok_iff.1 h1).2.2
    obtain ⟨p0, p1⟩ := mul_box s0 s1 t0 t1
    have r0 : 0 ≤ r ∧ r ≤ 3000 := by omega
    cases h2 : btw k 0 (s - 1) with
    | false =>
      have E := Lib.hid (Lt.no2 (r := r) (t := t) (u := u) h2)
      go_enter Try.func13, Try.ntmps13
      go_wp2_with fail
      refine (lvalid_any _ _ _ _).mono ?_
      rintro e w1 ⟨rfl, hb1⟩
      rw [h1]
      obtain ⟨x0, x1, x2⟩ := (kA.below hb1 kA.lt).lat
      replace hbA := hbA.trans (hb1.mono hbA.size)
      go_wp2_with fail
      refine (between_any _ _ _ _).mono ?_
      rintro e w2 ⟨rfl, rfl⟩
      rw [h2]
      go_wp2_with fail
      go_ret
      exact ⟨ret_int E.out.symm, hbA⟩
    | true =>
      obtain ⟨k0, k1⟩ := btw_iff.1 h2
      cases h3 : btw u 0 k with
      | false =>
        have E := Lib.hid (Lt.no3 (s := s) (r := r) (t := t) h3)
        go_enter Try.func13, Try.ntmps13
        go_wp2_with fail
        refine (lvalid_any _ _ _ _).mono ?_
        rintro e w1 ⟨rfl, hb1⟩
        rw [h1]
        obtain ⟨x0, x1, x2⟩ := (kA.below hb1 kA.lt).lat
        replace hbA := hbA.trans (hb1.mono hbA.size)
        go_wp2_with fail
        refine (between_any _ _ _ _).mono ?_
        rintro e w2 ⟨rfl, rfl⟩
        rw [h2]
        go_wp2_with fail
        refine (between_any _ _ _ _).mono ?_
        rintro e w3 ⟨rfl, rfl⟩
        rw [h3]
        go_wp2_with fail
        go_ret
        exact ⟨ret_int E.out.symm, hbA⟩
      | true =>
        obtain ⟨u0, u1⟩ := btw_iff.1 h3
        have E := Lib.hid (show r + (u - (k - u)) * t = Lt.rate s r t k u by rw [Lt.yes h1 h2 h3, Int.mul_comm, show u - (k - u) = 2 * u - k by omega])
        obtain ⟨m0, m1⟩ := move_bd (d := u - (k - u)) t0 t1 (by omega) (by omega)
        rw [Int.mul_comm] at m0 m1
        have W1 : IntKind.i64.wrap ((u - (k - u)) * t) = (u - (k - u)) * t := IntWalk.i64_in _ (by omega)
        have W2 : IntKind.i64.wrap (r + (u - (k - u)) * t) = r + (u - (k - u)) * t := IntWalk.i64_in _ (by omega)
        go_enter Try.func13, Try.ntmps13
        go_wp2_with fail
        refine (lvalid_any _ _ _ _).mono ?_
        rintro e w1 ⟨rfl, hb1⟩
        rw [h1]
        obtain ⟨x0, x1, x2⟩ := (kA.below hb1 kA.lt).lat
        replace hbA := hbA.trans (hb1.mono hbA.size)
        go_wp2_with fail
        refine (between_any _ _ _ _).mono ?_
        rintro e w2 ⟨rfl, rfl⟩
        rw [h2]
        go_wp2_with fail
        refine (between_any _ _ _ _).mono ?_
        rintro e w3 ⟨rfl, rfl⟩
        rw [h3]
        go_wp2_with fail
        go_ret
        exact ⟨ret_int E.out, hbA⟩
set_option maxHeartbeats 1000000 in
theorem srateAt0_any (s r t k u : Int) (w : World) (h1 : Lt.ok s r t = true) (h2 : btw k 0 (s - 1) = true) (h3 : btw u 0 k = true) :
    Calls Try.prog 35 #[latV s r t, .int .i64 k, .int .i64 u] w fun e w' => e = .returned (.int .i64 (Lt.rate s r t k u)) ∧ Below w.heap.size w w' := by
  have hbA := (Below.refl w.heap.size w).alloc (Nat.le_refl _) (.cells #[.int .i64 s, .int .i64 r, .int .i64 t] 24)
  obtain ⟨⟨s0, s1⟩, ⟨t0, t1⟩, -, -⟩ := Lt.ok_iff.1 h1
  have Rb := (Lt.ok_iff.1 h1).2.2
  obtain ⟨p0, p1⟩ := mul_box s0 s1 t0 t1
  have r0 : 0 ≤ r ∧ r ≤ 3000 := by omega
  obtain ⟨k0, k1⟩ := btw_iff.1 h2
  obtain ⟨u0, u1⟩ := btw_iff.1 h3
  have E := Lib.hid (show r + t * (2 * u - k) = Lt.rate s r t k u by rw [Lt.yes h1 h2 h3])
  obtain ⟨m0, m1⟩ := move_bd (d := 2 * u - k) t0 t1 (by omega) (by omega)
  have W1 : IntKind.i64.wrap (t * (2 * u - k)) = t * (2 * u - k) := IntWalk.i64_in _ (by omega)
  have W2 : IntKind.i64.wrap (r + t * (2 * u - k)) = r + t * (2 * u - k) := IntWalk.i64_in _ (by omega)
  clear h1 h2 h3
  go_enter Try.func35, Try.ntmps35
  go_wp2_with fail
  go_ret
  exact ⟨ret_int E.out, hbA⟩
set_option maxHeartbeats 1000000 in
theorem sRateAt_any (s r t k u : Int) (w : World) :
    Calls Try.prog 14 #[latV s r t, .int .i64 k, .int .i64 u] w fun e w' => e = .returned (.int .i64 (Lt.rate s r t k u)) ∧ Below w.heap.size w w' := by
  have kA := Blk.new w #[.int .i64 s, .int .i64 r, .int .i64 t] 24
  have hbA := (Below.refl w.heap.size w).alloc (Nat.le_refl _) (.cells #[.int .i64 s, .int .i64 r, .int .i64 t] 24)
  cases h1 : Lt.ok s r t with
  | false =>
    have E := Lib.hid (Lt.no1 (k := k) (u := u) h1)
    go_enter Try.func14, Try.ntmps14
    go_wp2_with fail
    refine (slvalid_any _ _ _ _).mono ?_
    rintro e w1 ⟨rfl, hb1⟩
    rw [h1]
    go_wp2_with fail
    go_ret
    exact ⟨ret_int E.out.symm, hbA.trans (hb1.mono hbA.size)⟩
  | true =>
    obtain ⟨⟨s0, s1⟩, ⟨t0, t1⟩, -, -⟩ := Lt.ok_iff.1 h1
    cases h2 : btw k 0 (s - 1) with
    | false =>
      have E := Lib.hid (Lt.no2 (r := r) (t := t) (u := u) h2)
      go_enter Try.func14, Try.ntmps14
      go_wp2_with fail
      refine (slvalid_any _ _ _ _).mono ?_
      rintro e w1 ⟨rfl, hb1⟩
      rw [h1]
      obtain ⟨x0, x1, x2⟩ := (kA.below hb1 kA.lt).lat
      replace hbA := hbA.trans (hb1.mono hbA.size)
      go_wp2_with fail
      refine (inRange_any _ _ _ _).mono ?_
      rintro e w2 ⟨rfl, rfl⟩
      rw [h2]
      go_wp2_with fail
      go_ret
      exact ⟨ret_int E.out.symm, hbA⟩
    | true =>
      cases h3 : btw u 0 k with
      | false =>
        have E := Lib.hid (Lt.no3 (s := s) (r := r) (t := t) h3)
        go_enter Try.func14, Try.ntmps14
        go_wp2_with fail
        refine (slvalid_any _ _ _ _).mono ?_
        rintro e w1 ⟨rfl, hb1⟩
        rw [h1]
        obtain ⟨x0, x1, x2⟩ := (kA.below hb1 kA.lt).lat
        replace hbA := hbA.trans (hb1.mono hbA.size)
        go_wp2_with fail
        refine (inRange_any _ _ _ _).mono ?_
        rintro e w2 ⟨rfl, rfl⟩
        rw [h2]
        go_wp2_with fail
        refine (inRange_any _ _ _ _).mono ?_
        rintro e w3 ⟨rfl, rfl⟩
        rw [h3]
        go_wp2_with fail
        go_ret
        exact ⟨ret_int E.out.symm, hbA⟩
      | true =>
        go_enter Try.func14, Try.ntmps14
        go_wp2_with fail
        refine (slvalid_any _ _ _ _).mono ?_
        rintro e w1 ⟨rfl, hb1⟩
        rw [h1]
        have kA' := kA.below hb1 kA.lt
        obtain ⟨x0, x1, x2⟩ := kA'.lat
        replace hbA := hbA.trans (hb1.mono hbA.size)
        go_wp2_with fail
        refine (inRange_any _ _ _ _).mono ?_
        rintro e w2 ⟨rfl, rfl⟩
        rw [h2]
        go_wp2_with fail
        refine (inRange_any _ _ _ _).mono ?_
        rintro e w3 ⟨rfl, rfl⟩
        rw [h3]
        go_wp2_with fail
        refine (srateAt0_any _ _ _ _ _ _ h1 h2 h3).mono ?_
        rintro e w4 ⟨rfl, hb4⟩
        go_wp2_with fail
        go_ret
        exact ⟨rfl, hbA.trans (hb4.mono hbA.size)⟩
end Go.Proofs.Ytdjhcgbojfmmfaa
