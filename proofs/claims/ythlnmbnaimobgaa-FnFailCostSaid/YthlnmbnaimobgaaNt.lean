/- Notes: which are valid, the costs of late settlement, on both sides. -/
import Derived.Test.YthlnmbnaimobgaaRep
import Derived.Test.YthlnmbnaimobgaaPs
import Derived.Test.YthlnmbnaimobgaaAvB
namespace Go.Proofs.Ythlnmbnaimobgaa
open Go.RowKit
def Nt.one (p : Tri) : Bool := btw p.1 0 36524 && (btw p.2.1 1 9999 && btw p.2.2 1 50000)
abbrev triA (p : Tri) : Array Value := #[.int .i64 p.1, .int .i64 p.2.1, .int .i64 p.2.2]
theorem Nt.one_iff {d m c : Int} : Nt.one (d, m, c) = true ↔ (0 ≤ d ∧ d ≤ 36524) ∧ (1 ≤ m ∧ m ≤ 9999) ∧ (1 ≤ c ∧ c ≤ 50000) := by
  unfold Nt.one
  rw [Bool.and_eq_true, Bool.and_eq_true, btw_iff, btw_iff, btw_iff]
set_option maxHeartbeats 800000 in
theorem nvalid_any (p : Tri) (w : World) :
    Calls Try.prog 68 #[triV p] w fun e w' => e = .returned (.bool (Nt.one p)) ∧ Below w.heap.size w w' := by
  obtain ⟨f, t, a⟩ := p
  have hbA := (Below.refl w.heap.size w).alloc (Nat.le_refl _) (.cells #[.int .i64 f, .int .i64 t, .int .i64 a] 30)
  cases h0 : btw f 0 36524 with
  | false =>
    have E := Lib.hid (show Nt.one (f, t, a) = false by unfold Nt.one; simp only [h0]; rfl)
    go_enter Try.func68, Try.ntmps68
    go_wp2_with fail
    refine (vday_any _ _).mono ?_
    rintro e w1 ⟨rfl, rfl⟩
    rw [h0]
    go_wp2_with fail
    go_ret
    exact ⟨ret_bool E.out.symm, hbA⟩
  | true =>
    cases h1 : btw t 1 9999 with
    | false =>
      have E := Lib.hid (show Nt.one (f, t, a) = false by unfold Nt.one; simp only [h0, h1]; rfl)
      go_enter Try.func68, Try.ntmps68
      go_wp2_with fail
      refine (vday_any _ _).mono ?_
      rintro e w1 ⟨rfl, rfl⟩
      rw [h0]
      go_wp2_with fail
      refine (between_any _ _ _ _).mono ?_
      rintro e w1 ⟨rfl, rfl⟩
      rw [h1]
      go_wp2_with fail
      go_ret
      exact ⟨ret_bool E.out.symm, hbA⟩
    | true =>
      have E := Lib.hid (show Nt.one (f, t, a) = btw a 1 50000 by unfold Nt.one; simp only [h0, h1]; rfl)
      go_enter Try.func68, Try.ntmps68
      go_wp2_with fail
      refine (vday_any _ _).mono ?_
      rintro e w1 ⟨rfl, rfl⟩
      rw [h0]
      go_wp2_with fail
      refine (between_any _ _ _ _).mono ?_
      rintro e w1 ⟨rfl, rfl⟩
      rw [h1]
      go_wp2_with fail
      refine (posPrice_any _ _).mono ?_
      rintro e w1 ⟨rfl, rfl⟩
      go_wp2_with fail
      go_ret
      exact ⟨ret_bool E.out.symm, hbA⟩
def Nt.ok (ps : List Tri) : Bool := btw ps.length 0 10 && ps.all Nt.one
theorem Nt.ok_one (p : Tri) : Nt.ok [p] = Nt.one p := by
  unfold Nt.ok
  rw [btw_t (by simp) (by simp)]
  simp
set_option maxHeartbeats 2000000 in
theorem svnotes_any (w : World) (v : Value) (ps : List Tri) (hv : R3o w v ps) (hm : ps.length ≤ 9223372036854775807) :
    Calls Try.prog 62 #[v] w fun x w' => x = .returned (.bool (Nt.ok ps)) ∧ Below w.heap.size w w' := by
  obtain ⟨⟨a, c, rfl⟩, h1⟩ := hv
  have H1 := Lib.hid h1; clear h1
  have HO := Lib.hid (show Nt.ok ps = (btw ps.length 0 10 && ps.all Nt.one) from rfl)
  obtain ⟨n, hn⟩ : ∃ n, n = ps.length := ⟨_, rfl⟩
  rw [← hn] at hm HO ⊢
  have HN := Lib.hid hn; clear hn
  go_enter Try.func62, Try.ntmps62
  go_wp2_with fail
  go_loopw [3] (fun x wr => ∃ i : Nat, i ≤ n ∧ x = .int .i64 i ∧ Below w.heap.size w wr ∧ Hid (∀ j, j < i → Nt.one (ps.getD j t0) = true)) (fun x _ => n - (intOf x).toNat)
  case atStart => exact ⟨0, Nat.zero_le _, rfl, Below.refl _ _, Lib.hid (fun j hj => by omega)⟩
  case round =>
    obtain ⟨i, hi, rfl, hb, HH⟩ := hrel
    by_cases hlt : i < n
    · obtain ⟨b, off, d', e, hbl, hc⟩ := H1.out (by rw [← HN.out]; omega)
      rw [← HN.out] at e
      simp only [Value.slice.injEq, true_and] at e
      obtain ⟨rfl, rfl⟩ := e
      obtain ⟨c0, c1, c2⟩ := hc i (by rw [← HN.out]; exact hlt)
      replace c0 := (hb.cell (p := ⟨b, off + i * 3, none⟩) hbl).trans c0
      replace c1 := (hb.cell (p := ⟨b, off + i * 3 + 1, none⟩) hbl).trans c1
      replace c2 := (hb.cell (p := ⟨b, off + i * 3 + 2, none⟩) hbl).trans c2
      clear hc
      have HB := Lib.hid (fun (h : Nt.one (ps.getD i t0) = false) => allB_bad Nt.one t0 (by rw [← HN.out]; exact hlt) h)
      have HG : Hid (Nt.one (ps.getD i t0) = true → ∀ j, j < i + 1 → Nt.one (ps.getD j t0) = true) := Lib.hid (fun h j hj => by
        rcases Nat.lt_or_ge j i with q | q
        · exact HH.out j q
        · obtain rfl : j = i := by omega
          exact h)
      generalize ps.getD i t0 = p at c0 c1 c2 HB HG
      obtain ⟨f, t, u⟩ := p
      simp only at c0 c1 c2
      have HA := Lib.hid (hb.alloc hb.size (.cells #[.int .i64 f, .int .i64 t, .int .i64 u] 30))
      cases h0 : btw f 0 36524 with
      | false =>
        have E := Lib.hid (HB.out (by unfold Nt.one; simp only [h0]; rfl))
        go_wp2_with fail
        refine (inRange_any _ _ _ _).mono ?_
        rintro e w1 ⟨rfl, rfl⟩
        rw [h0]
        go_wp2_with fail
        go_ret
        exact ⟨ret_bool (by rw [HO.out, E.out]; simp), HA.out⟩
      | true =>
        cases h1 : btw t 1 9999 with
        | false =>
          have E := Lib.hid (HB.out (by unfold Nt.one; simp only [h0, h1]; rfl))
          go_wp2_with fail
          refine (inRange_any _ _ _ _).mono ?_
          rintro e w1 ⟨rfl, rfl⟩
          rw [h0]
          go_wp2_with fail
          refine (inRange_any _ _ _ _).mono ?_
          rintro e w1 ⟨rfl, rfl⟩
          rw [h1]
          go_wp2_with fail
          go_ret
          exact ⟨ret_bool (by rw [HO.out, E.out]; simp), HA.out⟩
        | true =>
          cases h2 : btw u 1 50000 with
          | false =>
            have E := Lib.hid (HB.out (by unfold Nt.one; simp only [h0, h1, h2]; rfl))
            go_wp2_with fail
            refine (inRange_any _ _ _ _).mono ?_
            rintro e w1 ⟨rfl, rfl⟩
            rw [h0]
            go_wp2_with fail
            refine (inRange_any _ _ _ _).mono ?_
            rintro e w1 ⟨rfl, rfl⟩
            rw [h1]
            go_wp2_with fail
            refine (inRange_any _ _ _ _).mono ?_
            rintro e w1 ⟨rfl, rfl⟩
            rw [h2]
            go_wp2_with fail
            go_ret
            exact ⟨ret_bool (by rw [HO.out, E.out]; simp), HA.out⟩
          | true =>
            have E := Lib.hid (HG.out (by unfold Nt.one; simp only [h0, h1, h2]; rfl))
            go_wp2_with fail
            refine (inRange_any _ _ _ _).mono ?_
            rintro e w1 ⟨rfl, rfl⟩
            rw [h0]
            go_wp2_with fail
            refine (inRange_any _ _ _ _).mono ?_
            rintro e w1 ⟨rfl, rfl⟩
            rw [h1]
            go_wp2_with fail
            refine (inRange_any _ _ _ _).mono ?_
            rintro e w1 ⟨rfl, rfl⟩
            rw [h2]
            go_wp2_with fail
            go_roundw
            case rel => exact ⟨i + 1, by omega, by go_num, HA.out, E⟩
            case measure => simp [intOf] <;> omega
    · obtain rfl : i = n := by omega
      have HF := Lib.hid (allB_take Nt.one t0 HH.out HN.out)
      by_cases h10 : i ≤ 10
      · have q : (i : Int) ≤ 10 := by omega
        go_wp2_with fail
        go_ret
        exact ⟨ret_bool (by rw [HO.out, HF.out, btw_t (by omega) q]; rfl), hb⟩
      · have q : ¬ (i : Int) ≤ 10 := by omega
        go_wp2_with fail
        go_ret
        exact ⟨ret_bool (by rw [HO.out, HF.out, btw_f (.inr (by omega))]; rfl), hb⟩
/-- The cost of a late settlement. -/
def Nt.cost (p : Tri) (d r : Int) : Int := if Nt.one p = true ∧ btw d 0 30 = true ∧ btw r 0 3000 = true then -((-(p.2.1 * p.2.2 * d * r)) / 3600000) else -1
theorem Nt.cost_bd {m c d r : Int} (m0 : 1 ≤ m) (m1 : m ≤ 9999) (c0 : 1 ≤ c) (c1 : c ≤ 50000) (d0 : 0 ≤ d) (d1 : d ≤ 30) (r0 : 0 ≤ r) (r1 : r ≤ 3000) :
    (1 ≤ m * c ∧ m * c ≤ 499950000) ∧ (0 ≤ m * c * d ∧ m * c * d ≤ 14998500000) ∧ (0 ≤ m * c * d * r ∧ m * c * d * r ≤ 44995500000000) := by
  have a0 : 1 * 1 ≤ m * c := Int.mul_le_mul m0 c0 (by omega) (by omega)
  have a1 : m * c ≤ 9999 * 50000 := Int.mul_le_mul m1 c1 (by omega) (by omega)
  have b0 : 0 ≤ m * c * d := Int.mul_nonneg (by omega) d0
  have b1 : m * c * d ≤ 499950000 * 30 := Int.mul_le_mul (by omega) d1 d0 (by omega)
  have e0 : 0 ≤ m * c * d * r := Int.mul_nonneg b0 r0
  have e1 : m * c * d * r ≤ 14998500000 * 3000 := Int.mul_le_mul (by omega) r1 r0 (by omega)
  omega
theorem Nt.no0 {p : Tri} {d r : Int} (h : Nt.one p = false) : Nt.cost p d r = -1 := if_neg (by rw [h]; simp)
theorem Nt.no1 {p : Tri} {d r : Int} (h : btw d 0 30 = false) : Nt.cost p d r = -1 := if_neg (by rw [h]; simp)
theorem Nt.no2 {p : Tri} {d r : Int} (h : btw r 0 3000 = false) : Nt.cost p d r = -1 := if_neg (by rw [h]; simp)
theorem Nt.yes {p : Tri} {d r : Int} (h0 : Nt.one p = true) (h1 : btw d 0 30 = true) (h2 : btw r 0 3000 = true) : Nt.cost p d r = -((-(p.2.1 * p.2.2 * d * r)) / 3600000) := if_pos ⟨h0, h1, h2⟩
set_option maxHeartbeats 800000 in
theorem fail_any (p : Tri) (d r : Int) (w : World) :
    Calls Try.prog 30 #[triV p, .int .i64 d, .int .i64 r] w fun e w' => e = .returned (.int .i64 (Nt.cost p d r)) ∧ Below w.heap.size w w' := by
  obtain ⟨f, t, a⟩ := p
  have kA := Blk.new w #[.int .i64 f, .int .i64 t, .int .i64 a] 30
  have hbA := (Below.refl w.heap.size w).alloc (Nat.le_refl _) (.cells #[.int .i64 f, .int .i64 t, .int .i64 a] 30)
  cases h0 : Nt.one (f, t, a) with
  | false =>
    have E := Lib.hid (Nt.no0 (p := (f, t, a)) (d := d) (r := r) h0)
    go_enter Try.func30, Try.ntmps30
    go_wp2_with fail
    refine (nvalid_any (f, t, a) _).mono ?_
    rintro e w1 ⟨rfl, hb1⟩
    obtain ⟨⟨x0, x1, x2⟩, -⟩ := (kA.below hb1 kA.lt).three
    replace hbA := hbA.trans (hb1.mono hbA.size)
    clear hb1 kA
    rw [h0]
    go_wp2_with fail
    go_ret
    exact ⟨ret_int E.out.symm, hbA⟩
  | true =>
    cases h1 : btw d 0 30 with
    | false =>
      have E := Lib.hid (Nt.no1 (p := (f, t, a)) (d := d) (r := r) h1)
      go_enter Try.func30, Try.ntmps30
      go_wp2_with fail
      refine (nvalid_any (f, t, a) _).mono ?_
      rintro e w1 ⟨rfl, hb1⟩
      obtain ⟨⟨x0, x1, x2⟩, -⟩ := (kA.below hb1 kA.lt).three
      replace hbA := hbA.trans (hb1.mono hbA.size)
      clear hb1 kA
      rw [h0]
      go_wp2_with fail
      refine (between_any _ _ _ _).mono ?_
      rintro e w2 ⟨rfl, rfl⟩
      rw [h1]
      go_wp2_with fail
      go_ret
      exact ⟨ret_int E.out.symm, hbA⟩
    | true =>
      cases h2 : btw r 0 3000 with
      | false =>
        have E := Lib.hid (Nt.no2 (p := (f, t, a)) (d := d) (r := r) h2)
        go_enter Try.func30, Try.ntmps30
        go_wp2_with fail
        refine (nvalid_any (f, t, a) _).mono ?_
        rintro e w1 ⟨rfl, hb1⟩
        obtain ⟨⟨x0, x1, x2⟩, -⟩ := (kA.below hb1 kA.lt).three
        replace hbA := hbA.trans (hb1.mono hbA.size)
        clear hb1 kA
        rw [h0]
        go_wp2_with fail
        refine (between_any _ _ _ _).mono ?_
        rintro e w2 ⟨rfl, rfl⟩
        rw [h1]
        go_wp2_with fail
        refine (vrate_any _ _).mono ?_
        rintro e w2 ⟨rfl, rfl⟩
        rw [h2]
        go_wp2_with fail
        go_ret
        exact ⟨ret_int E.out.symm, hbA⟩
      | true =>
        have E := Lib.hid (Nt.yes h0 h1 h2)
        obtain ⟨-, ⟨m0, m1⟩, c0, c1⟩ := Nt.one_iff.1 h0
        obtain ⟨d0, d1⟩ := btw_iff.1 h1
        obtain ⟨r0, r1⟩ := btw_iff.1 h2
        obtain ⟨⟨p0, p1⟩, ⟨q0, q1⟩, s0, s1⟩ := Nt.cost_bd m0 m1 c0 c1 d0 d1 r0 r1
        go_enter Try.func30, Try.ntmps30
        go_wp2_with fail
        refine (nvalid_any (f, t, a) _).mono ?_
        rintro e w1 ⟨rfl, hb1⟩
        obtain ⟨⟨x0, x1, x2⟩, -⟩ := (kA.below hb1 kA.lt).three
        replace hbA := hbA.trans (hb1.mono hbA.size)
        clear hb1 kA
        rw [h0]
        go_wp2_with fail
        refine (between_any _ _ _ _).mono ?_
        rintro e w2 ⟨rfl, rfl⟩
        rw [h1]
        go_wp2_with fail
        refine (vrate_any _ _).mono ?_
        rintro e w2 ⟨rfl, rfl⟩
        rw [h2]
        go_wp2_with fail
        refine (ceiled_any _ _ _ (by omega) (by omega) (by omega) (by omega)).mono ?_
        rintro e w3 ⟨rfl, rfl⟩
        go_wp2_with fail
        go_ret
        exact ⟨ret_int E.out.symm, hbA⟩
theorem lit_note (w : World) (p : Tri) : R3o (w.alloc (.cells #[.int .i64 p.1, .int .i64 p.2.1, .int .i64 p.2.2] 30)) (.slice (some ⟨w.heap.size, 0, none⟩) 1 1) [p] :=
  ⟨⟨_, _, rfl⟩, fun _ => ⟨w.heap.size, 0, 1, rfl, by simp, fun i hi => by
    obtain rfl : i = 0 := by simpa using hi
    obtain ⟨⟨a, b, c⟩, -⟩ := (Blk.new w #[.int .i64 p.1, .int .i64 p.2.1, .int .i64 p.2.2] 30).three
    exact ⟨a, b, c⟩⟩⟩
set_option maxHeartbeats 800000 in
theorem sfail_any (p : Tri) (d r : Int) (w : World) :
    Calls Try.prog 31 #[triV p, .int .i64 d, .int .i64 r] w fun e w' => e = .returned (.int .i64 (Nt.cost p d r)) ∧ Below w.heap.size w w' := by
  obtain ⟨f, t, a⟩ := p
  have kA := Blk.new w #[.int .i64 f, .int .i64 t, .int .i64 a] 30
  have hbA := ((Below.refl w.heap.size w).alloc (Nat.le_refl _) (.cells #[.int .i64 f, .int .i64 t, .int .i64 a] 30)).alloc (by simp) (.cells #[.int .i64 f, .int .i64 t, .int .i64 a] 30)
  have HL := Lib.hid (show R3o ((w.alloc (.cells #[.int .i64 f, .int .i64 t, .int .i64 a] 30)).alloc (.cells #[.int .i64 f, .int .i64 t, .int .i64 a] 30)) (.slice (some ⟨w.heap.size + 1, 0, none⟩) 1 1) [(f, t, a)] by simpa using lit_note (w.alloc (.cells #[.int .i64 f, .int .i64 t, .int .i64 a] 30)) (f, t, a))
  replace kA := kA.alloc (.cells #[.int .i64 f, .int .i64 t, .int .i64 a] 30)
  cases h0 : Nt.one (f, t, a) with
  | false =>
    have E := Lib.hid (Nt.no0 (p := (f, t, a)) (d := d) (r := r) h0)
    go_enter Try.func31, Try.ntmps31
    go_wp2_with fail
    refine (svnotes_any _ _ [(f, t, a)] HL.out (by simp)).mono ?_
    rintro e w1 ⟨rfl, hb1⟩
    rw [Nt.ok_one]
    obtain ⟨⟨x0, x1, x2⟩, -⟩ := (kA.below hb1 kA.lt).three
    replace hbA := hbA.trans (hb1.mono hbA.size)
    clear hb1 kA
    rw [h0]
    go_wp2_with fail
    go_ret
    exact ⟨ret_int E.out.symm, hbA⟩
  | true =>
    cases h1 : btw d 0 30 with
    | false =>
      have E := Lib.hid (Nt.no1 (p := (f, t, a)) (d := d) (r := r) h1)
      go_enter Try.func31, Try.ntmps31
      go_wp2_with fail
      refine (svnotes_any _ _ [(f, t, a)] HL.out (by simp)).mono ?_
      rintro e w1 ⟨rfl, hb1⟩
      rw [Nt.ok_one]
      obtain ⟨⟨x0, x1, x2⟩, -⟩ := (kA.below hb1 kA.lt).three
      replace hbA := hbA.trans (hb1.mono hbA.size)
      clear hb1 kA
      rw [h0]
      go_wp2_with fail
      refine (inRange_any _ _ _ _).mono ?_
      rintro e w2 ⟨rfl, rfl⟩
      rw [h1]
      go_wp2_with fail
      go_ret
      exact ⟨ret_int E.out.symm, hbA⟩
    | true =>
      cases h2 : btw r 0 3000 with
      | false =>
        have E := Lib.hid (Nt.no2 (p := (f, t, a)) (d := d) (r := r) h2)
        go_enter Try.func31, Try.ntmps31
        go_wp2_with fail
        refine (svnotes_any _ _ [(f, t, a)] HL.out (by simp)).mono ?_
        rintro e w1 ⟨rfl, hb1⟩
        rw [Nt.ok_one]
        obtain ⟨⟨x0, x1, x2⟩, -⟩ := (kA.below hb1 kA.lt).three
        replace hbA := hbA.trans (hb1.mono hbA.size)
        clear hb1 kA
        rw [h0]
        go_wp2_with fail
        refine (inRange_any _ _ _ _).mono ?_
        rintro e w2 ⟨rfl, rfl⟩
        rw [h1]
        go_wp2_with fail
        refine (inRange_any _ _ _ _).mono ?_
        rintro e w2 ⟨rfl, rfl⟩
        rw [h2]
        go_wp2_with fail
        go_ret
        exact ⟨ret_int E.out.symm, hbA⟩
      | true =>
        have E := Lib.hid (Nt.yes h0 h1 h2)
        obtain ⟨-, ⟨m0, m1⟩, c0, c1⟩ := Nt.one_iff.1 h0
        obtain ⟨d0, d1⟩ := btw_iff.1 h1
        obtain ⟨r0, r1⟩ := btw_iff.1 h2
        obtain ⟨⟨p0, p1⟩, ⟨q0, q1⟩, s0, s1⟩ := Nt.cost_bd m0 m1 c0 c1 d0 d1 r0 r1
        go_enter Try.func31, Try.ntmps31
        go_wp2_with fail
        refine (svnotes_any _ _ [(f, t, a)] HL.out (by simp)).mono ?_
        rintro e w1 ⟨rfl, hb1⟩
        rw [Nt.ok_one]
        obtain ⟨⟨x0, x1, x2⟩, -⟩ := (kA.below hb1 kA.lt).three
        replace hbA := hbA.trans (hb1.mono hbA.size)
        clear hb1 kA
        rw [h0]
        go_wp2_with fail
        refine (inRange_any _ _ _ _).mono ?_
        rintro e w2 ⟨rfl, rfl⟩
        rw [h1]
        go_wp2_with fail
        refine (inRange_any _ _ _ _).mono ?_
        rintro e w2 ⟨rfl, rfl⟩
        rw [h2]
        go_wp2_with fail
        refine (sCeiled_any _ _ _ (by omega) (by omega) (by omega) (by omega)).mono ?_
        rintro e w3 ⟨rfl, rfl⟩
        go_wp2_with fail
        go_ret
        exact ⟨ret_int E.out.symm, hbA⟩
end Go.Proofs.Ythlnmbnaimobgaa
