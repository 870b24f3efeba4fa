/- Payments: which are valid, on both sides. -/
import Derived.Test.YthlnmbnaimobgaaRep
import Derived.Test.YthlnmbnaimobgaaAvB
import Derived.Test.YthlnmbnaimobgaaTq
namespace Go.Proofs.Ythlnmbnaimobgaa
open Go.RowKit
def Fl.one (p : Pr) : Bool := btw p.1 0 36524 && btw p.2 (-1000000000) 1000000000
def Fl.ok (ps : List Pr) : Bool := btw ps.length 0 60 && ps.all Fl.one
theorem Fl.one_iff {p : Pr} : Fl.one p = true ↔ (0 ≤ p.1 ∧ p.1 ≤ 36524) ∧ (-1000000000 ≤ p.2 ∧ p.2 ≤ 1000000000) := by
  unfold Fl.one
  rw [Bool.and_eq_true, btw_iff, btw_iff]
set_option maxHeartbeats 400000 in
theorem vamount_any (n : Int) (w : World) : Calls Try.prog 83 #[.int .i64 n] w fun e w' => e = .returned (.bool (btw n (-1000000000) 1000000000)) ∧ w = w' := by
  go_enter Try.func83, Try.ntmps83
  go_wp2_with fail
  refine (between_any _ _ _ _).mono ?_
  rintro e w' ⟨rfl, rfl⟩
  go_wp2_with fail
  go_ret
  exact ⟨rfl, rfl⟩
set_option maxHeartbeats 800000 in
theorem flow1_any (p : Pr) (w : World) :
    Calls Try.prog 102 #[floV p] w fun e w' => e = .returned (.bool (Fl.one p)) ∧ Below w.heap.size w w' := by
  obtain ⟨d, a⟩ := p
  have hbA := (Below.refl w.heap.size w).alloc (Nat.le_refl _) (.cells #[.int .i64 d, .int .i64 a] 53)
  cases h0 : btw d 0 36524 with
  | false =>
    have E := Lib.hid (show Fl.one (d, a) = false by unfold Fl.one; simp only [h0]; rfl)
    go_enter Try.func102, Try.ntmps102
    go_wp2_with fail
    refine (vday_any _ _).mono ?_
    rintro e w1 ⟨rfl, rfl⟩
    rw [h0]
    go_wp2_with fail
    go_ret
    exact ⟨ret_bool E.out.symm, hbA⟩
  | true =>
    have E := Lib.hid (show Fl.one (d, a) = btw a (-1000000000) 1000000000 by unfold Fl.one; simp only [h0]; rfl)
    go_enter Try.func102, Try.ntmps102
    go_wp2_with fail
    refine (vday_any _ _).mono ?_
    rintro e w1 ⟨rfl, rfl⟩
    rw [h0]
    go_wp2_with fail
    refine (vamount_any _ _).mono ?_
    rintro e w1 ⟨rfl, rfl⟩
    go_wp2_with fail
    go_ret
    exact ⟨ret_bool E.out.symm, hbA⟩
set_option maxHeartbeats 2000000 in
theorem svflows_any (w : World) (v : Value) (ps : List Pr) (hv : R2o w v ps) (hm : ps.length ≤ 9223372036854775807) :
    Calls Try.prog 81 #[v] w fun x w' => x = .returned (.bool (Fl.ok ps)) ∧ w = w' := by
  obtain ⟨⟨a, c, rfl⟩, h1⟩ := hv
  have H1 := Lib.hid h1; clear h1
  have HO := Lib.hid (show Fl.ok ps = (btw ps.length 0 60 && ps.all Fl.one) from rfl)
  obtain ⟨n, hn⟩ : ∃ n, n = ps.length := ⟨_, rfl⟩
  rw [← hn] at hm HO ⊢
  have HN := Lib.hid hn; clear hn
  go_enter Try.func81, Try.ntmps81
  go_wp2_with fail
  go_loop [3] (fun x => ∃ i : Nat, i ≤ n ∧ x = .int .i64 i ∧ Hid (∀ j, j < i → Fl.one (ps.getD j pr0) = true)) (fun x => n - (intOf x).toNat)
  case atStart => exact ⟨0, Nat.zero_le _, rfl, Lib.hid (fun j hj => by omega)⟩
  case round =>
    obtain ⟨i, hi, rfl, HH⟩ := hrel
    by_cases hlt : i < n
    · obtain ⟨b, off, d', e, hbl, hc⟩ := H1.out (by rw [← HN.out]; omega)
      rw [← HN.out] at e
      simp only [Value.slice.injEq, true_and] at e
      obtain ⟨rfl, rfl⟩ := e
      obtain ⟨c0, c1⟩ := hc i (by rw [← HN.out]; exact hlt)
      clear hc
      have HB := Lib.hid (fun (h : Fl.one (ps.getD i pr0) = false) => allB_bad Fl.one pr0 (by rw [← HN.out]; exact hlt) h)
      have HG : Hid (Fl.one (ps.getD i pr0) = true → ∀ j, j < i + 1 → Fl.one (ps.getD j pr0) = true) := Lib.hid (fun h j hj => by
        rcases Nat.lt_or_ge j i with q | q
        · exact HH.out j q
        · obtain rfl : j = i := by omega
          exact h)
      generalize ps.getD i pr0 = p at c0 c1 HB HG
      obtain ⟨f, t⟩ := p
      simp only at c0 c1
      cases h0 : btw f 0 36524 with
      | false =>
        have E := Lib.hid (HB.out (by unfold Fl.one; simp only [h0]; rfl))
        go_wp2_with fail
        refine (inRange_any _ _ _ _).mono ?_
        rintro e w1 ⟨rfl, rfl⟩
        rw [h0]
        go_wp2_with fail
        go_ret
        exact ⟨ret_bool (by rw [HO.out, E.out]; simp), rfl⟩
      | true =>
        cases h1 : btw t (-1000000000) 1000000000 with
        | false =>
          have E := Lib.hid (HB.out (by unfold Fl.one; simp only [h0, h1]; rfl))
          go_wp2_with fail
          refine (inRange_any _ _ _ _).mono ?_
          rintro e w1 ⟨rfl, rfl⟩
          rw [h0]
          go_wp2_with fail
          refine (inRange_any _ _ _ _).mono ?_
          rintro e w1 ⟨rfl, rfl⟩
          rw [h1]
          go_wp2_with fail
          go_ret
          exact ⟨ret_bool (by rw [HO.out, E.out]; simp), rfl⟩
        | true =>
          have E := Lib.hid (HG.out (by unfold Fl.one; simp only [h0, h1]; rfl))
          go_wp2_with fail
          refine (inRange_any _ _ _ _).mono ?_
          rintro e w1 ⟨rfl, rfl⟩
          rw [h0]
          go_wp2_with fail
          refine (inRange_any _ _ _ _).mono ?_
          rintro e w1 ⟨rfl, rfl⟩
          rw [h1]
          go_wp2_with fail
          go_round
          case rel => exact ⟨i + 1, by omega, by go_num, E⟩
          case measure => simp [intOf] <;> omega
    · obtain rfl : i = n := by omega
      have HF := Lib.hid (allB_take Fl.one pr0 HH.out HN.out)
      by_cases h10 : i ≤ 60
      · have q : (i : Int) ≤ 60 := by omega
        go_wp2_with fail
        go_ret
        exact ⟨ret_bool (by rw [HO.out, HF.out, btw_t (by omega) q]; rfl), rfl⟩
      · have q : ¬ (i : Int) ≤ 60 := by omega
        go_wp2_with fail
        go_ret
        exact ⟨ret_bool (by rw [HO.out, HF.out, btw_f (.inr (by omega))]; rfl), rfl⟩
end Go.Proofs.Ythlnmbnaimobgaa
