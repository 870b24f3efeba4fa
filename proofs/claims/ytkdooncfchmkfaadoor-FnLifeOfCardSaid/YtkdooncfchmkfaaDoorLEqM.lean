/- Plain mathematics: whole periods pay the same. -/
import Derived.Test.YtkdooncfchmkfaaDoorLRate
namespace Go.Proofs.YtkdooncfchmkfaaDoor
open Go.RowKit
/-- Months added twice never lead behind the same months added at once. -/
theorem add_twice {e a b : Int} (h1 : 0 ≤ addV e a) (h2 : 0 ≤ addV (addV e a) b) (k0 : -600 ≤ a + b) (k1 : a + b ≤ 600) : addV (addV e a) b ≤ addV e (a + b) := by
  obtain ⟨y, m, d, A, ea⟩ := addV_nonneg h1
  rw [ea] at h2 ⊢
  obtain ⟨Y1, M1, D1⟩ := Cal.dt_num A.v
  obtain ⟨y', m', d', B, eb⟩ := addV_nonneg h2
  rw [eb]
  have ta := A.t
  have tb := B.t
  have da := A.dd
  have db := B.dd
  rw [Y1, M1] at tb
  rw [D1] at db
  obtain ⟨v1, v2, v3, v4, v5, v6⟩ := B.v
  obtain ⟨C, ec⟩ := added_of (n := e) (k := a + b) (y := y') (m := m') A.hn0 A.hn1 k0 k1 v1 v2 v3 v4 (by omega)
  rw [ec]
  unfold Cal.num
  omega
theorem first_full {s e m : Int} (ok : Sc.okB s e m = true) (hN : Sc.N s e m ≤ 40) : addV (Sc.S e m (Sc.N s e m - 1)) (-m) < 0 ∨ addV (Sc.S e m (Sc.N s e m - 1)) (-m) ≤ s := by
  have k := Sc.isN ok
  obtain ⟨⟨s0, se, e1⟩, hm⟩ := Sc.okB_iff.1 ok
  have n1 := k.n1
  have g := k.gt (Sc.N s e m - 1) (by omega)
  have l := k.le (by omega)
  generalize Sc.N s e m = n at *
  have kb := Sc.km_bd hm (k := n) (by omega)
  rcases Int.lt_or_le (addV (Sc.S e m (n - 1)) (-m)) 0 with c | c
  · exact .inl c
  · right
    have e1' : ((n - 1 : Nat) : Int) * m = (n : Int) * m - m := by
      rw [show ((n - 1 : Nat) : Int) = (n : Int) - 1 by omega, Int.sub_mul, Int.one_mul]
    have e2 : -(((n - 1 : Nat) : Int) * m) + -m = -((n : Int) * m) := by rw [e1']; omega
    have t := add_twice (e := e) (a := -(((n - 1 : Nat) : Int) * m)) (b := -m) (by unfold Sc.S at g; omega) (by unfold Sc.S at c; exact c) (by rw [e2]; omega) (by rw [e2]; omega)
    rw [e2] at t
    unfold Sc.S at l ⊢
    omega
theorem near_part {w a b : Int} (hw : 0 ≤ w) (hb : 1 ≤ b) (h : a ≤ b) : Rt.near (w * a) b ≤ w := by
  unfold Rt.near
  have h1 : w * a ≤ w * b := Int.mul_le_mul_of_nonneg_left h hw
  have h2 : (2 * (w * a) + b) / (2 * b) < w + 1 := by
    apply Int.ediv_lt_of_lt_mul (by omega)
    rw [Int.add_mul, Int.mul_left_comm w 2 b]
    omega
  omega
theorem flo_equal {s e m r : Int} (h : floL s e m r ≠ []) (h3 : 3 ≤ (floL s e m r).length) :
    (∀ i, 1 ≤ i → i + 1 < (floL s e m r).length → ((floL s e m r).getD i f0).2 = wholeV m r) ∧ ((floL s e m r).getD ((floL s e m r).length - 1) f0).2 = wholeV m r + 10000 ∧ ((floL s e m r).getD 0 f0).2 ≤ wholeV m r ∧ 0 ≤ wholeV m r ∧ wholeV m r ≤ 3000 := by
  obtain ⟨⟨m0, m1⟩, ⟨r0, r1⟩, -, hpf⟩ := per_facts (per_ne h)
  have hr : btw r 0 3000 = true := btw_t r0 r1
  have hp : perL s e m r = Sc.sch s e m := by unfold perL; rw [if_pos hr]
  have hne := per_ne h
  have hl := floL_len s e m r
  have wb := whole_bd m0 m1 r0 r1
  rw [hl] at h3 ⊢
  rw [hp] at hne
  obtain ⟨ok, hN, hall⟩ := Sc.sch_pos hne
  have hlen : (perL s e m r).length = Sc.N s e m := by rw [hp, hall, Sc.all_len]
  have pos : ∀ i, 1 ≤ i → i < (perL s e m r).length → ((floL s e m r).getD i f0).2 = wholeV m r + (if i = (perL s e m r).length - 1 then 10000 else 0) := fun i h0 hi => by
    rw [flo_at hi]
    obtain ⟨f, t, z, hg, hft, -, -, -, -, -, hpre⟩ := Sc.all_facts ok hN (i := i) (by omega)
    obtain ⟨hz, -⟩ := hpre (by omega)
    subst hz
    rw [show (perL s e m r).getD i p0 = (f, t, true) by rw [hp, hall]; exact hg]
    rfl
  refine ⟨fun i a b => ?_, ?_, ?_, wb⟩
  · rw [pos i a (by omega), if_neg (by omega), Int.add_zero]
  · rw [pos _ (by omega) (by omega), if_pos rfl]
  · rw [flo_at (by omega)]
    obtain ⟨f, t, z, hg, hft, -, -, ht, hf, -, -⟩ := Sc.all_facts ok hN (i := 0) (by omega)
    have hf := hf rfl
    rw [show (perL s e m r).getD 0 p0 = (f, t, z) by rw [hp, hall]; exact hg]
    dsimp only
    rw [if_neg (by omega), Int.add_zero]
    unfold cpnV
    split
    · omega
    · have ff := first_full ok hN
      rw [Nat.sub_zero] at ht
      rw [← ht] at ff
      have hfu : fullF m f t ≤ f := by unfold fullF; split <;> omega
      exact near_part wb.1 (by omega) (by omega)
end Go.Proofs.YtkdooncfchmkfaaDoor
