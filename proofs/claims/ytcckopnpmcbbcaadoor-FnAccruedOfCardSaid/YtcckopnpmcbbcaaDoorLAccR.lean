/- The law of accrued interest and rates. -/
import Derived.Test.YtcckopnpmcbbcaaDoorDrawDay
import Derived.Test.YtcckopnpmcbbcaaDoorAccB
import Derived.Outline
namespace Go.Proofs.YtcckopnpmcbbcaaDoor
open Go.RowKit
theorem isK_uniq {ps : List Per} {d : Int} {j k : Nat} (hj : IsK ps d j) (hk : IsK ps d k) (lj : j < ps.length) (lk : k < ps.length) : j = k := by
  have a := (hj.2 j lj).2 (Nat.le_refl _)
  have b := (hk.2 k lk).2 (Nat.le_refl _)
  have c := (hk.2 j lj).1 a
  have e := (hj.2 k lk).1 b
  omega
theorem run_rate {s e m r r' d : Int} (h : btw r 0 3000 = true) (h' : btw r' 0 3000 = true) (hR : runB s e m r d = true) : runB s e m r' d = true ∧ perL s e m r' = perL s e m r ∧ runK s e m r' d = runK s e m r d := by
  have hp := perL_rate (s := s) (e := e) (m := m) h' h
  have hR' : runB s e m r' d = true := by rw [runB_iff, hp]; exact runB_iff.1 hR
  refine ⟨hR', hp, ?_⟩
  have a := runK_facts hR
  have b := runK_facts hR'
  rw [hp] at b
  exact isK_uniq b.2.1 a.2.1 b.1 a.1
theorem near_mul {x y c b : Int} (hb : 1 ≤ b) (hc : 0 ≤ c) (h : x ≤ y) : Rt.near (x * c) b ≤ Rt.near (y * c) b := near_up hb (Int.mul_le_mul_of_nonneg_right h hc)
theorem acc_rate {s e m r d : Int} (hR : runB s e m r d = true) : accV s e m r d ≤ accV s e m (min (r + 1) 3000) d ∧ accV s e m 0 d = 0 := by
  obtain ⟨⟨m0, m1⟩, ⟨r0, r1⟩, f, t, z, hg, a0, a1, a2, hA, hf, ht, hc0, hc1⟩ := run_per hR
  have E : accV s e m r d = Rt.near (cpnV m r f t z * (d - f)) (t - f) := by unfold accV accP; rw [if_pos hR, hg]
  have br : btw r 0 3000 = true := btw_t r0 r1
  constructor
  · by_cases h3 : r = 3000
    · rw [h3, show min ((3000 : Int) + 1) 3000 = 3000 by decide]; exact Int.le_refl _
    · obtain ⟨q1, q2, q3⟩ := run_rate (s := s) (e := e) (m := m) (r' := r + 1) (d := d) br (btw_t (by omega) (by omega)) hR
      rw [show min (r + 1) 3000 = r + 1 by omega]
      have E2 : accV s e m (r + 1) d = Rt.near (cpnV m (r + 1) f t z * (d - f)) (t - f) := by unfold accV accP; rw [if_pos q1, q2, q3, hg]
      rw [E, E2]
      exact near_mul (by omega) (by omega) (cpn_up z m0 a1 hA)
  · obtain ⟨q1, q2, q3⟩ := run_rate (s := s) (e := e) (m := m) (r' := 0) (d := d) br (by decide) hR
    unfold accV accP
    rw [if_pos q1, q2, q3, hg]
    show Rt.near (cpnV m 0 f t z * (d - f)) (t - f) = 0
    rw [cpn_0 z a1 hA, Int.zero_mul]
    exact near_0 (by omega)
theorem acc_neg {s e m r d : Int} (h : accV s e m r d < 0) : accV s e m r d = -1 := by
  cases hR : runB s e m r d with
  | false => exact acc_no hR
  | true => have := acc_bd hR; omega
theorem acc_run {s e m r d : Int} (h : 0 ≤ accV s e m r d) : runB s e m r d = true := by
  cases hR : runB s e m r d with
  | false => rw [acc_no hR] at h; omega
  | true => rfl
set_option maxRecDepth 8000 in
set_option maxHeartbeats 4000000 in
theorem lawAccruedRate (a : Option Addr) (len cap : Nat) (zs : List Int) (w : World) (h : IsRow .u8 w a len cap zs) (hT : Tab w) :
    Calls Tryd.prog 14 #[.slice a len cap] w fun e w' => e = .returned (.bool true) ∧ Below w.heap.size w w' := by
  have H := Lib.hid h; clear h
  have HT := Lib.hid hT; clear hT
  by_cases hl : 1048576 < (len : Int)
  · go_enter Tryd.func14, Tryd.ntmps14
    go_wp2_with fail
    go_ret
    exact ⟨rfl, Below.refl _ _⟩
  · have hl' := decide_eq_false hl
    clear hl
    go_enter Tryd.func14, Tryd.ntmps14
    go_wp2_with fail
    refine (drawAccrued_any _ _ _ _ _ H.out).mono ?_
    rintro x w1 ⟨s, e, m, r, d, rfl, hs, he, hm, hr, hd, hbA⟩
    have HI := Lib.hid (accruedOf_any s e m r d)
    have HS := Lib.hid (sAccruedOf_any s e m r d)
    have kB := Blk.new w1 #[.int .i64 s, .int .i64 e, .int .i64 m, .int .i64 r] 24
    replace hbA := hbA.alloc hbA.size (.cells #[.int .i64 s, .int .i64 e, .int .i64 m, .int .i64 r] 24)
    by_cases hn : accV s e m r d < 0
    · rw [acc_neg hn] at HI HS
      clear hn
      go_wp2_with fail
      refine (HI.out _ (HT.out.below hbA HT.out.pos)).mono ?_
      rintro x w2 ⟨rfl, hb2⟩
      replace kB := kB.below hb2 kB.lt
      replace hbA := hbA.trans (hb2.mono hbA.size)
      obtain ⟨c0, c1, c2, c3⟩ := kB.four
      go_wp2_with fail
      refine (HS.out _).mono ?_
      rintro x w3 ⟨rfl, hb3⟩
      replace kB := kB.below hb3 kB.lt
      replace hbA := hbA.trans (hb3.mono hbA.size)
      clear c0 c1 c2 c3
      obtain ⟨c0, c1, c2, c3⟩ := kB.four
      go_wp2_with fail
      refine (HS.out _).mono ?_
      rintro x w4 ⟨rfl, hb4⟩
      replace hbA := hbA.trans (hb4.mono hbA.size)
      go_wp2_with fail
      go_ret
      exact ⟨ret_bool (by simp), hbA⟩
    · have hR := acc_run (s := s) (e := e) (m := m) (r := r) (d := d) (by omega)
      obtain ⟨hup, hz⟩ := acc_rate hR
      obtain ⟨ac0, ac1⟩ := acc_bd hR
      have HI2 := Lib.hid (accruedOf_any s e m (min (r + 1) 3000) d)
      have HI0 := Lib.hid (accruedOf_any s e m 0 d)
      rw [hz] at HI0
      have fmin : ∀ W : World, (Builtin.min_ #[3, 3] 3 #[.int .i64 (r + 1), .int .i64 3000]).run Tryd.prog W = .ok (.int .i64 (min (r + 1) 3000)) W := fun W => run_min2' _ _ _ _ W
      clear hR hn hz
      generalize accV s e m r d = A at *
      generalize accV s e m (min (r + 1) 3000) d = A2 at *
      generalize min (r + 1) 3000 = r2 at *
      have d0 : decide (A < 0) = false := decide_eq_false (by omega)
      have d1 : (A != A) = false := by simp
      have d2 : decide (A ≤ A2) = true := decide_eq_true hup
      go_wp2_with fail
      refine (HI.out _ (HT.out.below hbA HT.out.pos)).mono ?_
      rintro x w2 ⟨rfl, hb2⟩
      replace kB := kB.below hb2 kB.lt
      replace hbA := hbA.trans (hb2.mono hbA.size)
      obtain ⟨c0, c1, c2, c3⟩ := kB.four
      go_wp2_with fail
      refine (HS.out _).mono ?_
      rintro x w3 ⟨rfl, hb3⟩
      replace kB := kB.below hb3 kB.lt
      replace hbA := hbA.trans (hb3.mono hbA.size)
      clear c0 c1 c2 c3
      obtain ⟨c0, c1, c2, c3⟩ := kB.four
      go_wp2_with fail
      refine (HI2.out _ (HT.out.below hbA HT.out.pos)).mono ?_
      rintro x w4 ⟨rfl, hb4⟩
      replace kB := kB.below hb4 kB.lt
      replace hbA := hbA.trans (hb4.mono hbA.size)
      clear c0 c1 c2 c3
      obtain ⟨c0, c1, c2, c3⟩ := kB.four
      go_wp2_with fail
      refine (HI0.out _ (HT.out.below hbA HT.out.pos)).mono ?_
      rintro x w5 ⟨rfl, hb5⟩
      replace hbA := hbA.trans (hb5.mono hbA.size)
      go_wp2_with fail
      go_ret
      exact ⟨ret_bool (by simp), hbA⟩
end Go.Proofs.YtcckopnpmcbbcaaDoor
