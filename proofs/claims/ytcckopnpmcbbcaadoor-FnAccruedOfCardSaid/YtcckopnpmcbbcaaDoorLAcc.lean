/- The law of accrued interest. -/
import Derived.Test.YtcckopnpmcbbcaaDoorLAccR
import Derived.Test.YtcckopnpmcbbcaaDoorPat
import Derived.Deep.RegionHeld3
namespace Go.Proofs.YtcckopnpmcbbcaaDoor
open Go.RowKit
theorem perL_sch {s e m r d : Int} (hR : runB s e m r d = true) : perL s e m r = Sc.sch s e m ∧ Sc.okB s e m = true ∧ Sc.N s e m ≤ 40 ∧ Sc.sch s e m = Sc.all s e m := by
  have hne : perL s e m r ≠ [] := fun k => by have := (runB_iff.1 hR).1; rw [k] at this; simp at this
  have hp : perL s e m r = Sc.sch s e m := by
    unfold perL at hne ⊢
    split
    · rfl
    · rename_i c; rw [if_neg c] at hne; exact absurd rfl hne
  rw [hp] at hne
  exact ⟨hp, Sc.sch_pos hne⟩
theorem pat_run {s e m r d : Int} (hR : runB s e m r d = true) : patV (Sc.sch s e m) d = runK s e m r d := by
  obtain ⟨hk, -, hf, ht, hb⟩ := runK_facts hR
  obtain ⟨hp, -⟩ := perL_sch hR
  rw [hp] at hk hf ht hb
  have hl := Sc.sch_len s e m
  have h40 : ¬ 40 < (Sc.sch s e m).length := by omega
  unfold patV
  rw [if_neg h40]
  exact isAt_uniq (isAt_idx _ _) (.inr ⟨_, rfl, hk, ⟨hf, ht⟩, fun j hj c => hb j hj c⟩)
theorem run_at {s e m r d d' : Int} (hR : runB s e m r d = true) {f t : Int} {z : Bool} (hg : (perL s e m r).getD (runK s e m r d) p0 = (f, t, z)) (h0 : f ≤ d') (h1 : d' < t) : runB s e m r d' = true ∧ runK s e m r d' = runK s e m r d := by
  obtain ⟨hk, hIK, hf, ht, hb⟩ := runK_facts hR
  obtain ⟨hp, ok, hN, hall⟩ := perL_sch hR
  obtain ⟨hl0, hs, he⟩ := runB_iff.1 hR
  have hlen : (perL s e m r).length = Sc.N s e m := by rw [hp, hall, Sc.all_len]
  have hpf : ∀ i, i < Sc.N s e m → ∃ f t : Int, ∃ b : Bool, (perL s e m r).getD i p0 = (f, t, b) ∧ f < t ∧ (i = 0 → f = s) ∧ (i + 1 = Sc.N s e m → t = e) ∧ (0 < i → f = ((perL s e m r).getD (i - 1) p0).2.1) := fun i hi => by
    obtain ⟨f, t, b, hg, hlt, -, -, -, q0, q1, q2⟩ := Sc.all_facts ok hN hi
    rw [hp, hall]
    exact ⟨f, t, b, hg, hlt, q0, q1, fun q => (q2 q).2⟩
  have hR' : runB s e m r d' = true := by
    rw [runB_iff]
    have up : ∀ j i, i ≤ j → j < Sc.N s e m → ((perL s e m r).getD i p0).2.1 ≤ ((perL s e m r).getD j p0).2.1 ∧ s ≤ ((perL s e m r).getD i p0).1 := by
      intro j
      induction j with
      | zero =>
        intro i a b
        obtain rfl : i = 0 := by omega
        obtain ⟨f0', t0', b0', g0, l0, q0, -, -⟩ := hpf 0 b
        rw [g0]
        have := q0 rfl
        exact ⟨Int.le_refl _, by dsimp only; omega⟩
      | succ j ih =>
        intro i a b
        obtain ⟨f1, t1, b1, g1, l1, -, -, q1⟩ := hpf (j + 1) b
        have q1 := q1 (by omega)
        rw [show j + 1 - 1 = j by omega] at q1
        rcases Nat.lt_or_ge i (j + 1) with c | c
        · have := ih i (by omega) (by omega)
          rw [g1]
          exact ⟨by dsimp only; omega, this.2⟩
        · obtain rfl : i = j + 1 := by omega
          have := ih j (Nat.le_refl _) (by omega)
          obtain ⟨f2, t2, b2, g2, l2, -, -, -⟩ := hpf j (by omega)
          rw [g2] at this q1
          rw [g1]
          exact ⟨Int.le_refl _, by dsimp only at this q1 ⊢; omega⟩
    have hN1 : Sc.N s e m - 1 < Sc.N s e m := by omega
    have a := up (Sc.N s e m - 1) (runK s e m r d) (by omega) hN1
    obtain ⟨f3, t3, b3, g3, l3, -, q3, -⟩ := hpf (Sc.N s e m - 1) hN1
    have q3 := q3 (by omega)
    rw [hg, g3] at a
    dsimp only at a
    exact ⟨hl0, by omega, by omega⟩
  refine ⟨hR', ?_⟩
  obtain ⟨hk', hIK', hf', ht', hb'⟩ := runK_facts hR'
  have h1' : runK s e m r d' ≤ runK s e m r d := (hIK'.2 _ hk).1 (by rw [hg]; exact h1)
  rcases Nat.lt_or_ge (runK s e m r d') (runK s e m r d) with c | c
  · exfalso
    obtain ⟨f4, t4, b4, g4, -, -, -, q4⟩ := hpf (runK s e m r d) (by omega)
    have q4 := q4 (by omega)
    have hx := (hIK'.2 (runK s e m r d - 1) (by omega)).2 (by omega)
    rw [hg] at g4
    injection g4 with g4 _
    omega
  · omega
theorem acc_law {s e m r d : Int} (hR : runB s e m r d = true) :
    ∃ f t C : Int, ∃ z : Bool, (perL s e m r).getD (runK s e m r d) p0 = (f, t, z) ∧ ((floL s e m r).getD (runK s e m r d) f0).2 = C + (if runK s e m r d = (perL s e m r).length - 1 then 10000 else 0) ∧ (0 ≤ C ∧ C ≤ 120000000) ∧
      (0 ≤ f ∧ f ≤ d ∧ d < t ∧ t ≤ 36524) ∧ accV s e m r d ≤ C ∧ (d + 1 < t → accV s e m r d ≤ accV s e m r (d + 1)) ∧ accV s e m r f = 0 := by
  obtain ⟨⟨m0, m1⟩, ⟨r0, r1⟩, f, t, z, hg, a0, a1, a2, hA, hf, ht, hc0, hc1⟩ := run_per hR
  have E : ∀ d', f ≤ d' → d' < t → accV s e m r d' = Rt.near (cpnV m r f t z * (d' - f)) (t - f) := fun d' h0 h1 => by
    obtain ⟨q1, q2⟩ := run_at hR hg h0 h1
    unfold accV accP
    rw [if_pos q1, q2, hg]
  have hk := (runK_facts hR).1
  refine ⟨f, t, cpnV m r f t z, z, hg, ?_, ⟨hc0, hc1⟩, ⟨a0, hf, ht, a2⟩, ?_, fun h => ?_, ?_⟩
  · rw [flo_at hk, hg]
  · rw [E d hf ht]
    exact near_part hc0 (by omega) (by omega)
  · rw [E d hf ht, E (d + 1) (by omega) h]
    exact near_up (by omega) (Int.mul_le_mul_of_nonneg_left (by omega) hc0)
  · rw [E f (Int.le_refl _) a1, show f - f = 0 by omega, Int.mul_zero]
    exact near_0 (by omega)
abbrev SL (b pb k : Nat) (s e m r f : Int) (W : World) : Prop :=
  W.cell? ⟨b, 0, none⟩ = some (.int .i64 s) ∧ W.cell? ⟨b, 1, none⟩ = some (.int .i64 e) ∧ W.cell? ⟨b, 2, none⟩ = some (.int .i64 m) ∧ W.cell? ⟨b, 3, none⟩ = some (.int .i64 r) ∧ W.cell? ⟨pb, k * 3, none⟩ = some (.int .i64 f)
theorem SL.below {b pb k : Nat} {s e m r f : Int} {W W' : World} (h : SL b pb k s e m r f W) (hb : Below W.heap.size W W') : SL b pb k s e m r f W' :=
  ⟨cellA_below h.1 hb, cellA_below h.2.1 hb, cellA_below h.2.2.1 hb, cellA_below h.2.2.2.1 hb, cellA_below h.2.2.2.2 hb⟩
theorem SL.drewS {b pb k : Nat} {s e m r f : Int} {W : World} (h : SL b pb k s e m r f W) : SL b pb k s e m r f W.drew := h
set_option maxRecDepth 8000 in
set_option maxHeartbeats 4000000 in
theorem lawAccruedOf (a : Option Addr) (len cap : Nat) (zs : List Int) (w : World) (h : IsRow .u8 w a len cap zs) (hT : Tab w) :
    Calls Tryd.prog 11 #[.slice a len cap] w fun e w' => e = .returned (.bool true) ∧ Below w.heap.size w w' := by
  have H := Lib.hid h; clear h
  have HT := Lib.hid hT; clear hT
  by_cases hl : 1048576 < (len : Int)
  · go_enter Tryd.func11, Tryd.ntmps11
    go_wp2_with fail
    go_ret
    exact ⟨rfl, Below.refl _ _⟩
  · have hl' := decide_eq_false hl
    clear hl
    go_enter Tryd.func11, Tryd.ntmps11
    go_wp2_with fail
    refine (drawAccrued_any _ _ _ _ _ H.out).mono ?_
    rintro x w1 ⟨s, e, m, r, d, rfl, hs, he, hm, hr, hd, hbA⟩
    have HI := Lib.hid (accruedOf_any s e m r d)
    have HS := Lib.hid (sAccruedOf_any s e m r d)
    have kB := Blk.new w1 #[.int .i64 s, .int .i64 e, .int .i64 m, .int .i64 r] 24
    replace hbA := hbA.alloc hbA.size (.cells #[.int .i64 s, .int .i64 e, .int .i64 m, .int .i64 r] 24)
    by_cases hn : accV s e m r d < 0
    · rw [acc_neg hn] at HI HS
      clear hn
      go_wp2_with fail
      refine (HI.out _ (HT.out.below hbA HT.out.pos)).mono ?_
      rintro x w2 ⟨rfl, hb2⟩
      replace kB := kB.below hb2 kB.lt
      replace hbA := hbA.trans (hb2.mono hbA.size)
      obtain ⟨c0, c1, c2, c3⟩ := kB.four
      go_wp2_with fail
      refine (HS.out _).mono ?_
      rintro x w3 ⟨rfl, hb3⟩
      replace kB := kB.below hb3 kB.lt
      replace hbA := hbA.trans (hb3.mono hbA.size)
      clear c0 c1 c2 c3
      obtain ⟨c0, c1, c2, c3⟩ := kB.four
      go_wp2_with fail
      refine (HS.out _).mono ?_
      rintro x w4 ⟨rfl, hb4⟩
      replace hbA := hbA.trans (hb4.mono hbA.size)
      go_wp2_with fail
      go_ret
      exact ⟨ret_bool (by simp), hbA⟩
    · have hR := acc_run (s := s) (e := e) (m := m) (r := r) (d := d) (by omega)
      obtain ⟨ac0, ac1⟩ := acc_bd hR
      obtain ⟨f, t, C, z, hg, hfl, ⟨hC0, hC1⟩, ⟨f0', f1', f2', f3'⟩, hle, hmore, hz⟩ := acc_law hR
      have hpat := pat_run hR
      have hk := (runK_facts hR).1
      have hp := (perL_sch hR).1
      have hl := floL_len s e m r
      have hl40 := perL_len s e m r
      have HSC := Lib.hid (sched_any s e m)
      have HFL := Lib.hid (flowsOf_any s e m r)
      have HI1 := Lib.hid (accruedOf_any s e m r (d + 1))
      have HIF := Lib.hid (accruedOf_any s e m r f)
      rw [hz] at HIF
      rw [← hp] at HSC hpat
      have HPA := Lib.hid (fun W v hv => periodAt_any W v (perL s e m r) d hv (by omega))
      rw [hpat] at HPA
      have hbd1 : accV s e m r (d + 1) ≤ 120000000 := by
        cases hR1 : runB s e m r (d + 1) with
        | false => rw [acc_no hR1]; omega
        | true => exact (acc_bd hR1).2
      clear hR hn hz hp hpat
      obtain ⟨k, hkk⟩ : ∃ k, k = runK s e m r d := ⟨_, rfl⟩
      obtain ⟨ps, hps⟩ : ∃ ps, ps = perL s e m r := ⟨_, rfl⟩
      obtain ⟨fs, hfs⟩ : ∃ fs, fs = floL s e m r := ⟨_, rfl⟩
      rw [← hkk, ← hps] at hg hk
      rw [← hkk, ← hps, ← hfs] at hfl
      rw [← hps] at hl hl40 HSC
      rw [← hfs] at hl HFL
      rw [← hkk, ← hps] at HPA
      clear hkk hps hfs
      obtain ⟨n, hnn⟩ : ∃ n, n = ps.length := ⟨_, rfl⟩
      rw [← hnn] at hfl hk hl hl40
      generalize accV s e m r d = A at *
      generalize accV s e m r (d + 1) = A1 at *
      have HN := Lib.hid hnn
      have HG := Lib.hid hg
      have HL := Lib.hid hl
      have HFA := Lib.hid hfl
      have HMO := Lib.hid hmore
      clear hnn hg hl hfl hmore
      have d0 : decide (A < 0) = false := decide_eq_false (by omega)
      have d1 : (A != A) = false := by simp
      have d2 : decide (A ≤ C) = true := decide_eq_true hle
      have d3 : decide ((k : Int) < 0) = false := decide_eq_false (by omega)
      have d4 : decide ((n : Int) ≤ (k : Int)) = false := decide_eq_false (by omega)
      go_wp2_with fail
      refine (HI.out _ (HT.out.below hbA HT.out.pos)).mono ?_
      rintro x w2 ⟨rfl, hb2⟩
      replace kB := kB.below hb2 kB.lt
      replace hbA := hbA.trans (hb2.mono hbA.size)
      obtain ⟨c0, c1, c2, c3⟩ := kB.four
      go_wp2_with fail
      refine (HS.out _).mono ?_
      rintro x w3 ⟨rfl, hb3⟩
      replace kB := kB.below hb3 kB.lt
      replace hbA := hbA.trans (hb3.mono hbA.size)
      clear c0 c1 c2 c3
      obtain ⟨c0, c1, c2, c3⟩ := kB.four
      go_wp2_with fail
      refine (HSC.out _ (HT.out.below hbA HT.out.pos)).mono ?_
      rintro x w4 ⟨v1, rfl, hv1, -, hb4⟩
      replace kB := kB.below hb4 kB.lt
      replace hbA := hbA.trans (hb4.mono hbA.size)
      clear c0 c1 c2 c3
      have HV := hv1.rd
      clear hv1
      go_wp2_with fail
      refine (HPA.out _ _ HV).mono ?_
      rintro x w5 ⟨rfl, hb5⟩
      replace kB := kB.below hb5 kB.lt
      replace hbA := hbA.trans (hb5.mono hbA.size)
      have HV5 := HV.below hb5 (Nat.le_refl _)
      obtain ⟨c0, c1, c2, c3⟩ := kB.four
      go_wp2_with fail
      refine (HFL.out _ (HT.out.below hbA HT.out.pos)).mono ?_
      rintro x w6 ⟨v2, rfl, hv2, -, hb6⟩
      replace kB := kB.below hb6 kB.lt
      replace hbA := hbA.trans (hb6.mono hbA.size)
      clear c0 c1 c2 c3
      have HV6 := HV5.below hb6 (Nat.le_refl _)
      obtain ⟨pb, pc, rfl, hpl, hpc⟩ := HV6.2 (by rw [← HN.out]; omega)
      obtain ⟨fb, fc', rfl, hfl2, hfc⟩ := hv2.rd.2 (by rw [HL.out]; omega)
      rw [HL.out] at hfc ⊢
      rw [← HN.out] at hpc ⊢
      obtain ⟨-, q1⟩ := hfc k hk
      obtain ⟨y0, y1, -⟩ := hpc k hk
      rw [HG.out] at y0 y1
      rw [HFA.out] at q1
      dsimp only at y0 y1
      clear hfc hpc hv2 HV HV5 HV6 HI HS HSC HPA HFL
      obtain ⟨c0, c1, c2, c3⟩ := kB.four
      by_cases hk1 : k = n - 1
      · rw [if_pos hk1] at q1
        obtain rfl : n = k + 1 := by omega
        clear hk1
        have d5 : ((k : Int) == ((k + 1 : Nat) : Int) - 1) = true := by simp
        by_cases hd1 : d + 1 < t
        · have d6 := decide_eq_true hd1
          have hm := HMO.out hd1
          have d7 : decide (A ≤ A1) = true := decide_eq_true hm
          go_wp2_with fail
          refine (HI1.out _ (HT.out.below hbA HT.out.pos)).mono ?_
          rintro x w8 ⟨rfl, hb8⟩
          replace hbA := hbA.trans (hb8.mono hbA.size)
          have pl8 := Nat.lt_of_lt_of_le hpl hb8.size
          replace kB := kB.below hb8 kB.lt
          replace y0 := cellA_below y0 hb8
          clear c0 c1 c2 c3 y1 q1
          obtain ⟨c0, c1, c2, c3⟩ := kB.four
          go_wp2_with fail
          have KS := Lib.hid (show SL w1.heap.size pb k s e m r f w8 from ⟨c0, c1, c2, c3, y0⟩)
          have HBA := Lib.hid hbA
          have HTX := Lib.hid (HT.out.below hbA HT.out.pos)
          go_region_held3 (SL w1.heap.size pb k s e m r f) (first | with_reducible exact KS.out.drewS | with_reducible exact k9) (first | (go_at_call 34; refine (HIF.out _ (by exact HTX.out)).mono ?_; rintro x w9 ⟨rfl, hb9⟩; have k9 := KS.out.drewS.below hb9; have hb10 := HBA.out.drew.trans (hb9.mono HBA.out.drew.size)))
          all_goals go_wp2_with fail
          all_goals
            go_ret
            exact ⟨ret_bool (by simp), hb10⟩
        · have d6 := decide_eq_false hd1
          go_wp2_with fail
          have KS := Lib.hid (show SL w1.heap.size pb k s e m r f w6 from ⟨c0, c1, c2, c3, y0⟩)
          have HBA := Lib.hid hbA
          have HTX := Lib.hid (HT.out.below hbA HT.out.pos)
          go_region_held3 (SL w1.heap.size pb k s e m r f) (first | with_reducible exact KS.out.drewS | with_reducible exact k9) (first | (go_at_call 34; refine (HIF.out _ (by exact HTX.out)).mono ?_; rintro x w9 ⟨rfl, hb9⟩; have k9 := KS.out.drewS.below hb9; have hb10 := HBA.out.drew.trans (hb9.mono HBA.out.drew.size)))
          all_goals go_wp2_with fail
          all_goals
            go_ret
            exact ⟨ret_bool (by simp), hb10⟩
      · rw [if_neg hk1, Int.add_zero] at q1
        have d5 : ((k : Int) == (n : Int) - 1) = false := by simp; omega
        clear hk1
        by_cases hd1 : d + 1 < t
        · have d6 := decide_eq_true hd1
          have hm := HMO.out hd1
          have d7 : decide (A ≤ A1) = true := decide_eq_true hm
          go_wp2_with fail
          refine (HI1.out _ (HT.out.below hbA HT.out.pos)).mono ?_
          rintro x w8 ⟨rfl, hb8⟩
          replace hbA := hbA.trans (hb8.mono hbA.size)
          have pl8 := Nat.lt_of_lt_of_le hpl hb8.size
          replace kB := kB.below hb8 kB.lt
          replace y0 := cellA_below y0 hb8
          clear c0 c1 c2 c3 y1 q1
          obtain ⟨c0, c1, c2, c3⟩ := kB.four
          go_wp2_with fail
          have KS := Lib.hid (show SL w1.heap.size pb k s e m r f w8 from ⟨c0, c1, c2, c3, y0⟩)
          have HBA := Lib.hid hbA
          have HTX := Lib.hid (HT.out.below hbA HT.out.pos)
          go_region_held3 (SL w1.heap.size pb k s e m r f) (first | with_reducible exact KS.out.drewS | with_reducible exact k9) (first | (go_at_call 34; refine (HIF.out _ (by exact HTX.out)).mono ?_; rintro x w9 ⟨rfl, hb9⟩; have k9 := KS.out.drewS.below hb9; have hb10 := HBA.out.drew.trans (hb9.mono HBA.out.drew.size)))
          all_goals go_wp2_with fail
          all_goals
            go_ret
            exact ⟨ret_bool (by simp), hb10⟩
        · have d6 := decide_eq_false hd1
          go_wp2_with fail
          have KS := Lib.hid (show SL w1.heap.size pb k s e m r f w6 from ⟨c0, c1, c2, c3, y0⟩)
          have HBA := Lib.hid hbA
          have HTX := Lib.hid (HT.out.below hbA HT.out.pos)
          go_region_held3 (SL w1.heap.size pb k s e m r f) (first | with_reducible exact KS.out.drewS | with_reducible exact k9) (first | (go_at_call 34; refine (HIF.out _ (by exact HTX.out)).mono ?_; rintro x w9 ⟨rfl, hb9⟩; have k9 := KS.out.drewS.below hb9; have hb10 := HBA.out.drew.trans (hb9.mono HBA.out.drew.size)))
          all_goals go_wp2_with fail
          all_goals
            go_ret
            exact ⟨ret_bool (by simp), hb10⟩
end Go.Proofs.YtcckopnpmcbbcaaDoor
