/- The laws of schedules, third part. -/
import Derived.Test.YtpbcfffhhdojmaaDoorSchD
import Derived.Outline
namespace Go.Proofs.YtpbcfffhhdojmaaDoor
open Go.RowKit
set_option maxHeartbeats 4000000 in
theorem lawScheduleOfWhole (a : Option Addr) (len cap : Nat) (zs : List Int) (w : World) (h : IsRow .u8 w a len cap zs) (hT : Tab w) :
    Calls Tryd.prog 11 #[.slice a len cap] w fun e w' => e = .returned (.bool true) ∧ Below w.heap.size w w' := by
  have H := Lib.hid h; clear h
  have HT := Lib.hid hT; clear hT
  by_cases hl : 1048576 < (len : Int)
  · go_enter Tryd.func11, Tryd.ntmps11
    go_wp2_with fail
    go_ret
    exact ⟨rfl, Below.refl _ _⟩
  · have hl' := decide_eq_false hl
    clear hl
    go_enter Tryd.func11, Tryd.ntmps11
    go_wp2_with fail
    refine (drawSch_any _ _ _ _ _ H.out).mono ?_
    rintro x w0 ⟨s, e, m, rfl, ⟨s0, s1⟩, ⟨e0, e1⟩, ⟨m0, m1⟩, hB0⟩
    have HT0 := Lib.hid (HT.out.below hB0 HT.out.pos)
    have hlen := Sc.sch_len s e m
    have HF := Lib.hid (@Sc.sch_pos s e m)
    have HI := Lib.hid (sched_any s e m)
    have HS := Lib.hid (sSchedule_any s e m)
    obtain ⟨ps, hps⟩ : ∃ ps, ps = Sc.sch s e m := ⟨_, rfl⟩
    rw [← hps] at hlen HF HI HS
    clear hps
    go_wp2_with fail
    refine (HI.out _ HT0.out).mono ?_
    rintro x w1 ⟨v1, rfl, hr1, hn1, hb1⟩
    have HR1 := Lib.hid hr1.rd; clear hr1
    have HN1 := Lib.hid hn1; clear hn1
    have C1 := Lib.hid (hB0.trans (hb1.mono hB0.size))
    go_wp2_with fail
    refine (HS.out _).mono ?_
    rintro x w2 ⟨v2, rfl, hr2, -, hb2⟩
    have HR2 := Lib.hid hr2.rd; clear hr2
    have HR12 := Lib.hid (HR1.out.below hb2 (Nat.le_refl _))
    have C2 := Lib.hid (C1.out.trans (hb2.mono C1.out.size))
    clear hb1 hb2
    go_wp2_with fail
    refine (eqP_same _ _ _ ps HR12.out HR2.out (by omega)).mono ?_
    rintro x w3 ⟨rfl, hb3⟩
    have HR13 := Lib.hid (HR12.out.below hb3 (Nat.le_refl _))
    have C3 := Lib.hid (C2.out.trans (hb3.mono C2.out.size))
    clear hb3
    by_cases hz : ps = []
    · have z1 := HN1.out.2 hz
      subst z1
      go_wp2_with fail
      refine (HS.out _).mono ?_
      rintro x w4 ⟨v4, rfl, hr4, -, hb4⟩
      have HR4 := Lib.hid hr4.rd; clear hr4
      have HR14 := Lib.hid (HR13.out.below hb4 (Nat.le_refl _))
      have C4 := Lib.hid (C3.out.trans (hb4.mono C3.out.size))
      clear hb4
      go_wp2_with fail
      refine (eqP_same _ _ _ ps HR14.out HR4.out (by omega)).mono ?_
      rintro x w5 ⟨rfl, hb5⟩
      have C5 := C4.out.trans (hb5.mono C4.out.size)
      go_wp2_with fail
      go_ret
      exact ⟨rfl, C5⟩
    · obtain ⟨ok, hN40, hall⟩ := HF.out hz
      have hk := Sc.isN ok
      have hn1' := hk.n1
      obtain ⟨n, hn⟩ : ∃ n, n = Sc.N s e m := ⟨_, rfl⟩
      have hpl : ps.length = n := by rw [hall, Sc.all_len, hn]
      obtain ⟨b, c, rfl, hbl, hc⟩ := HR13.out.2 (by omega)
      have HC := Lib.hid hc; clear hc
      have HA := Lib.hid (fun i hi => @Sc.all_facts s e m ok hN40 i hi)
      have HALL := Lib.hid hall
      rw [← HALL.out, ← hn] at HA
      rw [← hn] at hn1' hN40
      have HP := Lib.hid hpl
      have HNN := Lib.hid hn
      have OK := Lib.hid ok
      clear hz hall hk ok hn
      rw [hpl]
      clear hpl
      have n0 : (0 : Int) < n := by omega
      have nz : ((n : Int) == 0) = false := by simp; omega
      have HN2 := Lib.hid (Sc.isN OK.out)
      have HM := Lib.hid (Sc.okB_iff.1 OK.out)
      have hle := HN2.out.le (by rw [← HNN.out]; omega)
      rw [← HNN.out] at hle
      have hmm := Sc.mon_bd HM.out.2
      obtain ⟨mm0, mm1⟩ := hmm
      obtain ⟨nm0, nm1⟩ := Sc.km_bd HM.out.2 (k := n) (by omega)
      have nm2 : -504 ≤ -m * (n : Int) ∧ -m * (n : Int) ≤ 0 := by rw [Int.neg_mul, Int.mul_comm]; omega
      obtain ⟨nm2, nm3⟩ := nm2
      have hadd : ∀ W, Tab W → Calls Tryd.prog 31 #[.int .i64 e, .int .i64 (-m * (n : Int))] W fun y w' => y = .returned (.int .i64 (Sc.S e m n)) ∧ Below W.heap.size W w' := fun W hW => by
        have := addMonths_any e (-m * (n : Int)) W hW
        have e1 : addV e (-m * (n : Int)) = Sc.S e m n := by unfold Sc.S; rw [Int.neg_mul, Int.mul_comm]
        rw [e1] at this
        exact this
      have HADD := Lib.hid hadd; clear hadd
      have HT3 := Lib.hid (HT.out.below C3.out HT.out.pos)
      obtain ⟨f, t, bb, hg, -, -, -, -, -, -, -⟩ := HA.out 0 (by omega)
      obtain ⟨-, -, c2⟩ := HC.out 0 (by rw [HP.out]; omega)
      have hbb : bb = (Sc.S e m n == s) := by
        have h1 : (ps.getD 0 (0, 0, false)).2.2 = decide (s ≤ Sc.S e m n) := by
          rw [HALL.out, Sc.all_get (by rw [← HNN.out]; omega), ← HNN.out]; rfl
        rw [hg] at h1
        have h2 : bb = decide (s ≤ Sc.S e m n) := h1
        rw [h2]
        by_cases c : Sc.S e m n = s
        · rw [c]; simp
        · rw [decide_eq_false (by omega)]; symm; simpa using c
      rw [show ps.getD 0 p0 = (f, t, bb) from hg] at c2
      dsimp only at c2
      simp only [Nat.zero_mul] at c2
      have HBB := Lib.hid hbb
      have HC2 := Lib.hid c2
      clear hg hbb c2
      have hS := Sc.S_bd e m n
      obtain ⟨hS0, hS1⟩ := hS
      obtain ⟨B, hB⟩ : ∃ B, B = Sc.S e m n := ⟨_, rfl⟩
      rw [← hB] at HADD HBB hS0 hS1 hle
      have HBE := Lib.hid hB
      have hw := Lib.hid (sched_any B e m)
      by_cases hneg : B < 0
      · have hE := Lib.hid (show Sc.sch B e m = [] from Sc.sch_no1 (by unfold Sc.okB; rw [decide_eq_false (by omega)]; rfl))
        clear hB
        go_wp2_with fail
        refine (HADD.out _ HT3.out).mono ?_
        rintro y w4 ⟨rfl, hb4⟩
        have C4 := Lib.hid (C3.out.trans (hb4.mono C3.out.size))
        clear hb4
        go_wp2_with fail
        refine (hw.out _ (HT.out.below C4.out HT.out.pos)).mono ?_
        rintro y w5 ⟨v5, rfl, -, hn5, hb5⟩
        have C5 := Lib.hid (C4.out.trans (hb5.mono C4.out.size))
        obtain rfl := hn5.2 hE.out
        clear hn5 hb5
        go_wp2_with fail
        go_loopw [9] (fun x wr => x = .int .i64 0 ∧ wr = w5) (fun _ _ => 0)
        case atStart => exact ⟨rfl, rfl⟩
        case round =>
          obtain ⟨rfl, rfl⟩ := hrel
          go_wp2_with fail
          go_ret
          exact ⟨ret_bool (by simp), C5.out⟩
      · have hBe : B < e := by
          rw [hB]
          have := Sc.S_lt (e := e) (m := m) (j := 0) (k := n) (by omega) (by omega) (by rw [Sc.S_zero (by have := HM.out.1; omega) HM.out.1.2.2]; have := HM.out.1; omega) (by omega)
          rw [Sc.S_zero (by have := HM.out.1; omega) HM.out.1.2.2] at this
          exact this
        have okB' : Sc.okB B e m = true := Sc.okB_iff.2 ⟨⟨by omega, hBe, HM.out.1.2.2⟩, HM.out.2⟩
        have hN' : Sc.N B e m = n := Sc.N_eq okB' ⟨by omega, by omega, fun j hj => by
          rw [hB]
          have := HN2.out.gt j (by rw [← HNN.out]; exact hj)
          have := HM.out.1
          exact Sc.S_lt (by omega) hj (by omega) (by have := Sc.km_bd HM.out.2 (k := j) (by omega); omega), fun _ => by rw [hB]; exact Int.le_refl _⟩
        have hsch : Sc.sch B e m = Sc.all B e m := Sc.sch_yes okB' (by rw [hN']; exact hN40)
        have hwl : (Sc.sch B e m).length = n := by rw [hsch, Sc.all_len, hN']
        have hwt : ∀ i, i < n → ((Sc.sch B e m).getD i p0).2.2 = true := fun i hi => by
          rw [hsch, show p0 = (0, 0, false) from rfl, Sc.all_get (by rw [hN']; exact hi), hN']
          show decide (B ≤ Sc.S e m (n - i)) = true
          rw [decide_eq_true]
          rw [hB]
          rcases Nat.eq_zero_or_pos i with c | c
          · subst c; exact Int.le_refl _
          · have := HN2.out.gt (n - i) (by rw [← HNN.out]; omega)
            have := HM.out.1
            exact Int.le_of_lt (Sc.S_lt (by omega) (by omega) (by omega) (by have := Sc.km_bd HM.out.2 (k := n - i) (by omega); omega))
        have HWL := Lib.hid hwl
        have HWT := Lib.hid hwt
        clear hB hsch hwl hwt hN' okB'
        go_wp2_with fail
        refine (HADD.out _ HT3.out).mono ?_
        rintro y w4 ⟨rfl, hb4⟩
        have C4 := Lib.hid (C3.out.trans (hb4.mono C3.out.size))
        have c4 := (hb4.cell (p := ⟨b, 2, none⟩) hbl).trans HC2.out
        have hbl4 : b < w4.heap.size := Nat.lt_of_lt_of_le hbl hb4.size
        have HC4 := Lib.hid c4
        clear hb4 c4
        go_wp2_with fail
        refine (hw.out _ (HT.out.below C4.out HT.out.pos)).mono ?_
        rintro y w5 ⟨v5, rfl, hr5, -, hb5⟩
        have C5 := Lib.hid (C4.out.trans (hb5.mono C4.out.size))
        have c5 := (hb5.cell (p := ⟨b, 2, none⟩) hbl4).trans HC4.out
        have HC5 := Lib.hid c5
        obtain ⟨b2, cc2, rfl, hbl2, hcc⟩ := hr5.rd.2 (by rw [HWL.out]; omega)
        rw [HWL.out]
        have hbl5 : b < w5.heap.size := Nat.lt_of_lt_of_le hbl4 hb5.size
        have HCC := Lib.hid hcc
        clear hcc hr5 hb5 c5
        go_wp2_with fail
        go_loopw [9] (fun x wr => ∃ i : Nat, i ≤ n ∧ x = .int .i64 i ∧ Below w5.heap.size w5 wr) (fun x _ => n - (intOf x).toNat)
        case atStart => exact ⟨0, Nat.zero_le _, rfl, Below.refl _ _⟩
        case round =>
          obtain ⟨i, hi, rfl, hb⟩ := hrel
          by_cases hlt : i < n
          · obtain ⟨-, -, d2⟩ := HCC.out i (by rw [HWL.out]; exact hlt)
            rw [HWT.out i hlt] at d2
            replace d2 := (hb.cell (p := ⟨b2, i * 3 + 2, none⟩) hbl2).trans d2
            go_wp2_with fail
            go_roundw
            case rel => exact ⟨i + 1, by omega, by go_num, hb⟩
            case measure => simp [intOf] <;> omega
          · obtain rfl : i = n := by omega
            have c6 := (hb.cell (p := ⟨b, 2, none⟩) hbl5).trans HC5.out
            rw [HBB.out] at c6
            go_wp2_with fail
            go_ret
            exact ⟨ret_bool (by simp), C5.out.trans (hb.mono C5.out.size)⟩
end Go.Proofs.YtpbcfffhhdojmaaDoor
