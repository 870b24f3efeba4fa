/- The laws of schedules, second part. -/
import Derived.Test.YtpbcfffhhdojmaaDoorSchD
import Derived.Outline
namespace Go.Proofs.YtpbcfffhhdojmaaDoor
open Go.RowKit
set_option maxHeartbeats 4000000 in
theorem lawScheduleOfEnd (a : Option Addr) (len cap : Nat) (zs : List Int) (w : World) (h : IsRow .u8 w a len cap zs) (hT : Tab w) :
    Calls Tryd.prog 9 #[.slice a len cap] w fun e w' => e = .returned (.bool true) ∧ Below w.heap.size w w' := by
  have H := Lib.hid h; clear h
  have HT := Lib.hid hT; clear hT
  by_cases hl : 1048576 < (len : Int)
  · go_enter Tryd.func9, Tryd.ntmps9
    go_wp2_with fail
    go_ret
    exact ⟨rfl, Below.refl _ _⟩
  · have hl' := decide_eq_false hl
    clear hl
    go_enter Tryd.func9, Tryd.ntmps9
    go_wp2_with fail
    refine (drawSch_any _ _ _ _ _ H.out).mono ?_
    rintro x w0 ⟨s, e, m, rfl, ⟨s0, s1⟩, ⟨e0, e1⟩, ⟨m0, m1⟩, hB0⟩
    have HT0 := Lib.hid (HT.out.below hB0 HT.out.pos)
    have hlen := Sc.sch_len s e m
    have HF := Lib.hid (@Sc.sch_pos s e m)
    have HI := Lib.hid (sched_any s e m)
    have HS := Lib.hid (sSchedule_any s e m)
    obtain ⟨ps, hps⟩ : ∃ ps, ps = Sc.sch s e m := ⟨_, rfl⟩
    rw [← hps] at hlen HF HI HS
    clear hps
    go_wp2_with fail
    refine (HI.out _ HT0.out).mono ?_
    rintro x w1 ⟨v1, rfl, hr1, hn1, hb1⟩
    have HR1 := Lib.hid hr1.rd; clear hr1
    have HN1 := Lib.hid hn1; clear hn1
    have C1 := Lib.hid (hB0.trans (hb1.mono hB0.size))
    go_wp2_with fail
    refine (HS.out _).mono ?_
    rintro x w2 ⟨v2, rfl, hr2, -, hb2⟩
    have HR2 := Lib.hid hr2.rd; clear hr2
    have HR12 := Lib.hid (HR1.out.below hb2 (Nat.le_refl _))
    have C2 := Lib.hid (C1.out.trans (hb2.mono C1.out.size))
    clear hb1 hb2
    go_wp2_with fail
    refine (eqP_same _ _ _ ps HR12.out HR2.out (by omega)).mono ?_
    rintro x w3 ⟨rfl, hb3⟩
    have HR13 := Lib.hid (HR12.out.below hb3 (Nat.le_refl _))
    have C3 := Lib.hid (C2.out.trans (hb3.mono C2.out.size))
    clear hb3
    by_cases hz : ps = []
    · have z1 := HN1.out.2 hz
      subst z1
      go_wp2_with fail
      refine (HS.out _).mono ?_
      rintro x w4 ⟨v4, rfl, hr4, -, hb4⟩
      have HR4 := Lib.hid hr4.rd; clear hr4
      have HR14 := Lib.hid (HR13.out.below hb4 (Nat.le_refl _))
      have C4 := Lib.hid (C3.out.trans (hb4.mono C3.out.size))
      clear hb4
      go_wp2_with fail
      refine (eqP_same _ _ _ ps HR14.out HR4.out (by omega)).mono ?_
      rintro x w5 ⟨rfl, hb5⟩
      have C5 := C4.out.trans (hb5.mono C4.out.size)
      go_wp2_with fail
      go_ret
      exact ⟨rfl, C5⟩
    · obtain ⟨ok, hN40, hall⟩ := HF.out hz
      have hk := Sc.isN ok
      have hn1' := hk.n1
      obtain ⟨n, hn⟩ : ∃ n, n = Sc.N s e m := ⟨_, rfl⟩
      have hpl : ps.length = n := by rw [hall, Sc.all_len, hn]
      obtain ⟨b, c, rfl, hbl, hc⟩ := HR13.out.2 (by omega)
      have HC := Lib.hid hc; clear hc
      have HA := Lib.hid (fun i hi => @Sc.all_facts s e m ok hN40 i hi)
      have HALL := Lib.hid hall
      rw [← HALL.out, ← hn] at HA
      rw [← hn] at hn1' hN40
      have HP := Lib.hid hpl
      have HNN := Lib.hid hn
      have OK := Lib.hid ok
      clear hz hall hk ok hn
      rw [hpl]
      clear hpl
      have n0 : (0 : Int) < n := by omega
      have nz : ((n : Int) == 0) = false := by simp; omega
      have HN2 := Lib.hid (Sc.isN OK.out)
      have HM := Lib.hid (Sc.okB_iff.1 OK.out)
      have hle := HN2.out.le (by rw [← HNN.out]; omega)
      rw [← HNN.out] at hle
      have hmm := Sc.mon_bd HM.out.2
      obtain ⟨mm0, mm1⟩ := hmm
      obtain ⟨nm0, nm1⟩ := Sc.km_bd HM.out.2 (k := n) (by omega)
      have nm2 : -504 ≤ -m * (n : Int) ∧ -m * (n : Int) ≤ 0 := by rw [Int.neg_mul, Int.mul_comm]; omega
      obtain ⟨nm2, nm3⟩ := nm2
      have hadd : ∀ (k : Nat) (x : Int), x = k → ∀ W, Tab W → Calls Tryd.prog 31 #[.int .i64 e, .int .i64 (-m * x)] W fun y w' => y = .returned (.int .i64 (Sc.S e m k)) ∧ Below W.heap.size W w' := by
        rintro k x rfl W hW
        have := addMonths_any e (-m * (k : Int)) W hW
        have e1 : addV e (-m * (k : Int)) = Sc.S e m k := by unfold Sc.S; rw [Int.neg_mul, Int.mul_comm]
        rw [e1] at this
        exact this
      have HADD := Lib.hid hadd; clear hadd
      have HT3 := Lib.hid (HT.out.below C3.out HT.out.pos)
      have hp3 := HT3.out.pos
      go_wp2_with fail
      go_loopw [7] (fun x wr => ∃ i : Nat, i ≤ n ∧ x = .int .i64 i ∧ Below w3.heap.size w3 wr) (fun x _ => n - (intOf x).toNat)
      case atStart => exact ⟨0, Nat.zero_le _, rfl, Below.refl _ _⟩
      case round =>
        obtain ⟨i, hi, rfl, hb⟩ := hrel
        by_cases hlt : i < n
        · obtain ⟨f, t, bb, hg, -, -, ⟨t0, t1⟩, ht, -, -, -⟩ := HA.out i hlt
          obtain ⟨-, c1, -⟩ := HC.out i (by rw [HP.out]; exact hlt)
          rw [show ps.getD i p0 = (f, t, bb) from hg] at c1
          dsimp only at c1
          replace c1 := (hb.cell (p := ⟨b, i * 3 + 1, none⟩) hbl).trans c1
          have hsz := hb.size
          have HTr := Lib.hid (HT3.out.below hb hp3)
          have ha : ∀ W, Tab W → Calls Tryd.prog 31 #[.int .i64 e, .int .i64 (-m * ((n : Int) - 1 - i))] W fun y w' => y = .returned (.int .i64 t) ∧ Below W.heap.size W w' := fun W hW => by
            rw [ht]
            exact HADD.out (n - 1 - i) _ (by omega) W hW
          have HAT := Lib.hid ha
          obtain ⟨g0, g1⟩ := Sc.km_bd HM.out.2 (k := n - 1 - i) (by omega)
          have g2 : -504 ≤ -m * ((n : Int) - 1 - i) ∧ -m * ((n : Int) - 1 - i) ≤ 0 := by
            rw [show (n : Int) - 1 - i = ((n - 1 - i : Nat) : Int) by omega, Int.neg_mul, Int.mul_comm]; omega
          obtain ⟨g2, g3⟩ := g2
          clear hg ht ha
          have w1' : IntKind.i64.wrap (-m) = -m := IntWalk.i64_in _ (by omega)
          have w2' : IntKind.i64.wrap ((n : Int) - 1) = (n : Int) - 1 := IntWalk.i64_in _ (by omega)
          have w3' : IntKind.i64.wrap ((n : Int) - 1 - i) = (n : Int) - 1 - i := IntWalk.i64_in _ (by omega)
          have w4' : IntKind.i64.wrap (-m * ((n : Int) - 1 - i)) = -m * ((n : Int) - 1 - i) := IntWalk.i64_in _ (by omega)
          go_wp2_with fail
          go_region_held3 (fun w' => w'.cell? ⟨b, i * 3 + 1, none⟩ = some (.int .i64 t)) (first | exact hkeep | go_keep)
            (first | (go_at_call 31; refine (HAT.out _ (by exact HTr.out)).mono ?_; rintro y wx ⟨rfl, hbx⟩; have hkeep : wx.cell? ⟨b, i * 3 + 1, none⟩ = some (.int .i64 t) := (hbx.cell (p := ⟨b, i * 3 + 1, none⟩) (by show b < wr.heap.size; omega)).trans c1))
          all_goals
            clear w1' w2' w3' w4'
            go_wp2_with fail
            go_roundw
            case rel => exact ⟨i + 1, by omega, by go_num, hb.drew.trans (hbx.mono hsz)⟩
            case measure => simp [intOf] <;> omega
        · obtain rfl : i = n := by omega
          have HTr := Lib.hid (HT3.out.below hb hp3)
          have hS := Sc.S_bd e m i
          obtain ⟨hS0, hS1⟩ := hS
          have HAT := Lib.hid (HADD.out i (i : Int) rfl)
          go_wp2_with fail
          refine (HAT.out _ HTr.out).mono ?_
          rintro y wx ⟨rfl, hbx⟩
          have C4 := C3.out.trans (hb.mono C3.out.size)
          have C5 := C4.trans (hbx.mono C4.size)
          go_wp2_with fail
          go_ret
          exact ⟨ret_bool (by simp), C5⟩
end Go.Proofs.YtpbcfffhhdojmaaDoor
