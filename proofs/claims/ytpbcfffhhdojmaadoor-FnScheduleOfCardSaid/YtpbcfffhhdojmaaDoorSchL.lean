/- The laws of schedules. -/
import Derived.Test.YtpbcfffhhdojmaaDoorSchD
import Derived.Outline
namespace Go.Proofs.YtpbcfffhhdojmaaDoor
open Go.RowKit
set_option maxHeartbeats 4000000 in
theorem lawScheduleOf (a : Option Addr) (len cap : Nat) (zs : List Int) (w : World) (h : IsRow .u8 w a len cap zs) (hT : Tab w) :
    Calls Tryd.prog 8 #[.slice a len cap] w fun e w' => e = .returned (.bool true) ∧ Below w.heap.size w w' := by
  have H := Lib.hid h; clear h
  have HT := Lib.hid hT; clear hT
  by_cases hl : 1048576 < (len : Int)
  · go_enter Tryd.func8, Tryd.ntmps8
    go_wp2_with fail
    go_ret
    exact ⟨rfl, Below.refl _ _⟩
  · have hl' := decide_eq_false hl
    clear hl
    go_enter Tryd.func8, Tryd.ntmps8
    go_wp2_with fail
    refine (drawSch_any _ _ _ _ _ H.out).mono ?_
    rintro x w0 ⟨s, e, m, rfl, ⟨s0, s1⟩, ⟨e0, e1⟩, ⟨m0, m1⟩, hB0⟩
    have HT0 := Lib.hid (HT.out.below hB0 HT.out.pos)
    have hlen := Sc.sch_len s e m
    have HF := Lib.hid (@Sc.sch_pos s e m)
    have HI := Lib.hid (sched_any s e m)
    have HS := Lib.hid (sSchedule_any s e m)
    obtain ⟨ps, hps⟩ : ∃ ps, ps = Sc.sch s e m := ⟨_, rfl⟩
    rw [← hps] at hlen HF HI HS
    clear hps
    go_wp2_with fail
    refine (HI.out _ HT0.out).mono ?_
    rintro x w1 ⟨v1, rfl, hr1, hn1, hb1⟩
    have HR1 := Lib.hid hr1.rd; clear hr1
    have HN1 := Lib.hid hn1; clear hn1
    have C1 := Lib.hid (hB0.trans (hb1.mono hB0.size))
    go_wp2_with fail
    refine (HS.out _).mono ?_
    rintro x w2 ⟨v2, rfl, hr2, -, hb2⟩
    have HR2 := Lib.hid hr2.rd; clear hr2
    have HR12 := Lib.hid (HR1.out.below hb2 (Nat.le_refl _))
    have C2 := Lib.hid (C1.out.trans (hb2.mono C1.out.size))
    clear hb1 hb2
    go_wp2_with fail
    refine (eqP_same _ _ _ ps HR12.out HR2.out (by omega)).mono ?_
    rintro x w3 ⟨rfl, hb3⟩
    have HR13 := Lib.hid (HR12.out.below hb3 (Nat.le_refl _))
    have C3 := Lib.hid (C2.out.trans (hb3.mono C2.out.size))
    clear hb3
    by_cases hz : ps = []
    · have z1 := HN1.out.2 hz
      subst z1
      go_wp2_with fail
      refine (HS.out _).mono ?_
      rintro x w4 ⟨v4, rfl, hr4, -, hb4⟩
      have HR4 := Lib.hid hr4.rd; clear hr4
      have HR14 := Lib.hid (HR13.out.below hb4 (Nat.le_refl _))
      have C4 := Lib.hid (C3.out.trans (hb4.mono C3.out.size))
      clear hb4
      go_wp2_with fail
      refine (eqP_same _ _ _ ps HR14.out HR4.out (by omega)).mono ?_
      rintro x w5 ⟨rfl, hb5⟩
      have C5 := C4.out.trans (hb5.mono C4.out.size)
      go_wp2_with fail
      go_ret
      exact ⟨rfl, C5⟩
    · obtain ⟨ok, hN40, hall⟩ := HF.out hz
      have hk := Sc.isN ok
      have hn1' := hk.n1
      obtain ⟨n, hn⟩ : ∃ n, n = Sc.N s e m := ⟨_, rfl⟩
      have hpl : ps.length = n := by rw [hall, Sc.all_len, hn]
      obtain ⟨b, c, rfl, hbl, hc⟩ := HR13.out.2 (by omega)
      have HC := Lib.hid hc; clear hc
      have HA := Lib.hid (fun i hi => @Sc.all_facts s e m ok hN40 i hi)
      have HALL := Lib.hid hall
      rw [← HALL.out, ← hn] at HA
      rw [← hn] at hn1' hN40
      have HP := Lib.hid hpl
      have HNN := Lib.hid hn
      have OK := Lib.hid ok
      clear hz hall hk ok hn
      rw [hpl]
      clear hpl
      have n0 : (0 : Int) < n := by omega
      have nz : ((n : Int) == 0) = false := by simp; omega
      go_wp2_with fail
      go_loopw [7] (fun x wr => ∃ i : Nat, i ≤ n ∧ x = .int .i64 i ∧ Below w3.heap.size w3 wr) (fun x _ => n - (intOf x).toNat)
      case atStart => exact ⟨0, Nat.zero_le _, rfl, Below.refl _ _⟩
      case round =>
        obtain ⟨i, hi, rfl, hb⟩ := hrel
        by_cases hlt : i < n
        · obtain ⟨f, t, bb, hg, hft, ⟨f0, f1⟩, ⟨t0, t1⟩, -, -, -, hpre⟩ := HA.out i hlt
          obtain ⟨c0, c1, c2⟩ := HC.out i (by rw [HP.out]; exact hlt)
          rw [show ps.getD i p0 = (f, t, bb) from hg] at c0 c1 c2
          replace c0 := (hb.cell (p := ⟨b, i * 3, none⟩) hbl).trans c0
          replace c1 := (hb.cell (p := ⟨b, i * 3 + 1, none⟩) hbl).trans c1
          replace c2 := (hb.cell (p := ⟨b, i * 3 + 2, none⟩) hbl).trans c2
          have d1 : decide (t ≤ f) = false := decide_eq_false (by omega)
          clear hg
          by_cases i0 : 0 < i
          · obtain ⟨hbb, hff⟩ := hpre i0
            subst hbb
            obtain ⟨-, g1, -⟩ := HC.out (i - 1) (by rw [HP.out]; omega)
            replace g1 := (hb.cell (p := ⟨b, (i - 1) * 3 + 1, none⟩) hbl).trans g1
            rw [show (ps.getD (i - 1) p0).2.1 = f from hff.symm] at g1
            have i0' : decide (0 < (i : Int)) = true := by simp; omega
            clear hff hpre
            have i1 : (1 : Int) ≤ (i : Int) := by omega
            have i2 : (0 : Int) ≤ (i : Int) - 1 := by omega
            have i3 : (i : Int) - 1 < n := by omega
            have w1' : IntKind.i64.wrap ((i : Int) - 1) = (i : Int) - 1 := IntWalk.i64_in _ (by omega)
            have w2' : ((i : Int) - 1).toNat = i - 1 := by omega
            go_wp2_with fail
            go_quiet (fail)
            clear w1' w2'
            go_wp2_with fail
            go_roundw
            case rel => exact ⟨i + 1, by omega, by go_num, below_drewN hb _⟩
            case measure => simp [intOf] <;> omega
          · have i0' : decide (0 < (i : Int)) = false := by simp; omega
            clear hpre
            go_wp2_with fail
            go_quiet (fail)
            go_wp2_with fail
            go_roundw
            case rel => exact ⟨i + 1, by omega, by go_num, below_drewN hb _⟩
            case measure => simp [intOf] <;> omega
        · obtain rfl : i = n := by omega
          obtain ⟨f, t, bb, hg, -, -, -, -, hfs, -, -⟩ := HA.out 0 (by omega)
          obtain ⟨c0, -, -⟩ := HC.out 0 (by rw [HP.out]; omega)
          rw [show ps.getD 0 p0 = (f, t, bb) from hg, show f = s from hfs rfl] at c0
          obtain ⟨f', t', bb', hg', -, -, -, -, -, hte, -⟩ := HA.out (i - 1) (by omega)
          obtain ⟨-, c1, -⟩ := HC.out (i - 1) (by rw [HP.out]; omega)
          rw [show ps.getD (i - 1) p0 = (f', t', bb') from hg', show t' = e from hte (by omega)] at c1
          replace c0 := (hb.cell (p := ⟨b, 0 * 3, none⟩) hbl).trans c0
          replace c1 := (hb.cell (p := ⟨b, (i - 1) * 3 + 1, none⟩) hbl).trans c1
          simp only [Nat.zero_mul] at c0
          clear hg hg' hfs hte
          go_wp2_with fail
          go_ret
          exact ⟨ret_bool (by simp), C3.out.trans (hb.mono C3.out.size)⟩
end Go.Proofs.YtpbcfffhhdojmaaDoor
