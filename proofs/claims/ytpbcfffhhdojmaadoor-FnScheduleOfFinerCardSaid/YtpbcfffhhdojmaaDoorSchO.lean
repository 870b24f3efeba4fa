/- The laws of schedules, fourth part. -/
import Derived.Test.YtpbcfffhhdojmaaDoorSchD
import Derived.Outline
namespace Go.Proofs.YtpbcfffhhdojmaaDoor
open Go.RowKit
namespace Sc
theorem S_half {e : Int} (j : Nat) : S e 12 j = S e 6 (2 * j) := by
  unfold S
  congr 1
  omega
theorem S_le {e m : Int} {j k : Nat} (hm : 1 ≤ m) (hjk : j ≤ k) (hj : (j : Int) * m ≤ 600) : S e m k ≤ S e m j := by
  rcases Nat.lt_or_ge j k with c | c
  · rcases Int.lt_or_le (S e m j) 0 with d | d
    · rcases Int.lt_or_le (S e m k) 0 with f | f
      · have := S_bd e m j; have := S_bd e m k; omega
      · have := S_down hm c f hj; omega
    · have := S_lt hm c d hj; omega
  · obtain rfl : j = k := by omega
    exact Int.le_refl _
/-- Each end of a year's period is one of half a year's. -/
theorem finer {s e : Int} (h6 : sch s e 6 ≠ []) : ∀ i, i < (sch s e 12).length → ∃ k, k < (sch s e 6).length ∧ ((sch s e 6).getD k p0).2.1 = ((sch s e 12).getD i p0).2.1 := by
  intro i hi
  obtain ⟨o6, n6, a6⟩ := sch_pos h6
  have h12 : sch s e 12 ≠ [] := fun c => by rw [c] at hi; simp at hi
  obtain ⟨o12, n12, a12⟩ := sch_pos h12
  rw [a12, all_len] at hi
  rw [a6, a12, all_len]
  have k6 := isN o6
  have k12 := isN o12
  have g := k12.gt (N s e 12 - 1 - i) (by omega)
  have hb : 2 * (N s e 12 - 1 - i) < N s e 6 := by
    rcases Nat.lt_or_ge (2 * (N s e 12 - 1 - i)) (N s e 6) with c | c
    · exact c
    · exfalso
      have h1 := k6.le (by omega)
      have h2 := S_le (e := e) (m := 6) (by omega) c (by omega)
      rw [S_half] at g
      omega
  refine ⟨N s e 6 - 1 - 2 * (N s e 12 - 1 - i), by omega, ?_⟩
  rw [show p0 = (0, 0, false) from rfl, all_get (by omega), all_get hi]
  show S e 6 (N s e 6 - (N s e 6 - 1 - 2 * (N s e 12 - 1 - i)) - 1) = S e 12 (N s e 12 - i - 1)
  rw [S_half]
  congr 1
  omega
end Sc
set_option maxHeartbeats 4000000 in
theorem lawScheduleOfFiner (a : Option Addr) (len cap : Nat) (zs : List Int) (w : World) (h : IsRow .u8 w a len cap zs) (hT : Tab w) :
    Calls Tryd.prog 12 #[.slice a len cap] w fun e w' => e = .returned (.bool true) ∧ Below w.heap.size w w' := by
  have H := Lib.hid h; clear h
  have HT := Lib.hid hT; clear hT
  by_cases hl : 1048576 < (len : Int)
  · go_enter Tryd.func12, Tryd.ntmps12
    go_wp2_with fail
    go_ret
    exact ⟨rfl, Below.refl _ _⟩
  · have hl' := decide_eq_false hl
    clear hl
    go_enter Tryd.func12, Tryd.ntmps12
    go_wp2_with fail
    refine (drawSch_any _ _ _ _ _ H.out).mono ?_
    rintro x w0 ⟨s, e, m, rfl, ⟨s0, s1⟩, ⟨e0, e1⟩, ⟨m0, m1⟩, hB0⟩
    have HT0 := Lib.hid (HT.out.below hB0 HT.out.pos)
    have hlen := Sc.sch_len s e m
    have HF := Lib.hid (@Sc.sch_pos s e m)
    have HI := Lib.hid (sched_any s e m)
    have HS := Lib.hid (sSchedule_any s e m)
    obtain ⟨ps, hps⟩ : ∃ ps, ps = Sc.sch s e m := ⟨_, rfl⟩
    rw [← hps] at hlen HF HI HS
    clear hps
    go_wp2_with fail
    refine (HI.out _ HT0.out).mono ?_
    rintro x w1 ⟨v1, rfl, hr1, hn1, hb1⟩
    have HR1 := Lib.hid hr1.rd; clear hr1
    have HN1 := Lib.hid hn1; clear hn1
    have C1 := Lib.hid (hB0.trans (hb1.mono hB0.size))
    go_wp2_with fail
    refine (HS.out _).mono ?_
    rintro x w2 ⟨v2, rfl, hr2, -, hb2⟩
    have HR2 := Lib.hid hr2.rd; clear hr2
    have HR12 := Lib.hid (HR1.out.below hb2 (Nat.le_refl _))
    have C2 := Lib.hid (C1.out.trans (hb2.mono C1.out.size))
    clear hb1 hb2
    go_wp2_with fail
    refine (eqP_same _ _ _ ps HR12.out HR2.out (by omega)).mono ?_
    rintro x w3 ⟨rfl, hb3⟩
    have HR13 := Lib.hid (HR12.out.below hb3 (Nat.le_refl _))
    have C3 := Lib.hid (C2.out.trans (hb3.mono C2.out.size))
    clear hb3
    by_cases hz : ps = []
    · have z1 := HN1.out.2 hz
      subst z1
      go_wp2_with fail
      refine (HS.out _).mono ?_
      rintro x w4 ⟨v4, rfl, hr4, -, hb4⟩
      have HR4 := Lib.hid hr4.rd; clear hr4
      have HR14 := Lib.hid (HR13.out.below hb4 (Nat.le_refl _))
      have C4 := Lib.hid (C3.out.trans (hb4.mono C3.out.size))
      clear hb4
      go_wp2_with fail
      refine (eqP_same _ _ _ ps HR14.out HR4.out (by omega)).mono ?_
      rintro x w5 ⟨rfl, hb5⟩
      have C5 := C4.out.trans (hb5.mono C4.out.size)
      go_wp2_with fail
      go_ret
      exact ⟨rfl, C5⟩
    · obtain ⟨ok, hN40, hall⟩ := HF.out hz
      have hk := Sc.isN ok
      have hn1' := hk.n1
      obtain ⟨n, hn⟩ : ∃ n, n = Sc.N s e m := ⟨_, rfl⟩
      have hpl : ps.length = n := by rw [hall, Sc.all_len, hn]
      obtain ⟨b, c, rfl, hbl, hc⟩ := HR13.out.2 (by omega)
      have HC := Lib.hid hc; clear hc
      have HA := Lib.hid (fun i hi => @Sc.all_facts s e m ok hN40 i hi)
      have HALL := Lib.hid hall
      rw [← HALL.out, ← hn] at HA
      rw [← hn] at hn1' hN40
      have HP := Lib.hid hpl
      have HNN := Lib.hid hn
      have OK := Lib.hid ok
      clear hz hall hk ok hn
      rw [hpl]
      clear hpl
      have n0 : (0 : Int) < n := by omega
      have nz : ((n : Int) == 0) = false := by simp; omega
      have HT3 := Lib.hid (HT.out.below C3.out HT.out.pos)
      have HFN := Lib.hid (fun h6 => @Sc.finer s e h6)
      have hy40 := Sc.sch_len s e 12
      have hh40 := Sc.sch_len s e 6
      have HY := Lib.hid (sched_any s e 12)
      have HH := Lib.hid (sched_any s e 6)
      generalize Sc.sch s e 12 = ys at hy40 HY HFN
      generalize Sc.sch s e 6 = hs at hh40 HH HFN
      go_wp2_with fail
      refine (HY.out _ HT3.out).mono ?_
      rintro y w4 ⟨vy, rfl, hry, -, hb4⟩
      have C4 := Lib.hid (C3.out.trans (hb4.mono C3.out.size))
      have HRY := Lib.hid hry.rd
      clear hry hb4
      go_wp2_with fail
      refine (HH.out _ (HT.out.below C4.out HT.out.pos)).mono ?_
      rintro y w5 ⟨vh, rfl, hrh, -, hb5⟩
      have C5 := Lib.hid (C4.out.trans (hb5.mono C4.out.size))
      have HRY5 := Lib.hid (HRY.out.below hb5 (Nat.le_refl _))
      have HRH := Lib.hid hrh.rd
      clear hrh hb5
      obtain ⟨ay, cy, rfl⟩ := HRY5.out.1
      obtain ⟨ah, ch, rfl⟩ := HRH.out.1
      obtain ⟨p, hp⟩ : ∃ p, p = ys.length := ⟨_, rfl⟩
      obtain ⟨q, hq⟩ : ∃ q, q = hs.length := ⟨_, rfl⟩
      have HPP := Lib.hid hp
      have HQQ := Lib.hid hq
      rw [← hp] at hy40
      rw [← hq] at hh40
      rw [← hp, ← hq]
      clear hp hq
      by_cases hq0 : q = 0
      · have q0 : decide (0 < (q : Int)) = false := by simp; omega
        go_wp2_with fail
        go_loopw [9] (fun x wr => x = .int .i64 0 ∧ wr = w5) (fun _ _ => 0)
        case atStart => exact ⟨rfl, rfl⟩
        case round =>
          obtain ⟨rfl, rfl⟩ := hrel
          by_cases hp0 : p = 0
          · have p0' : decide (0 < (p : Int)) = false := by simp; omega
            go_wp2_with fail
            go_ret
            exact ⟨rfl, C5.out⟩
          · have p0' : decide (0 < (p : Int)) = true := by simp; omega
            go_wp2_with fail
            go_ret
            exact ⟨rfl, C5.out⟩
      · have q0 : decide (0 < (q : Int)) = true := by simp; omega
        have qN : decide (0 < q) = true := by simp; omega
        obtain ⟨bh, ch', eh, hbh, hch⟩ := HRH.out.2 (by rw [← HQQ.out]; omega)
        rw [← HQQ.out] at eh
        simp only [Value.slice.injEq, true_and] at eh
        obtain ⟨rfl, rfl⟩ := eh
        have HCH := Lib.hid hch
        have HFN2 := Lib.hid (HFN.out (by rw [← List.length_pos_iff, ← HQQ.out]; omega))
        clear hch hq0
        go_wp2_with fail
        go_loopw [9] (fun x wr => ∃ i : Nat, i ≤ p ∧ x = .int .i64 i ∧ Below w5.heap.size w5 wr) (fun x _ => p - (intOf x).toNat)
        case atStart => exact ⟨0, Nat.zero_le _, rfl, Below.refl _ _⟩
        case round =>
          obtain ⟨i, hi, rfl, hb⟩ := hrel
          by_cases hlt : i < p
          · obtain ⟨by', cy', ey, hby, hcy⟩ := HRY5.out.2 (by rw [← HPP.out]; omega)
            rw [← HPP.out] at ey
            simp only [Value.slice.injEq, true_and] at ey
            obtain ⟨rfl, rfl⟩ := ey
            obtain ⟨-, d1, -⟩ := hcy i (by rw [← HPP.out]; exact hlt)
            obtain ⟨k0, hk0, hk1⟩ := HFN2.out i (by rw [← HPP.out]; exact hlt)
            rw [← HQQ.out] at hk0
            obtain ⟨z, hz⟩ : ∃ z, z = (ys.getD i p0).2.1 := ⟨_, rfl⟩
            rw [← hz] at d1 hk1
            have HK1 := Lib.hid hk1
            have HD1 := Lib.hid d1
            clear hcy hk1 hz d1
            have hsz := hb.size
            go_wp2_with fail
            go_loopw [10, 11] (fun y x wr2 => ∃ (k : Nat) (sm : Bool), k ≤ q ∧ x = .int .i64 k ∧ y = .bool sm ∧ Hid (k0 < k → sm = true) ∧ Below w5.heap.size w5 wr2) (fun _ x _ => q - (intOf x).toNat)
            case atStart => exact ⟨0, false, Nat.zero_le _, rfl, rfl, Lib.hid (fun h => by omega), hb⟩
            case round =>
              obtain ⟨k, sm, hk, rfl, rfl, HSM, hb2⟩ := hrel
              have hsz2 := hb2.size
              by_cases hltk : k < q
              · obtain ⟨-, g1, -⟩ := HCH.out k (by rw [← HQQ.out]; exact hltk)
                replace g1 := (hb2.cell (p := ⟨bh, k * 3 + 1, none⟩) hbh).trans g1
                have d1 := (hb2.cell (p := ⟨by', i * 3 + 1, none⟩) hby).trans HD1.out
                obtain ⟨u, hu⟩ : ∃ u, u = (hs.getD k p0).2.1 := ⟨_, rfl⟩
                rw [← hu] at g1
                have HU := Lib.hid hu
                clear hu
                cases sm with
                | true =>
                  go_wp2_with fail
                  go_quiet (fail)
                  go_wp2_with fail
                  go_roundw
                  case rel => exact ⟨k + 1, true, by omega, by go_num, rfl, Lib.hid (fun _ => rfl), below_drewN hb2 _⟩
                  case measure => simp [intOf] <;> omega
                | false =>
                  cases huz : (u == z) with
                  | true =>
                    go_wp2_with fail
                    go_quiet (fail)
                    go_wp2_with fail
                    go_roundw
                    case rel => exact ⟨k + 1, true, by omega, by go_num, rfl, Lib.hid (fun _ => rfl), below_drewN hb2 _⟩
                    case measure => simp [intOf] <;> omega
                  | false =>
                    go_wp2_with fail
                    go_quiet (fail)
                    go_wp2_with fail
                    go_roundw
                    case rel =>
                      refine ⟨k + 1, false, by omega, by go_num, rfl, Lib.hid (fun h => ?_), below_drewN hb2 _⟩
                      rcases Nat.lt_or_ge k0 k with c | c
                      · exact HSM.out c
                      · exfalso
                        obtain rfl : k = k0 := by omega
                        rw [HU.out, HK1.out] at huz
                        simp at huz
                    case measure => simp [intOf] <;> omega
              · obtain rfl : k = q := by omega
                obtain rfl := HSM.out hk0
                go_wp2_with fail
                go_roundw
                case rel => exact ⟨i + 1, by omega, by go_num, hb2⟩
                case measure => simp [intOf] <;> omega
          · obtain rfl : i = p := by omega
            go_wp2_with fail
            go_ret
            exact ⟨rfl, C5.out.trans (hb.mono C5.out.size)⟩
end Go.Proofs.YtpbcfffhhdojmaaDoor
