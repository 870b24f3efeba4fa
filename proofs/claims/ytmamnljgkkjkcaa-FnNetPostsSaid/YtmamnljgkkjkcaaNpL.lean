/- The law of netting. -/
import Derived.Test.YtmamnljgkkjkcaaNpS
import Derived.Test.YtmamnljgkkjkcaaPtE
import Derived.Test.YtmamnljgkkjkcaaBal2
import Derived.Test.YtmamnljgkkjkcaaPsL
namespace Go.Proofs.Ytmamnljgkkjkcaa
open Go.RowKit
set_option maxHeartbeats 1000000 in
theorem drawNP_any (w : World) (a : Option Addr) (len cap : Nat) (zs : List Int) (h : IsRow .u8 w a len cap zs) :
    Calls Try.prog 21 #[.slice a len cap] w (DPs w) := by
  have H := Lib.hid h; clear h
  go_enter Try.func21, Try.ntmps21
  go_wp2_with fail
  refine (newReader_any _ _ _ _ _ H.out).mono ?_
  rintro e w1 ⟨g, rfl, hg, hr, hb⟩
  go_wp2_with fail
  refine (anyPosts_any _ _ _ hr (by omega)).mono ?_
  rintro e w2 ⟨v, ps, rfl, hF, hl, hI, hn, hr2, hg2⟩
  obtain ⟨b, c, rfl⟩ := hF.slice hn
  have HF := Lib.hid (hF.lower hb.size)
  have HI := Lib.hid hI
  clear hF hI hn
  go_wp2_with fail
  go_ret
  exact ⟨_, ps, rfl, HF.out, hl, HI.out, ⟨_, _, rfl⟩, below_grown hb hg2 (by omega)⟩
set_option maxRecDepth 8000 in
set_option maxHeartbeats 8000000 in
theorem lawNetPosts (a : Option Addr) (len cap : Nat) (zs : List Int) (w : World) (h : IsRow .u8 w a len cap zs) :
    Calls Try.prog 4 #[.slice a len cap] w fun e w' => e = .returned (.bool true) ∧ Below w.heap.size w w' := by
  have H := Lib.hid h; clear h
  by_cases hl : 1048576 < (len : Int)
  · go_enter Try.func4, Try.ntmps4
    go_wp2_with fail
    go_ret
    exact ⟨rfl, Below.refl _ _⟩
  · have hl' := decide_eq_false hl
    clear hl
    go_enter Try.func4, Try.ntmps4
    go_wp2_with fail
    refine (drawNP_any _ _ _ _ _ H.out).mono ?_
    rintro e w1 ⟨v, ps, rfl, hF, hln, hI, ⟨b, c, rfl⟩, hb1⟩
    have R1 := Lib.hid hF.r3.o
    have HB1 := Lib.hid hb1
    have hm : ps.length ≤ 9223372036854775807 := by omega
    have NE := Lib.hid (net_any _ _ _ R1.out hm)
    have SN := Lib.hid (fun W (hW : Below w1.heap.size w1 W) => snet_any W _ ps (R1.out.below hW (Nat.le_refl _)) hm)
    have BO := Lib.hid (fun W (hW : Below w1.heap.size w1 W) x hx => balOf_any W _ ps x (R1.out.below hW (Nat.le_refl _)) hm hx)
    have HG := Lib.hid (fun h => Np.good (ps := ps) h)
    have hq := Np.val_len ps
    unfold NetQ at NE SN
    clear hF hI hb1
    have HVb := Lib.hid (fun x => Bl.val_bd ps x)
    obtain ⟨Q, hQ⟩ : ∃ Q, Q = (Np.val ps).1 := ⟨_, rfl⟩
    rw [← hQ] at NE SN HG hq
    clear hQ
    generalize (Np.val ps).2 = F at NE SN HG
    have hne : (F != F) = false := by simp
    have heq : (F == F) = true := by simp
    go_wp2_with fail
    refine NE.out.mono ?_
    rintro e w2 ⟨u, rfl, hu, hb2⟩
    obtain ⟨au, cu, rfl⟩ := hu.sli
    have HU2 := Lib.hid hu.r3.o
    have HB12 := Lib.hid hb2
    clear hu hb2 NE
    go_wp2_with fail
    refine (SN.out _ HB12.out).mono ?_
    rintro e w3 ⟨u3, rfl, hu3, hb3⟩
    have HU3 := Lib.hid (HU2.out.below hb3 (Nat.le_refl _))
    have HV3 := Lib.hid hu3.r3.o
    have HB13 := Lib.hid (HB12.out.trans (hb3.mono HB12.out.size))
    clear hu3 hb3 SN
    go_wp2_with fail
    refine (eqPo_same _ _ _ _ HU3.out HV3.out (by omega)).mono ?_
    rintro e w4 ⟨rfl, hb4⟩
    have HU4 := Lib.hid (HU3.out.below hb4 (Nat.le_refl _))
    have HV4 := Lib.hid (HV3.out.below hb4 (Nat.le_refl _))
    have HB14 := Lib.hid (HB13.out.trans (hb4.mono HB13.out.size))
    clear hb4 HU2 HU3 HV3 HB12 HB13
    cases F with
    | false =>
      go_wp2_with fail
      refine (eqPo_same _ _ _ _ HU4.out HV4.out (by omega)).mono ?_
      rintro e w5 ⟨rfl, hb5⟩
      go_wp2_with fail
      go_ret
      exact ⟨rfl, HB1.out.trans ((HB14.out.trans (hb5.mono HB14.out.size)).mono HB1.out.size)⟩
    | true =>
      obtain ⟨hbal, hkey, htw⟩ := HG.out rfl
      have HBal := Lib.hid hbal
      have HKey := Lib.hid hkey
      have HTw := Lib.hid htw
      clear hbal hkey htw HG
      have hQm : Q.length ≤ 9223372036854775807 := by omega
      have BQ := Lib.hid (fun W (hW : Below w4.heap.size w4 W) x hx => balOf_any W _ Q x (HU4.out.below hW (Nat.le_refl _)) hQm hx)
      have HQE := Lib.hid (fun W (hW : Below w4.heap.size w4 W) => net_any W _ Q (HU4.out.below hW (Nat.le_refl _)) hQm)
      unfold NetQ at HQE
      rw [HTw.out] at HQE
      have BO4 := Lib.hid (fun W (hW : Below w4.heap.size w4 W) x hx => BO.out W (HB14.out.trans (hW.mono HB14.out.size)) x hx)
      clear BO HV4
      go_wp2_with fail
      go_loopw [8] (fun x wr => ∃ k : Nat, k ≤ 6 ∧ x = .int .i64 k ∧ Hid (Below w4.heap.size w4 wr)) (fun x _ => 6 - (intOf x).toNat)
      case atStart => exact ⟨0, by omega, rfl, Lib.hid (Below.refl _ _)⟩
      case round =>
        obtain ⟨k, hk, rfl, HB⟩ := hrel
        by_cases hlt : k < 6
        · have hd0 := decide_eq_true (show (k : Int) ≤ 5 by omega)
          have wfk := wf_i64 (x := (k : Int)) (by omega) (by omega)
          obtain ⟨vb0, vb1⟩ := HVb.out k
          go_wp2_with fail
          refine (BQ.out _ HB.out k wfk).mono ?_
          rw [HBal.out]
          rintro e w5 ⟨rfl, hb5⟩
          have HB5 := Lib.hid (HB.out.trans (hb5.mono HB.out.size))
          clear hb5
          go_wp2_with fail
          refine (BO4.out _ HB5.out k wfk).mono ?_
          rintro e w6 ⟨rfl, hb6⟩
          have HB6 := Lib.hid (HB5.out.trans (hb6.mono HB5.out.size))
          clear hb6
          have hvv : (Bl.val ps k != Bl.val ps k) = false := by simp
          generalize Bl.val ps k = V at *
          go_wp2_with fail
          go_roundw
          case rel => exact ⟨k + 1, by omega, by go_num, HB6⟩
          case measure => simp [intOf]; omega
        · obtain rfl : k = 6 := by omega
          have hd0 : decide (((6 : Nat) : Int) ≤ 5) = false := rfl
          go_wp2_with fail
          obtain ⟨n, hn⟩ : ∃ n, n = Q.length := ⟨_, rfl⟩
          have HN := Lib.hid hn
          have HKc := Lib.hid (fun i (hi : i < n) => HU4.out.2 (by omega))
          rw [← hn] at hq HQE ⊢
          have HQL := Lib.hid (show Q.length ≤ 25 by omega)
          clear hn hQm
          go_loopw [9] (fun x wr' => ∃ i : Nat, i ≤ n ∧ x = .int .i64 i ∧ Hid (Below w4.heap.size w4 wr')) (fun x _ => n - (intOf x).toNat)
          case atStart => exact ⟨0, Nat.zero_le _, rfl, HB⟩
          case round =>
            obtain ⟨i, hi, rfl, HB2⟩ := hrel
            clear HB
            by_cases hlt2 : i < n
            · have hd1 := decide_eq_true (show (i : Int) < n by omega)
              go_wp2_with fail
              go_loopw [10] (fun x wr' => ∃ k : Nat, k ≤ i ∧ x = .int .i64 k ∧ Hid (Below w4.heap.size w4 wr')) (fun x _ => i - (intOf x).toNat)
              case atStart => exact ⟨0, Nat.zero_le _, rfl, HB2⟩
              case round =>
                obtain ⟨k, hk2, rfl, HB3⟩ := hrel
                clear HB2
                by_cases hlt3 : k < i
                · have hd2 := decide_eq_true (show (k : Int) < i by omega)
                  obtain ⟨b2, off, d, e2, hbl, hc⟩ := HKc.out i hlt2
                  obtain ⟨hk1, hk3⟩ := HKey.out i k (by rw [← HN.out]; exact hlt2) hlt3
                  rw [← HN.out] at e2
                  simp only [Value.slice.injEq, true_and] at e2
                  obtain ⟨rfl, rfl⟩ := e2
                  obtain ⟨c0, c1, -⟩ := hc i (by rw [← HN.out]; exact hlt2)
                  obtain ⟨g0, g1, -⟩ := hc k (by rw [← HN.out]; omega)
                  replace c0 := (HB3.out.cell (p := ⟨b2, off + i * 3, none⟩) hbl).trans c0
                  replace c1 := (HB3.out.cell (p := ⟨b2, off + i * 3 + 1, none⟩) hbl).trans c1
                  replace g0 := (HB3.out.cell (p := ⟨b2, off + k * 3, none⟩) hbl).trans g0
                  replace g1 := (HB3.out.cell (p := ⟨b2, off + k * 3 + 1, none⟩) hbl).trans g1
                  clear hc
                  generalize Q.getD i t0 = p at c0 c1 hk1 hk3
                  generalize Q.getD k t0 = r at g0 g1 hk1 hk3
                  obtain ⟨p1, p2, p3⟩ := p
                  obtain ⟨r1, r2, r3⟩ := r
                  simp only at c0 c1 g0 g1 hk1 hk3
                  have hi0 : (0 : Int) ≤ i := by omega
                  have hk0 : (0 : Int) ≤ k := by omega
                  have hi1 : (i : Int) < n := by omega
                  have hk9 : (k : Int) < n := by omega
                  by_cases q1 : p1 = r1
                  · have q2 : ¬ p2 = r2 := fun h => hk1 ⟨q1, h⟩
                    by_cases q3 : p1 = r2
                    · have q4 : ¬ p2 = r1 := fun h => hk3 ⟨q3, h⟩
                      have z1 : (p1 == r1) = true := by simp [q1]
                      have z2 : (p2 == r2) = false := by simp [q2]
                      have z3 : (p1 == r2) = true := by simp [q3]
                      have z4 : (p2 == r1) = false := by simp [q4]
                      clear q1 q2 q3 q4 hk1 hk3
                      go_wp2_with fail
                      go_quiet (fail)
                      go_wp2_with fail
                      go_roundw
                      case rel => exact ⟨k + 1, by omega, by go_num, Lib.hid (belowE HB3.out _)⟩
                      case measure => simp [intOf]; omega
                    · have z1 : (p1 == r1) = true := by simp [q1]
                      have z2 : (p2 == r2) = false := by simp [q2]
                      have z3 : (p1 == r2) = false := by simp [q3]
                      clear q1 q2 q3 hk1 hk3
                      go_wp2_with fail
                      go_quiet (fail)
                      go_wp2_with fail
                      go_roundw
                      case rel => exact ⟨k + 1, by omega, by go_num, Lib.hid (belowE HB3.out _)⟩
                      case measure => simp [intOf]; omega
                  · by_cases q3 : p1 = r2
                    · have q4 : ¬ p2 = r1 := fun h => hk3 ⟨q3, h⟩
                      have z1 : (p1 == r1) = false := by simp [q1]
                      have z3 : (p1 == r2) = true := by simp [q3]
                      have z4 : (p2 == r1) = false := by simp [q4]
                      clear q1 q3 q4 hk1 hk3
                      go_wp2_with fail
                      go_quiet (fail)
                      go_wp2_with fail
                      go_roundw
                      case rel => exact ⟨k + 1, by omega, by go_num, Lib.hid (belowE HB3.out _)⟩
                      case measure => simp [intOf]; omega
                    · have z1 : (p1 == r1) = false := by simp [q1]
                      have z3 : (p1 == r2) = false := by simp [q3]
                      clear q1 q3 hk1 hk3
                      go_wp2_with fail
                      go_quiet (fail)
                      go_wp2_with fail
                      go_roundw
                      case rel => exact ⟨k + 1, by omega, by go_num, Lib.hid (belowE HB3.out _)⟩
                      case measure => simp [intOf]; omega
                · have hd2 := decide_eq_false (show ¬ (k : Int) < i by omega)
                  go_wp2_with fail
                  go_roundw
                  case rel => exact ⟨i + 1, by omega, by go_num, HB3⟩
                  case measure => simp [intOf]; omega
            · obtain rfl : i = n := by omega
              have hd1 : decide ((i : Int) < i) = false := by simp
              go_wp2_with fail
              refine (HQE.out _ HB2.out).mono ?_
              rintro e w7 ⟨u7, rfl, hu7, hb7⟩
              obtain ⟨a7, c7, rfl⟩ := hu7.sli
              have HU7 := Lib.hid hu7.r3.o
              have HB7 := Lib.hid (HB2.out.trans (hb7.mono HB2.out.size))
              have HV7 := Lib.hid (HU4.out.below HB7.out (Nat.le_refl _))
              clear hu7 hb7
              go_wp2_with fail
              refine (eqPo_same _ _ _ _ HU7.out (by rw [HN.out]; exact HV7.out) (by have := HQL.out; omega)).mono ?_
              rintro e w8 ⟨rfl, hb8⟩
              have h := HB14.out.trans ((HB7.out.trans (hb8.mono HB7.out.size)).mono HB14.out.size)
              go_wp2_with fail
              go_ret
              exact ⟨rfl, HB1.out.trans (h.mono HB1.out.size)⟩
end Go.Proofs.Ytmamnljgkkjkcaa
