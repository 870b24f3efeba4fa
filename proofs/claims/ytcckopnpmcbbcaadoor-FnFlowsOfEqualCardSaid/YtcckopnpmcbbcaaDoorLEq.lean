/- The law of equal payments. -/
import Derived.Test.YtcckopnpmcbbcaaDoorLEqM
namespace Go.Proofs.YtcckopnpmcbbcaaDoor
open Go.RowKit
set_option maxRecDepth 8000 in
set_option maxHeartbeats 4000000 in
theorem lawFlowsOfEqual (a : Option Addr) (len cap : Nat) (zs : List Int) (w : World) (h : IsRow .u8 w a len cap zs) (hT : Tab w) :
    Calls Tryd.prog 10 #[.slice a len cap] w fun e w' => e = .returned (.bool true) ∧ Below w.heap.size w w' := by
  have H := Lib.hid h; clear h
  have HT := Lib.hid hT; clear hT
  by_cases hl : 1048576 < (len : Int)
  · go_enter Tryd.func10, Tryd.ntmps10
    go_wp2_with fail
    go_ret
    exact ⟨rfl, Below.refl _ _⟩
  · have hl' := decide_eq_false hl
    clear hl
    go_enter Tryd.func10, Tryd.ntmps10
    go_wp2_with fail
    refine (drawFlowsOf_any _ _ _ _ _ H.out).mono ?_
    rintro x w0 ⟨s, e, m, r, rfl, hs, he, hm, hr, hB0⟩
    have HS := Lib.hid (sFlowsOf_any s e m r)
    have HF := Lib.hid (flowsOf_any s e m r)
    have hl40 : (floL s e m r).length ≤ 40 := by rw [floL_len]; exact perL_len s e m r
    have HBD := Lib.hid (fun i hi => @flo_bd s e m r i hi)
    have HEQ := Lib.hid (@flo_equal s e m r)
    have HT0 := Lib.hid (HT.out.below hB0 HT.out.pos)
    have HB := Lib.hid (hB0.alloc hB0.size (.cells #[.int .i64 s, .int .i64 e, .int .i64 m, .int .i64 r] 24))
    have KB := Lib.hid (Blk.new w0 #[.int .i64 s, .int .i64 e, .int .i64 m, .int .i64 r] 24)
    have HTA := Lib.hid (HT0.out.alloc (.cells #[.int .i64 s, .int .i64 e, .int .i64 m, .int .i64 r] 24))
    obtain ⟨fs, hfs⟩ : ∃ fs, fs = floL s e m r := ⟨_, rfl⟩
    rw [← hfs] at HF HS hl40 HBD HEQ
    clear hfs
    go_wp2_with fail
    refine (HF.out _ HTA.out).mono ?_
    rintro x w1 ⟨v1, rfl, hr1, hn1, hb1⟩
    have HR1 := Lib.hid hr1.rd
    have HN1 := Lib.hid hn1
    have K1 := Lib.hid (KB.out.below hb1 KB.out.lt)
    have HB1 := Lib.hid (HB.out.trans (hb1.mono HB.out.size))
    clear hb1 hr1 hn1
    obtain ⟨c0, c1, c2, c3⟩ := K1.out.four
    go_wp2_with fail
    clear c0 c1 c2 c3
    refine (HS.out _).mono ?_
    rintro x w2 ⟨v2, rfl, hr2, -, hb2⟩
    have HR2 := Lib.hid hr2.rd
    have HR12 := Lib.hid (HR1.out.below hb2 (Nat.le_refl _))
    have K2 := Lib.hid (K1.out.below hb2 K1.out.lt)
    have HB2 := Lib.hid (HB1.out.trans (hb2.mono HB1.out.size))
    clear hb2 hr2
    go_wp2_with fail
    refine (eqF_same _ _ _ fs HR12.out HR2.out (by omega)).mono ?_
    rintro x w3 ⟨rfl, hb3⟩
    have HR13 := Lib.hid (HR12.out.below hb3 (Nat.le_refl _))
    have K3 := Lib.hid (K2.out.below hb3 K2.out.lt)
    have HB3 := Lib.hid (HB2.out.trans (hb3.mono HB2.out.size))
    clear hb3
    obtain ⟨c0, c1, c2, c3⟩ := K3.out.four
    obtain ⟨n, hn⟩ : ∃ n, n = fs.length := ⟨_, rfl⟩
    by_cases hz : n < 3
    · have dz : decide ((n : Int) < 3) = true := decide_eq_true (by omega)
      obtain ⟨a1, c1', e1⟩ := HR13.out.1
      rw [← hn] at e1
      subst e1
      have HN := Lib.hid hn
      clear hn
      go_wp2_with fail
      clear c0 c1 c2 c3
      refine (HS.out _).mono ?_
      rintro x w4 ⟨v4, rfl, hr4, -, hb4⟩
      have HR4 := Lib.hid hr4.rd
      have HR14 := Lib.hid (HR13.out.below hb4 (Nat.le_refl _))
      have HB4 := Lib.hid (HB3.out.trans (hb4.mono HB3.out.size))
      clear hb4 hr4
      go_wp2_with fail
      refine (eqF_same _ _ _ fs HR14.out HR4.out (by omega)).mono ?_
      rintro x w5 ⟨rfl, hb5⟩
      have HB5 := HB4.out.trans (hb5.mono HB4.out.size)
      go_wp2_with fail
      go_ret
      exact ⟨rfl, HB5⟩
    · have dz : decide ((n : Int) < 3) = false := decide_eq_false (by omega)
      have hne : fs ≠ [] := fun k => by rw [k] at hn; simp at hn; omega
      obtain ⟨hmid, hlast, hfirst, w0', w1'⟩ := HEQ.out hne (by omega)
      obtain ⟨b, c, rfl, hbl, hc⟩ := HR13.out.2 (by omega)
      rw [← hn] at hmid hlast hc hl40 ⊢
      have HC := Lib.hid hc
      have HM := Lib.hid hmid
      have HLA := Lib.hid hlast
      have HFI := Lib.hid hfirst
      clear hc hmid hlast hfirst hn hne HEQ
      obtain ⟨a1, a1'⟩ := HC.out 1 (by omega)
      have m1 := HM.out 1 (by omega) (by omega)
      obtain ⟨W, hW⟩ : ∃ W, W = wholeV m r := ⟨_, rfl⟩
      rw [← hW] at m1 HM HLA HFI w0' w1'
      rw [m1] at a1'
      clear hW m1
      go_wp2_with fail
      have a3 : w3.cell? ⟨b, 3, none⟩ = some (.int .i64 W) := by simpa using a1'
      obtain ⟨j, rfl⟩ : ∃ j, n = j + 1 := ⟨n - 1, by omega⟩
      have HX := Lib.hid HC.out
      obtain ⟨-, b0⟩ := HC.out 0 (by omega)
      obtain ⟨-, bl⟩ := HC.out j (by omega)
      have ela := HLA.out
      rw [show j + 1 - 1 = j by omega] at ela
      rw [ela] at bl
      have b1' : w3.cell? ⟨b, 1, none⟩ = some (.int .i64 (fs.getD 0 f0).2) := by simpa using b0
      have efi := HFI.out
      clear b0 ela a1 a1'
      obtain ⟨F, hF⟩ : ∃ F, F = (fs.getD 0 f0).2 := ⟨_, rfl⟩
      rw [← hF] at b1' efi
      clear hF
      go_loopw [5] (fun x wr => ∃ i : Nat, 1 ≤ i ∧ i ≤ j ∧ x = .int .i64 i ∧ ∃ q, wr = w3.drewN q) (fun x _ => j - (intOf x).toNat)
      case atStart => exact ⟨1, by omega, by omega, rfl, 0, rfl⟩
      case round =>
        obtain ⟨i, hi1, hi, rfl, q, rfl⟩ := hrel
        by_cases hlt : i < j
        · obtain ⟨-, d1⟩ := HX.out i (by omega)
          rw [HM.out i hi1 (by omega)] at d1
          have e1 : (W != W) = false := by simp
          have e4 : decide ((j : Int) ≤ (i : Int)) = false := decide_eq_false (by omega)
          have e5 : (i : Int) < (j : Int) := by omega
          go_wp2_with fail
          go_quiet (fail)
          go_wp2_with fail
          go_roundw
          case rel => exact ⟨i + 1, by omega, by omega, by go_num, _, rfl⟩
          case measure => simp [intOf] <;> omega
        · obtain rfl : i = j := by omega
          have e5 : ¬ ((i : Int) < (i : Int)) := by omega
          go_wp2_with fail
          go_quiet (fail)
          go_wp2_with fail
          go_ret
          exact ⟨ret_bool (by simp), below_drewN (below_drewN HB3.out _) _⟩
end Go.Proofs.YtcckopnpmcbbcaaDoor
