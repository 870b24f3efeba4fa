/- The law of the payments behind a bond's end and ahead of its start. -/
import Derived.Test.YtojhiclkaedplaaDoorLAfm
namespace Go.Proofs.YtojhiclkaedplaaDoor
open Go.RowKit
set_option maxRecDepth 8000 in
set_option maxHeartbeats 4000000 in
theorem lawFlowsNone (a : Option Addr) (len cap : Nat) (zs : List Int) (w : World) (h : IsRow .u8 w a len cap zs) (hT : Tab w) :
    Calls Tryd.prog 4 #[.slice a len cap] w fun e w' => e = .returned (.bool true) ∧ Below w.heap.size w w' := by
  have H := Lib.hid h; clear h
  have HT := Lib.hid hT; clear hT
  by_cases hl : 1048576 < (len : Int)
  · go_enter Tryd.func4, Tryd.ntmps4
    go_wp2_with fail
    go_ret
    exact ⟨rfl, Below.refl _ _⟩
  · have hl' := decide_eq_false hl
    clear hl
    go_enter Tryd.func4, Tryd.ntmps4
    go_wp2_with fail
    refine (drawAfter_any _ _ _ _ _ H.out).mono ?_
    rintro x w0 ⟨s, e, m, r, d, rfl, hs, he, hm, hr, hd, hB0⟩
    have HS := Lib.hid (sAfter_any s e m r d)
    have HF := Lib.hid (after_any s e m r d)
    have HV := Lib.hid (validBond_any s e m r)
    have HA := Lib.hid (flowsOf_any s e m r)
    have hl40 : (floL s e m r).length ≤ 40 := by rw [floL_len]; exact perL_len s e m r
    have hvb : vbB s e m r = decide (0 < (floL s e m r).length) := by rw [floL_len]; rfl
    have h9 := after_any s e m r e
    have h8 := after_any s e m r (s - 1)
    unfold AftL at h9 h8
    rw [aft_end] at h9
    rw [aft_start] at h8
    have HF9 := Lib.hid h9
    have HF8 := Lib.hid h8
    clear h9 h8
    have HT0 := Lib.hid (HT.out.below hB0 HT.out.pos)
    have HB := Lib.hid (hB0.alloc hB0.size (.cells #[.int .i64 s, .int .i64 e, .int .i64 m, .int .i64 r] 24))
    have KB := Lib.hid (Blk.new w0 #[.int .i64 s, .int .i64 e, .int .i64 m, .int .i64 r] 24)
    have HTA := Lib.hid (HT0.out.alloc (.cells #[.int .i64 s, .int .i64 e, .int .i64 m, .int .i64 r] 24))
    rw [hvb] at HV
    clear hvb
    generalize floL s e m r = fs at HS HF HA hl40 HF9 HF8 HV
    have hla : (aftL fs d).length ≤ 40 := Nat.le_trans (aft_len _ _) hl40
    obtain ⟨c0, c1, c2, c3⟩ := KB.out.four
    go_wp2_with fail
    refine (HF.out _ HTA.out).mono ?_
    rintro x w1 ⟨v1, rfl, hr1, hn1, hb1⟩
    have HR1 := Lib.hid hr1.rd
    have K1 := Lib.hid (KB.out.below hb1 KB.out.lt)
    have HB1 := Lib.hid (HB.out.trans (hb1.mono HB.out.size))
    clear hb1 hr1 hn1 c0 c1 c2 c3
    obtain ⟨c0, c1, c2, c3⟩ := K1.out.four
    go_wp2_with fail
    refine (HS.out _).mono ?_
    rintro x w2 ⟨v2, rfl, hr2, -, hb2⟩
    have HR2 := Lib.hid hr2.rd
    have HR12 := Lib.hid (HR1.out.below hb2 (Nat.le_refl _))
    have K2 := Lib.hid (K1.out.below hb2 K1.out.lt)
    have HB2 := Lib.hid (HB1.out.trans (hb2.mono HB1.out.size))
    clear hb2 hr2 c0 c1 c2 c3
    go_wp2_with fail
    refine (eqF_same _ _ _ (aftL fs d) HR12.out HR2.out (by omega)).mono ?_
    rintro x w3 ⟨rfl, hb3⟩
    have HR13 := Lib.hid (HR12.out.below hb3 (Nat.le_refl _))
    have K3 := Lib.hid (K2.out.below hb3 K2.out.lt)
    have HB3 := Lib.hid (HB2.out.trans (hb3.mono HB2.out.size))
    clear hb3
    obtain ⟨c0, c1, c2, c3⟩ := K3.out.four
    go_wp2_with fail
    refine (HV.out _ (HT.out.below HB3.out HT.out.pos)).mono ?_
    rintro x w4 ⟨rfl, hb4⟩
    have HR14 := Lib.hid (HR13.out.below hb4 (Nat.le_refl _))
    have K4 := Lib.hid (K3.out.below hb4 K3.out.lt)
    have HB4 := Lib.hid (HB3.out.trans (hb4.mono HB3.out.size))
    clear hb4 c0 c1 c2 c3
    obtain ⟨c0, c1, c2, c3⟩ := K4.out.four
    by_cases hz : 0 < fs.length
    · rw [decide_eq_true hz]
      go_wp2_with fail
      have W1 : IntKind.i64.wrap (s - 1) = s - 1 := IntWalk.i64_in _ (by omega)
      have KD := Lib.hid (show Blk w4.drew w0.heap.size 24 #[.int .i64 s, .int .i64 e, .int .i64 m, .int .i64 r] from K4.out)
      have HBD := Lib.hid HB4.out.drew
      clear c0 c1 c2 c3
      have HC0 := Lib.hid (s4Of KD.out)
      have hl0 := KD.out.lt
      have e0 : (((0 : Nat) : Int) == 0) = true := rfl
      go_region_held3 (S4 w0.heap.size s e m r) (first | with_reducible exact HC0.out | with_reducible exact s4Of k5 | with_reducible exact s4Of k6 | with_reducible exact s4Of k7 | with_reducible exact s4Of k8 | fail "nokeep")
        (first
          | (go_at_call 9; refine (HF9.out _ (HT.out.below HBD.out HT.out.pos)).mono ?_; rintro x w5 ⟨v5, rfl, hr5, -, hb5⟩; have k5 := KD.out.below hb5 hl0; have hB5 := HBD.out.trans (hb5.mono HBD.out.size); obtain ⟨⟨a5, c5, rfl⟩, -⟩ := hr5.rd)
          | (go_at_call 9; (try rw [W1]); refine (HF8.out _ (HT.out.below hB5 HT.out.pos)).mono ?_; rintro x w6 ⟨v6, rfl, hr6, -, hb6⟩; have k6 := k5.below hb6 k5.lt; have hB6 := hB5.trans (hb6.mono hB5.size); have h6 := hr6.rd)
          | (go_at_call 13; refine (HA.out _ (HT.out.below hB6 HT.out.pos)).mono ?_; rintro x w7 ⟨v7, rfl, hr7, -, hb7⟩; have k7 := k6.below hb7 k6.lt; have hB7 := hB6.trans (hb7.mono hB6.size); have h7 := hr7.rd; have h67 := h6.below hb7 (Nat.le_refl _))
          | (go_at_call 10; refine (eqF_same _ _ _ fs h67 h7 (by omega)).mono ?_; rintro x w8 ⟨rfl, hb8⟩; have k8 := k7.below hb8 k7.lt; have hB8 := hB7.trans (hb8.mono hB7.size))
          | fail "nocall")
      all_goals go_wp2_with fail
      all_goals go_ret
      all_goals exact ⟨rfl, hB8⟩
    · rw [decide_eq_false hz]
      go_wp2_with fail
      refine (HS.out _).mono ?_
      rintro x w5 ⟨v5, rfl, hr5, -, hb5⟩
      have HR5 := Lib.hid hr5.rd
      have HR15 := Lib.hid (HR14.out.below hb5 (Nat.le_refl _))
      have HB5 := Lib.hid (HB4.out.trans (hb5.mono HB4.out.size))
      clear hb5 hr5
      go_wp2_with fail
      refine (eqF_same _ _ _ (aftL fs d) HR15.out HR5.out (by omega)).mono ?_
      rintro x w6 ⟨rfl, hb6⟩
      have HB6 := HB5.out.trans (hb6.mono HB5.out.size)
      go_wp2_with fail
      go_ret
      exact ⟨rfl, HB6⟩
end Go.Proofs.YtojhiclkaedplaaDoor
