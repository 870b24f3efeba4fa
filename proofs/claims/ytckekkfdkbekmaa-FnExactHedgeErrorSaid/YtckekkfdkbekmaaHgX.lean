/- The exact law of HedgeError. -/
import Derived.Test.YtckekkfdkbekmaaHg
namespace Go.Proofs.Ytckekkfdkbekmaa
open Go.RowKit
set_option maxRecDepth 8000 in
set_option maxHeartbeats 8000000 in
theorem exHedgeError (r : Int) (a1 : Option Addr) (len1 cap1 : Nat) (zs1 : List Int) (a2 : Option Addr) (len2 cap2 : Nat) (zs2 : List Int) (w : World) (hv1 : IsRow .i64 w a1 len1 cap1 zs1) (hv2 : IsRow .i64 w a2 len2 cap2 zs2) :
    Calls Try.prog 13 #[.int .i64 r, .slice a1 len1 cap1, .slice a2 len2 cap2] w fun e w' => e = .returned (.bool true) ∧ Below w.heap.size w w' := by
  obtain ⟨hlen1, hR1⟩ := r1_of_row hv1
  have hmax1 : len1 ≤ 9223372036854775807 := by rcases hv1 with ⟨-, rfl, -⟩ | ⟨x, rfl, h1, h2, -⟩ <;> first | omega | (unfold maxLen at *; omega)
  clear hv1
  generalize zs1.take len1 = L1 at hlen1 hR1
  subst hlen1
  have HV1 := Lib.hid hR1; clear hR1
  obtain ⟨hlen2, hR2⟩ := r1_of_row hv2
  have hmax2 : len2 ≤ 9223372036854775807 := by rcases hv2 with ⟨-, rfl, -⟩ | ⟨x, rfl, h1, h2, -⟩ <;> first | omega | (unfold maxLen at *; omega)
  clear hv2
  generalize zs2.take len2 = L2 at hlen2 hR2
  subst hlen2
  have HV2 := Lib.hid hR2; clear hR2
  by_cases hbig1 : 1048576 < (L1.length : Int)
  · go_enter Try.func13, Try.ntmps13
    go_wp2_with fail
    go_ret
    exact ⟨rfl, Below.refl _ _⟩
  have hl1 : L1.length ≤ 1048576 := by omega
  by_cases hbig2 : 1048576 < (L2.length : Int)
  · go_enter Try.func13, Try.ntmps13
    go_wp2_with fail
    go_ret
    exact ⟨rfl, Below.refl _ _⟩
  have hl2 : L2.length ≤ 1048576 := by omega
  have hvne : (Hg.err r L1 L2 != Hg.err r L1 L2) = false := by simp
  go_enter Try.func13, Try.ntmps13
  go_wp2_with fail
  refine (toInts_any _ _ _ HV1.out hl1).mono ?_
  rintro e W1 ⟨bZ1, rfl, h2, hb2⟩
  have BZ1 := Lib.hid (show ∀ j, (Value.slice (some ⟨bZ1, 0, none⟩) L1.length L1.length).ownBlock = some j → w.heap.size ≤ j ∧ j < W1.heap.size from fun j hj => World.ownsRow.lt h2 j hj)
  have SZ1 := Lib.hid (hb2.size)
  have HB := Lib.hid hb2
  have Z1 := Lib.hid h2; clear h2 hb2
  go_wp2_with fail
  refine (toInts_any _ _ _ (HV2.out.below HB.out (Nat.le_refl _)) hl2).mono ?_
  rintro e W2 ⟨bZ2, rfl, h2, hb2⟩
  have BZ2 := Lib.hid (show ∀ j, (Value.slice (some ⟨bZ2, 0, none⟩) L2.length L2.length).ownBlock = some j → W1.heap.size ≤ j ∧ j < W2.heap.size from fun j hj => World.ownsRow.lt h2 j hj)
  have SZ2 := Lib.hid (hb2.size)
  replace Z1 := Lib.hid (Z1.out.below hb2 (Nat.le_refl _))
  replace HB := Lib.hid (HB.out.trans (hb2.mono HB.out.size))
  have Z2 := Lib.hid h2; clear h2 hb2
  go_wp2_with fail
  refine (shedge_any _ _ _ _ _ _ Z1.out.r1 Z2.out.r1 (by omega) (by omega)).mono ?_
  rintro e W3 ⟨rfl, hb2⟩
  replace Z1 := Lib.hid (Z1.out.below hb2 (Nat.le_refl _))
  replace Z2 := Lib.hid (Z2.out.below hb2 (Nat.le_refl _))
  replace HB := Lib.hid (HB.out.trans (hb2.mono HB.out.size))
  clear hb2
  go_wp2_with fail
  clear Z1
  clear Z2
  refine (toInts_any _ _ _ (HV1.out.below HB.out (Nat.le_refl _)) hl1).mono ?_
  rintro e W4 ⟨bX1, rfl, h2, hb2⟩
  have BX1 := Lib.hid (show ∀ j, (Value.slice (some ⟨bX1, 0, none⟩) L1.length L1.length).ownBlock = some j → W3.heap.size ≤ j ∧ j < W4.heap.size from fun j hj => World.ownsRow.lt h2 j hj)
  have SX1 := Lib.hid (hb2.size)
  replace HB := Lib.hid (HB.out.trans (hb2.mono HB.out.size))
  have X1 := Lib.hid h2; clear h2 hb2
  go_wp2_with fail
  refine (toInts_any _ _ _ (HV2.out.below HB.out (Nat.le_refl _)) hl2).mono ?_
  rintro e W5 ⟨bX2, rfl, h2, hb2⟩
  have BX2 := Lib.hid (show ∀ j, (Value.slice (some ⟨bX2, 0, none⟩) L2.length L2.length).ownBlock = some j → W4.heap.size ≤ j ∧ j < W5.heap.size from fun j hj => World.ownsRow.lt h2 j hj)
  have SX2 := Lib.hid (hb2.size)
  replace X1 := Lib.hid (X1.out.below hb2 (Nat.le_refl _))
  replace HB := Lib.hid (HB.out.trans (hb2.mono HB.out.size))
  have X2 := Lib.hid h2; clear h2 hb2
  go_wp2_with fail
  refine (hedge_any _ _ _ _ _ _ X1.out.r1 X2.out.r1 (by omega) (by omega)).mono ?_
  rintro e W6 ⟨rfl, hb2⟩
  replace X1 := Lib.hid (X1.out.below hb2 (Nat.le_refl _))
  replace X2 := Lib.hid (X2.out.below hb2 (Nat.le_refl _))
  replace HB := Lib.hid (HB.out.trans (hb2.mono HB.out.size))
  clear hb2
  go_wp2_with fail
  refine (toInts_any _ _ _ (HV1.out.below HB.out (Nat.le_refl _)) hl1).mono ?_
  rintro e W7 ⟨bY1, rfl, h2, hb2⟩
  have BY1 := Lib.hid (show ∀ j, (Value.slice (some ⟨bY1, 0, none⟩) L1.length L1.length).ownBlock = some j → W6.heap.size ≤ j ∧ j < W7.heap.size from fun j hj => World.ownsRow.lt h2 j hj)
  have SY1 := Lib.hid (hb2.size)
  replace X1 := Lib.hid (X1.out.below hb2 (Nat.le_refl _))
  replace X2 := Lib.hid (X2.out.below hb2 (Nat.le_refl _))
  replace HB := Lib.hid (HB.out.trans (hb2.mono HB.out.size))
  have Y1 := Lib.hid h2; clear h2 hb2
  go_wp2_with fail
  refine (eqi_same _ _ _ _ X1.out.r1 Y1.out.r1 hl1).mono ?_
  rintro e W8 ⟨rfl, hb2⟩
  replace X1 := Lib.hid (X1.out.below hb2 (Nat.le_refl _))
  replace X2 := Lib.hid (X2.out.below hb2 (Nat.le_refl _))
  replace Y1 := Lib.hid (Y1.out.below hb2 (Nat.le_refl _))
  replace HB := Lib.hid (HB.out.trans (hb2.mono HB.out.size))
  clear hb2
  clear Y1
  go_wp2_with fail
  refine (toInts_any _ _ _ (HV2.out.below HB.out (Nat.le_refl _)) hl2).mono ?_
  rintro e W9 ⟨bY2, rfl, h2, hb2⟩
  have BY2 := Lib.hid (show ∀ j, (Value.slice (some ⟨bY2, 0, none⟩) L2.length L2.length).ownBlock = some j → W8.heap.size ≤ j ∧ j < W9.heap.size from fun j hj => World.ownsRow.lt h2 j hj)
  have SY2 := Lib.hid (hb2.size)
  replace X1 := Lib.hid (X1.out.below hb2 (Nat.le_refl _))
  replace X2 := Lib.hid (X2.out.below hb2 (Nat.le_refl _))
  replace HB := Lib.hid (HB.out.trans (hb2.mono HB.out.size))
  have Y2 := Lib.hid h2; clear h2 hb2
  go_wp2_with fail
  refine (eqi_same _ _ _ _ X2.out.r1 Y2.out.r1 hl2).mono ?_
  rintro e W10 ⟨rfl, hb2⟩
  replace X1 := Lib.hid (X1.out.below hb2 (Nat.le_refl _))
  replace X2 := Lib.hid (X2.out.below hb2 (Nat.le_refl _))
  replace Y2 := Lib.hid (Y2.out.below hb2 (Nat.le_refl _))
  replace HB := Lib.hid (HB.out.trans (hb2.mono HB.out.size))
  clear hb2
  clear Y2
  go_wp2_with fail
  go_ret
  exact ⟨rfl, HB.out⟩
end Go.Proofs.Ytckekkfdkbekmaa
