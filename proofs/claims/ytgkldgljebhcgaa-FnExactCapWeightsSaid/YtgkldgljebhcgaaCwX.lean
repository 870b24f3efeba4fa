/- The exact law of CapWeights. -/
import Derived.Test.YtgkldgljebhcgaaCwU
namespace Go.Proofs.Ytgkldgljebhcgaa
open Go.RowKit
theorem World.ownsRow.ne {w w' : World} {B n : Nat} {T : TypeId} {k : Nat} {v : Value} {cs : List Value} {r : Option Nat} (h : w.ownsRow B T k v n cs) (hg : w.grownBy w' r) (hne : ∀ i j, v.ownBlock = some i → r = some j → i ≠ j) : w'.ownsRow B T k v n cs :=
  World.ownsRow.kept h hg (by
    cases hb : v.ownBlock with
    | none => exact .inl rfl
    | some i => exact .inr fun e => hne i i hb e.symm rfl)
set_option maxRecDepth 8000 in
set_option maxHeartbeats 8000000 in
theorem exCapWeights (a0 : Option Addr) (len0 cap0 : Nat) (zs0 : List Int) (m : Int) (w : World) (hv0 : IsRow .i64 w a0 len0 cap0 zs0) :
    Calls Try.prog 5 #[.slice a0 len0 cap0, .int .i64 m] w fun e w' => e = .returned (.bool true) ∧ Below w.heap.size w w' := by
  obtain ⟨hlen0, hR0⟩ := r1_of_row hv0
  have hmax0 : len0 ≤ 9223372036854775807 := by rcases hv0 with ⟨-, rfl, -⟩ | ⟨x, rfl, h1, h2, -⟩ <;> first | omega | (unfold maxLen at *; omega)
  clear hv0
  generalize zs0.take len0 = L0 at hlen0 hR0
  subst hlen0
  have HV0 := Lib.hid hR0; clear hR0
  by_cases hbig0 : 1048576 < (L0.length : Int)
  · go_enter Try.func5, Try.ntmps5
    go_wp2_with fail
    go_ret
    exact ⟨rfl, Below.refl _ _⟩
  have hl0 : L0.length ≤ 1048576 := by omega
  have hVL : (Cw.val L0 m).length ≤ 1048576 := by unfold Cw.val; split; (rename_i h; rw [(Cw.res_end h).1]; omega); simp
  go_enter Try.func5, Try.ntmps5
  go_wp2_with fail
  refine (toInts_any _ _ _ HV0.out hl0).mono ?_
  rintro e W1 ⟨bZ0, rfl, h2, hb2⟩
  have BZ0 := Lib.hid (show ∀ j, (Value.slice (some ⟨bZ0, 0, none⟩) L0.length L0.length).ownBlock = some j → w.heap.size ≤ j ∧ j < W1.heap.size from fun j hj => World.ownsRow.lt h2 j hj)
  have SZ0 := Lib.hid (hb2.size)
  have HB := Lib.hid hb2
  have Z0 := Lib.hid h2; clear h2 hb2
  go_wp2_with fail
  refine (scap_any _ _ _ _ Z0.out.r1 (by omega)).mono ?_
  rintro e W2 ⟨vG0, rfl, h2, hb2⟩
  have BG0 := Lib.hid (show ∀ j, vG0.ownBlock = some j → W1.heap.size ≤ j ∧ j < W2.heap.size from fun j hj => World.ownsRow.lt h2 j hj)
  have SG0 := Lib.hid (hb2.size)
  replace Z0 := Lib.hid (Z0.out.below hb2 (Nat.le_refl _))
  replace HB := Lib.hid (HB.out.trans (hb2.mono HB.out.size))
  have G0 := Lib.hid h2; clear h2 hb2
  obtain ⟨aG0, cG0, rfl⟩ := IRow.slice G0.out
  go_wp2_with fail
  clear Z0
  refine (toInts_any _ _ _ (HV0.out.below HB.out (Nat.le_refl _)) hl0).mono ?_
  rintro e W3 ⟨bX0, rfl, h2, hb2⟩
  have BX0 := Lib.hid (show ∀ j, (Value.slice (some ⟨bX0, 0, none⟩) L0.length L0.length).ownBlock = some j → W2.heap.size ≤ j ∧ j < W3.heap.size from fun j hj => World.ownsRow.lt h2 j hj)
  have SX0 := Lib.hid (hb2.size)
  have HX0 := Lib.hid (HB.out.size)
  replace G0 := Lib.hid (G0.out.below hb2 (Nat.le_refl _))
  replace HB := Lib.hid (HB.out.trans (hb2.mono HB.out.size))
  have X0 := Lib.hid h2; clear h2 hb2
  go_wp2_with fail
  refine (cap_any _ _ _ _ X0.out.r1 (by omega)).mono ?_
  rintro e W4 ⟨vG1, rfl, h2, hb2⟩
  have BG1 := Lib.hid (show ∀ j, vG1.ownBlock = some j → W3.heap.size ≤ j ∧ j < W4.heap.size from fun j hj => World.ownsRow.lt h2 j hj)
  have SG1 := Lib.hid (hb2.size)
  replace G0 := Lib.hid (G0.out.below hb2 (Nat.le_refl _))
  replace X0 := Lib.hid (X0.out.below hb2 (Nat.le_refl _))
  replace HB := Lib.hid (HB.out.trans (hb2.mono HB.out.size))
  have G1 := Lib.hid h2; clear h2 hb2
  obtain ⟨aG1, cG1, rfl⟩ := IRow.slice G1.out
  go_wp2_with fail
  refine (eqi_same _ _ _ _ G1.out.r1 G0.out.r1 hVL).mono ?_
  rintro e W5 ⟨rfl, hb2⟩
  replace G0 := Lib.hid (G0.out.below hb2 (Nat.le_refl _))
  replace X0 := Lib.hid (X0.out.below hb2 (Nat.le_refl _))
  replace G1 := Lib.hid (G1.out.below hb2 (Nat.le_refl _))
  replace HB := Lib.hid (HB.out.trans (hb2.mono HB.out.size))
  clear hb2
  go_wp2_with fail
  refine (toInts_any _ _ _ (HV0.out.below HB.out (Nat.le_refl _)) hl0).mono ?_
  rintro e W6 ⟨bY0, rfl, h2, hb2⟩
  have BY0 := Lib.hid (show ∀ j, (Value.slice (some ⟨bY0, 0, none⟩) L0.length L0.length).ownBlock = some j → W5.heap.size ≤ j ∧ j < W6.heap.size from fun j hj => World.ownsRow.lt h2 j hj)
  have SY0 := Lib.hid (hb2.size)
  replace G0 := Lib.hid (G0.out.below hb2 (Nat.le_refl _))
  replace X0 := Lib.hid (X0.out.below hb2 (Nat.le_refl _))
  replace G1 := Lib.hid (G1.out.below hb2 (Nat.le_refl _))
  replace HB := Lib.hid (HB.out.trans (hb2.mono HB.out.size))
  have Y0 := Lib.hid h2; clear h2 hb2
  go_wp2_with fail
  refine (eqi_same _ _ _ _ X0.out.r1 Y0.out.r1 hl0).mono ?_
  rintro e W7 ⟨rfl, hb2⟩
  replace G0 := Lib.hid (G0.out.below hb2 (Nat.le_refl _))
  replace X0 := Lib.hid (X0.out.below hb2 (Nat.le_refl _))
  replace G1 := Lib.hid (G1.out.below hb2 (Nat.le_refl _))
  replace Y0 := Lib.hid (Y0.out.below hb2 (Nat.le_refl _))
  replace HB := Lib.hid (HB.out.trans (hb2.mono HB.out.size))
  clear hb2
  clear Y0
  go_wp2_with fail
  refine (markI_any _ _ _ _ _ X0.out hl0 (by omega) (by omega)).mono ?_
  rintro e W8 ⟨ys0, rfl, hy0, -, -, hg2⟩
  replace G0 := Lib.hid (show IRow _ _ _ _ from World.ownsRow.ne G0.out hg2 (fun i j hi hj => by have p1 := BG0.out i hi; have p2 := BX0.out j hj; have q0 := SG0.out; have q1 := SG1.out; have r0 := SX0.out; omega))
  replace G1 := Lib.hid (show IRow _ _ _ _ from World.ownsRow.ne G1.out hg2 (fun i j hi hj => by have p1 := BG1.out i hi; have p2 := BX0.out j hj; have q0 := SG0.out; have q1 := SG1.out; have r0 := SX0.out; omega))
  replace HB := Lib.hid (HB.out.grown hg2 HB.out.size (fun j hj => by have p2 := BX0.out j hj; have q0 := HX0.out; have r0 := SX0.out; omega))
  clear hg2 hy0 ys0
  clear X0
  go_wp2_with fail
  refine (eqi_same _ _ _ _ G1.out.r1 G0.out.r1 hVL).mono ?_
  rintro e W9 ⟨rfl, hb2⟩
  replace G0 := Lib.hid (G0.out.below hb2 (Nat.le_refl _))
  replace G1 := Lib.hid (G1.out.below hb2 (Nat.le_refl _))
  replace HB := Lib.hid (HB.out.trans (hb2.mono HB.out.size))
  clear hb2
  go_wp2_with fail
  refine (markI_any _ _ _ _ _ G1.out hVL (by omega) (by omega)).mono ?_
  rintro e W10 ⟨ys, rfl, hy, hG, hM, hg2⟩
  replace G0 := Lib.hid (show IRow _ _ _ _ from World.ownsRow.ne G0.out hg2 (fun i j hi hj => by have p1 := BG0.out i hi; have p2 := BG1.out j hj; have r0 := SX0.out; omega))
  replace HB := Lib.hid (HB.out.grown hg2 HB.out.size (fun j hj => by have p2 := BG1.out j hj; have q0 := HX0.out; have r0 := SX0.out; omega))
  have HM := Lib.hid (show _ from hM)
  have HG := Lib.hid hG
  have HY := Lib.hid hy
  clear hG hM hg2 hy
  clear G1
  go_wp2_with fail
  have HMM := Lib.hid (show MkI ys 1 ys.length by rw [HY.out]; exact HM.out)
  have HR := Lib.hid (show R1o W10 _ ys from HG.out.r1)
  have hmne : (1 + (((Cw.val L0 m).length : Nat) : Int) != 1 + (((Cw.val L0 m).length : Nat) : Int)) = false := by simp
  refine (heldI_any _ _ _ _ HR.out HMM.out (by rw [HY.out]; exact hVL) (by omega) (by omega)).mono ?_
  rintro e w9 ⟨rfl, rfl⟩
  rw [HY.out]
  go_wp2_with fail
  refine (toInts_any _ _ _ (HV0.out.below HB.out (Nat.le_refl _)) hl0).mono ?_
  rintro e W11 ⟨bZ0, rfl, h2, hb2⟩
  have BZ0 := Lib.hid (show ∀ j, (Value.slice (some ⟨bZ0, 0, none⟩) L0.length L0.length).ownBlock = some j → W10.heap.size ≤ j ∧ j < W11.heap.size from fun j hj => World.ownsRow.lt h2 j hj)
  have SZ0 := Lib.hid (hb2.size)
  replace G0 := Lib.hid (G0.out.below hb2 (Nat.le_refl _))
  replace HR := Lib.hid (HR.out.below hb2 (Nat.le_refl _))
  replace HB := Lib.hid (HB.out.trans (hb2.mono HB.out.size))
  have Z0 := Lib.hid h2; clear h2 hb2
  go_wp2_with fail
  refine (cap_any _ _ _ _ Z0.out.r1 (by omega)).mono ?_
  rintro e W12 ⟨vG2, rfl, h2, hb2⟩
  have BG2 := Lib.hid (show ∀ j, vG2.ownBlock = some j → W11.heap.size ≤ j ∧ j < W12.heap.size from fun j hj => World.ownsRow.lt h2 j hj)
  have SG2 := Lib.hid (hb2.size)
  replace G0 := Lib.hid (G0.out.below hb2 (Nat.le_refl _))
  replace Z0 := Lib.hid (Z0.out.below hb2 (Nat.le_refl _))
  replace HR := Lib.hid (HR.out.below hb2 (Nat.le_refl _))
  replace HB := Lib.hid (HB.out.trans (hb2.mono HB.out.size))
  have G2 := Lib.hid h2; clear h2 hb2
  obtain ⟨aG2, cG2, rfl⟩ := IRow.slice G2.out
  go_wp2_with fail
  clear Z0
  refine (eqi_same _ _ _ _ G2.out.r1 G0.out.r1 hVL).mono ?_
  rintro e W13 ⟨rfl, hb2⟩
  replace G0 := Lib.hid (G0.out.below hb2 (Nat.le_refl _))
  replace G2 := Lib.hid (G2.out.below hb2 (Nat.le_refl _))
  replace HR := Lib.hid (HR.out.below hb2 (Nat.le_refl _))
  replace HB := Lib.hid (HB.out.trans (hb2.mono HB.out.size))
  clear hb2
  go_wp2_with fail
  refine (heldI_any _ _ _ _ HR.out HMM.out (by rw [HY.out]; exact hVL) (by omega) (by omega)).mono ?_
  rintro e w9 ⟨rfl, rfl⟩
  rw [HY.out]
  go_wp2_with fail
  go_ret
  exact ⟨rfl, HB.out⟩
end Go.Proofs.Ytgkldgljebhcgaa
