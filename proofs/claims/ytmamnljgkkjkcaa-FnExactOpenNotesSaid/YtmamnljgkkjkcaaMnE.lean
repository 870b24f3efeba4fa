/- The exact law of MatchNotes. -/
import Derived.Test.YtmamnljgkkjkcaaMnO
import Derived.Test.YtmamnljgkkjkcaaMkNote
import Derived.Test.YtmamnljgkkjkcaaI1
namespace Go.Proofs.Ytmamnljgkkjkcaa
open Go.RowKit
theorem World.ownsRow.ne {w w' : World} {B n : Nat} {T : TypeId} {k : Nat} {v : Value} {cs : List Value} {r : Option Nat} (h : w.ownsRow B T k v n cs) (hg : w.grownBy w' r) (hne : ∀ i j, v.ownBlock = some i → r = some j → i ≠ j) : w'.ownsRow B T k v n cs :=
  World.ownsRow.kept h hg (by
    cases hb : v.ownBlock with
    | none => exact .inl rfl
    | some i => exact .inr fun e => hne i i hb e.symm rfl)
set_option maxRecDepth 8000 in
set_option maxHeartbeats 8000000 in
theorem exMatchNotes (a0 : Option Addr) (len0 cap0 : Nat) (L0 : List Tri) (a1 : Option Addr) (len1 cap1 : Nat) (L1 : List Tri) (tol : Int) (w : World) (hv0 : R3o w (.slice a0 len0 cap0) L0) (hlen0 : L0.length = len0) (hmax0 : len0 ≤ maxLen) (hv1 : R3o w (.slice a1 len1 cap1) L1) (hlen1 : L1.length = len1) (hmax1 : len1 ≤ maxLen) :
    Calls Try.prog 11 #[.slice a0 len0 cap0, .slice a1 len1 cap1, .int .i64 tol] w fun e w' => e = .returned (.bool true) ∧ Below w.heap.size w w' := by
  subst hlen0
  have HV0 := Lib.hid hv0; clear hv0
  replace hmax0 : L0.length ≤ 9223372036854775807 := by unfold maxLen at hmax0; omega
  subst hlen1
  have HV1 := Lib.hid hv1; clear hv1
  replace hmax1 : L1.length ≤ 9223372036854775807 := by unfold maxLen at hmax1; omega
  by_cases hbig0 : (1048576 : Int) < (L0.length : Int)
  · have E0 := Lib.hid (show (if (1048576 : Int) < (L0.length : Int) then -1 else (1048576 : Int) - (L0.length : Int)) = -1 from if_pos hbig0)
    go_enter Try.func11, Try.ntmps11
    go_wp2_with fail
    refine (szNoteS_any _ _ _ _ HV0.out hmax0 (by omega) (by omega)).mono ?_
    rw [E0.out]
    rintro e w1 ⟨rfl, rfl⟩
    go_wp2_with fail
    go_ret
    exact ⟨rfl, Below.refl _ _⟩
  have E0 := Lib.hid (show (if (1048576 : Int) < (L0.length : Int) then -1 else (1048576 : Int) - (L0.length : Int)) = (1048576 : Int) - (L0.length : Int) from if_neg hbig0)
  have hl0 : L0.length ≤ 1048576 := by omega
  have hn0 : ¬ (1048576 : Int) - (L0.length : Int) < 0 := by omega
  by_cases hbig1 : ((1048576 : Int) - (L0.length : Int)) < (L1.length : Int)
  · have E1 := Lib.hid (show (if ((1048576 : Int) - (L0.length : Int)) < (L1.length : Int) then -1 else ((1048576 : Int) - (L0.length : Int)) - (L1.length : Int)) = -1 from if_pos hbig1)
    go_enter Try.func11, Try.ntmps11
    go_wp2_with fail
    refine (szNoteS_any _ _ _ _ HV0.out hmax0 (by omega) (by omega)).mono ?_
    rw [E0.out]
    rintro e w1 ⟨rfl, rfl⟩
    go_wp2_with fail
    refine (szNoteS_any _ _ _ _ HV1.out hmax1 (by omega) (by omega)).mono ?_
    rw [E1.out]
    rintro e w1 ⟨rfl, rfl⟩
    go_wp2_with fail
    go_ret
    exact ⟨rfl, Below.refl _ _⟩
  have E1 := Lib.hid (show (if ((1048576 : Int) - (L0.length : Int)) < (L1.length : Int) then -1 else ((1048576 : Int) - (L0.length : Int)) - (L1.length : Int)) = ((1048576 : Int) - (L0.length : Int)) - (L1.length : Int) from if_neg hbig1)
  have hl1 : L1.length ≤ 1048576 := by omega
  have hn1 : ¬ ((1048576 : Int) - (L0.length : Int)) - (L1.length : Int) < 0 := by omega
  have hVL : (Mn.mval L0 L1 tol).length ≤ 1048576 := by have := Mn.mval_len L0 L1 tol; omega
  go_enter Try.func11, Try.ntmps11
  go_wp2_with fail
  refine (szNoteS_any _ _ _ _ HV0.out hmax0 (by omega) (by omega)).mono ?_
  rw [E0.out]
  rintro e w1 ⟨rfl, rfl⟩
  go_wp2_with fail
  refine (szNoteS_any _ _ _ _ HV1.out hmax1 (by omega) (by omega)).mono ?_
  rw [E1.out]
  rintro e w1 ⟨rfl, rfl⟩
  go_wp2_with fail
  refine (toNoteS_any _ _ _ HV0.out hl0).mono ?_
  rintro e W1 ⟨v2, rfl, h2, ⟨bZ0, rfl⟩, hb2⟩
  have BZ0 := Lib.hid (show ∀ j, (Value.slice (some ⟨bZ0, 0, none⟩) L0.length L0.length).ownBlock = some j → w.heap.size ≤ j ∧ j < W1.heap.size from fun j hj => World.ownsRow.lt h2 j hj)
  have SZ0 := Lib.hid (hb2.size)
  have HB := Lib.hid hb2
  have Z0 := Lib.hid h2; clear h2 hb2
  go_wp2_with fail
  refine (toNoteS_any _ _ _ (HV1.out.below HB.out (Nat.le_refl _)) hl1).mono ?_
  rintro e W2 ⟨v2, rfl, h2, ⟨bZ1, rfl⟩, hb2⟩
  have BZ1 := Lib.hid (show ∀ j, (Value.slice (some ⟨bZ1, 0, none⟩) L1.length L1.length).ownBlock = some j → W1.heap.size ≤ j ∧ j < W2.heap.size from fun j hj => World.ownsRow.lt h2 j hj)
  have SZ1 := Lib.hid (hb2.size)
  replace Z0 := Lib.hid (Z0.out.below hb2 (Nat.le_refl _))
  replace HB := Lib.hid (HB.out.trans (hb2.mono HB.out.size))
  have Z1 := Lib.hid h2; clear h2 hb2
  go_wp2_with fail
  refine (smatchE_any _ _ _ _ _ tol Z0.out.r3.o Z1.out.r3.o (by omega) (by omega)).mono ?_
  rintro e W3 ⟨vG0, rfl, h2, hb2⟩
  have BG0 := Lib.hid (show ∀ j, vG0.ownBlock = some j → W2.heap.size ≤ j ∧ j < W3.heap.size from fun j hj => World.ownsRow.lt h2 j hj)
  have SG0 := Lib.hid (hb2.size)
  replace Z0 := Lib.hid (Z0.out.below hb2 (Nat.le_refl _))
  replace Z1 := Lib.hid (Z1.out.below hb2 (Nat.le_refl _))
  replace HB := Lib.hid (HB.out.trans (hb2.mono HB.out.size))
  have G0 := Lib.hid h2; clear h2 hb2
  obtain ⟨aG0, cG0, rfl⟩ := IRow.slice G0.out
  go_wp2_with fail
  clear Z0
  clear Z1
  refine (toNoteS_any _ _ _ (HV0.out.below HB.out (Nat.le_refl _)) hl0).mono ?_
  rintro e W4 ⟨v2, rfl, h2, ⟨bX0, rfl⟩, hb2⟩
  have BX0 := Lib.hid (show ∀ j, (Value.slice (some ⟨bX0, 0, none⟩) L0.length L0.length).ownBlock = some j → W3.heap.size ≤ j ∧ j < W4.heap.size from fun j hj => World.ownsRow.lt h2 j hj)
  have SX0 := Lib.hid (hb2.size)
  have HX0 := Lib.hid (HB.out.size)
  replace G0 := Lib.hid (G0.out.below hb2 (Nat.le_refl _))
  replace HB := Lib.hid (HB.out.trans (hb2.mono HB.out.size))
  have X0 := Lib.hid h2; clear h2 hb2
  go_wp2_with fail
  refine (toNoteS_any _ _ _ (HV1.out.below HB.out (Nat.le_refl _)) hl1).mono ?_
  rintro e W5 ⟨v2, rfl, h2, ⟨bX1, rfl⟩, hb2⟩
  have BX1 := Lib.hid (show ∀ j, (Value.slice (some ⟨bX1, 0, none⟩) L1.length L1.length).ownBlock = some j → W4.heap.size ≤ j ∧ j < W5.heap.size from fun j hj => World.ownsRow.lt h2 j hj)
  have SX1 := Lib.hid (hb2.size)
  replace G0 := Lib.hid (G0.out.below hb2 (Nat.le_refl _))
  replace X0 := Lib.hid (X0.out.below hb2 (Nat.le_refl _))
  replace HB := Lib.hid (HB.out.trans (hb2.mono HB.out.size))
  have X1 := Lib.hid h2; clear h2 hb2
  go_wp2_with fail
  refine (matchE_any _ _ _ _ _ tol X0.out.r3.o X1.out.r3.o (by omega) (by omega)).mono ?_
  rintro e W6 ⟨vG1, rfl, h2, hb2⟩
  have BG1 := Lib.hid (show ∀ j, vG1.ownBlock = some j → W5.heap.size ≤ j ∧ j < W6.heap.size from fun j hj => World.ownsRow.lt h2 j hj)
  have SG1 := Lib.hid (hb2.size)
  replace G0 := Lib.hid (G0.out.below hb2 (Nat.le_refl _))
  replace X0 := Lib.hid (X0.out.below hb2 (Nat.le_refl _))
  replace X1 := Lib.hid (X1.out.below hb2 (Nat.le_refl _))
  replace HB := Lib.hid (HB.out.trans (hb2.mono HB.out.size))
  have G1 := Lib.hid h2; clear h2 hb2
  obtain ⟨aG1, cG1, rfl⟩ := IRow.slice G1.out
  go_wp2_with fail
  refine (eqi_same _ _ _ _ G1.out.r1 G0.out.r1 hVL).mono ?_
  rintro e W7 ⟨rfl, hb2⟩
  replace G0 := Lib.hid (G0.out.below hb2 (Nat.le_refl _))
  replace X0 := Lib.hid (X0.out.below hb2 (Nat.le_refl _))
  replace X1 := Lib.hid (X1.out.below hb2 (Nat.le_refl _))
  replace G1 := Lib.hid (G1.out.below hb2 (Nat.le_refl _))
  replace HB := Lib.hid (HB.out.trans (hb2.mono HB.out.size))
  clear hb2
  go_wp2_with fail
  refine (toNoteS_any _ _ _ (HV0.out.below HB.out (Nat.le_refl _)) hl0).mono ?_
  rintro e W8 ⟨v2, rfl, h2, ⟨bY0, rfl⟩, hb2⟩
  have BY0 := Lib.hid (show ∀ j, (Value.slice (some ⟨bY0, 0, none⟩) L0.length L0.length).ownBlock = some j → W7.heap.size ≤ j ∧ j < W8.heap.size from fun j hj => World.ownsRow.lt h2 j hj)
  have SY0 := Lib.hid (hb2.size)
  replace G0 := Lib.hid (G0.out.below hb2 (Nat.le_refl _))
  replace X0 := Lib.hid (X0.out.below hb2 (Nat.le_refl _))
  replace X1 := Lib.hid (X1.out.below hb2 (Nat.le_refl _))
  replace G1 := Lib.hid (G1.out.below hb2 (Nat.le_refl _))
  replace HB := Lib.hid (HB.out.trans (hb2.mono HB.out.size))
  have Y0 := Lib.hid h2; clear h2 hb2
  go_wp2_with fail
  refine (eqNoteS_same _ _ _ _ X0.out.r3 Y0.out.r3 hl0).mono ?_
  rintro e W9 ⟨rfl, hb2⟩
  replace G0 := Lib.hid (G0.out.below hb2 (Nat.le_refl _))
  replace X0 := Lib.hid (X0.out.below hb2 (Nat.le_refl _))
  replace X1 := Lib.hid (X1.out.below hb2 (Nat.le_refl _))
  replace G1 := Lib.hid (G1.out.below hb2 (Nat.le_refl _))
  replace Y0 := Lib.hid (Y0.out.below hb2 (Nat.le_refl _))
  replace HB := Lib.hid (HB.out.trans (hb2.mono HB.out.size))
  clear hb2
  clear Y0
  go_wp2_with fail
  refine (toNoteS_any _ _ _ (HV1.out.below HB.out (Nat.le_refl _)) hl1).mono ?_
  rintro e W10 ⟨v2, rfl, h2, ⟨bY1, rfl⟩, hb2⟩
  have BY1 := Lib.hid (show ∀ j, (Value.slice (some ⟨bY1, 0, none⟩) L1.length L1.length).ownBlock = some j → W9.heap.size ≤ j ∧ j < W10.heap.size from fun j hj => World.ownsRow.lt h2 j hj)
  have SY1 := Lib.hid (hb2.size)
  replace G0 := Lib.hid (G0.out.below hb2 (Nat.le_refl _))
  replace X0 := Lib.hid (X0.out.below hb2 (Nat.le_refl _))
  replace X1 := Lib.hid (X1.out.below hb2 (Nat.le_refl _))
  replace G1 := Lib.hid (G1.out.below hb2 (Nat.le_refl _))
  replace HB := Lib.hid (HB.out.trans (hb2.mono HB.out.size))
  have Y1 := Lib.hid h2; clear h2 hb2
  go_wp2_with fail
  refine (eqNoteS_same _ _ _ _ X1.out.r3 Y1.out.r3 hl1).mono ?_
  rintro e W11 ⟨rfl, hb2⟩
  replace G0 := Lib.hid (G0.out.below hb2 (Nat.le_refl _))
  replace X0 := Lib.hid (X0.out.below hb2 (Nat.le_refl _))
  replace X1 := Lib.hid (X1.out.below hb2 (Nat.le_refl _))
  replace G1 := Lib.hid (G1.out.below hb2 (Nat.le_refl _))
  replace Y1 := Lib.hid (Y1.out.below hb2 (Nat.le_refl _))
  replace HB := Lib.hid (HB.out.trans (hb2.mono HB.out.size))
  clear hb2
  clear Y1
  go_wp2_with fail
  refine (markNote_any _ _ _ _ _ X0.out hl0 (by omega) (by omega)).mono ?_
  rintro e W12 ⟨ys0, rfl, hy0, -, -, hg2⟩
  replace G0 := Lib.hid (show IRow _ _ _ _ from World.ownsRow.ne G0.out hg2 (fun i j hi hj => by have p1 := BG0.out i hi; have p2 := BX0.out j hj; have q0 := SG0.out; have q1 := SG1.out; have r0 := SX0.out; have r1 := SX1.out; omega))
  replace X1 := Lib.hid (show TRow 48 _ _ _ _ from World.ownsRow.ne X1.out hg2 (fun i j hi hj => by have p1 := BX1.out i hi; have p2 := BX0.out j hj; have q0 := SG0.out; have q1 := SG1.out; have r0 := SX0.out; have r1 := SX1.out; omega))
  replace G1 := Lib.hid (show IRow _ _ _ _ from World.ownsRow.ne G1.out hg2 (fun i j hi hj => by have p1 := BG1.out i hi; have p2 := BX0.out j hj; have q0 := SG0.out; have q1 := SG1.out; have r0 := SX0.out; have r1 := SX1.out; omega))
  replace HB := Lib.hid (HB.out.grown hg2 HB.out.size (fun j hj => by have p2 := BX0.out j hj; have q0 := HX0.out; have r0 := SX0.out; have r1 := SX1.out; omega))
  clear hg2 hy0 ys0
  clear X0
  go_wp2_with fail
  refine (markNote_any _ _ _ _ _ X1.out hl1 (by omega) (by omega)).mono ?_
  rintro e W13 ⟨ys1, rfl, hy1, -, -, hg2⟩
  replace G0 := Lib.hid (show IRow _ _ _ _ from World.ownsRow.ne G0.out hg2 (fun i j hi hj => by have p1 := BG0.out i hi; have p2 := BX1.out j hj; have q0 := SG0.out; have q1 := SG1.out; have r0 := SX0.out; have r1 := SX1.out; omega))
  replace G1 := Lib.hid (show IRow _ _ _ _ from World.ownsRow.ne G1.out hg2 (fun i j hi hj => by have p1 := BG1.out i hi; have p2 := BX1.out j hj; have q0 := SG0.out; have q1 := SG1.out; have r0 := SX0.out; have r1 := SX1.out; omega))
  replace HB := Lib.hid (HB.out.grown hg2 HB.out.size (fun j hj => by have p2 := BX1.out j hj; have q0 := HX0.out; have r0 := SX0.out; have r1 := SX1.out; omega))
  clear hg2 hy1 ys1
  clear X1
  go_wp2_with fail
  refine (eqi_same _ _ _ _ G1.out.r1 G0.out.r1 hVL).mono ?_
  rintro e W14 ⟨rfl, hb2⟩
  replace G0 := Lib.hid (G0.out.below hb2 (Nat.le_refl _))
  replace G1 := Lib.hid (G1.out.below hb2 (Nat.le_refl _))
  replace HB := Lib.hid (HB.out.trans (hb2.mono HB.out.size))
  clear hb2
  go_wp2_with fail
  refine (markI_any _ _ _ _ _ G1.out hVL (by omega) (by omega)).mono ?_
  rintro e W15 ⟨ys, rfl, hy, hG, hM, hg2⟩
  replace G0 := Lib.hid (show IRow _ _ _ _ from World.ownsRow.ne G0.out hg2 (fun i j hi hj => by have p1 := BG0.out i hi; have p2 := BG1.out j hj; have r0 := SX0.out; have r1 := SX1.out; omega))
  replace HB := Lib.hid (HB.out.grown hg2 HB.out.size (fun j hj => by have p2 := BG1.out j hj; have q0 := HX0.out; have r0 := SX0.out; have r1 := SX1.out; omega))
  have HM := Lib.hid (show _ from hM)
  have HG := Lib.hid hG
  have HY := Lib.hid hy
  clear hG hM hg2 hy
  clear G1
  go_wp2_with fail
  have HMM := Lib.hid (show MkI ys 1 ys.length by rw [HY.out]; exact HM.out)
  have HR := Lib.hid (show R1o W15 _ ys from HG.out.r1)
  have hmne : (1 + (((Mn.mval L0 L1 tol).length : Nat) : Int) != 1 + (((Mn.mval L0 L1 tol).length : Nat) : Int)) = false := by simp
  refine (heldI_any _ _ _ _ HR.out HMM.out (by rw [HY.out]; exact hVL) (by omega) (by omega)).mono ?_
  rintro e w9 ⟨rfl, rfl⟩
  rw [HY.out]
  go_wp2_with fail
  refine (toNoteS_any _ _ _ (HV0.out.below HB.out (Nat.le_refl _)) hl0).mono ?_
  rintro e W16 ⟨v2, rfl, h2, ⟨bZ0, rfl⟩, hb2⟩
  have BZ0 := Lib.hid (show ∀ j, (Value.slice (some ⟨bZ0, 0, none⟩) L0.length L0.length).ownBlock = some j → W15.heap.size ≤ j ∧ j < W16.heap.size from fun j hj => World.ownsRow.lt h2 j hj)
  have SZ0 := Lib.hid (hb2.size)
  replace G0 := Lib.hid (G0.out.below hb2 (Nat.le_refl _))
  replace HR := Lib.hid (HR.out.below hb2 (Nat.le_refl _))
  replace HB := Lib.hid (HB.out.trans (hb2.mono HB.out.size))
  have Z0 := Lib.hid h2; clear h2 hb2
  go_wp2_with fail
  refine (toNoteS_any _ _ _ (HV1.out.below HB.out (Nat.le_refl _)) hl1).mono ?_
  rintro e W17 ⟨v2, rfl, h2, ⟨bZ1, rfl⟩, hb2⟩
  have BZ1 := Lib.hid (show ∀ j, (Value.slice (some ⟨bZ1, 0, none⟩) L1.length L1.length).ownBlock = some j → W16.heap.size ≤ j ∧ j < W17.heap.size from fun j hj => World.ownsRow.lt h2 j hj)
  have SZ1 := Lib.hid (hb2.size)
  replace G0 := Lib.hid (G0.out.below hb2 (Nat.le_refl _))
  replace Z0 := Lib.hid (Z0.out.below hb2 (Nat.le_refl _))
  replace HR := Lib.hid (HR.out.below hb2 (Nat.le_refl _))
  replace HB := Lib.hid (HB.out.trans (hb2.mono HB.out.size))
  have Z1 := Lib.hid h2; clear h2 hb2
  go_wp2_with fail
  refine (matchE_any _ _ _ _ _ tol Z0.out.r3.o Z1.out.r3.o (by omega) (by omega)).mono ?_
  rintro e W18 ⟨vG2, rfl, h2, hb2⟩
  have BG2 := Lib.hid (show ∀ j, vG2.ownBlock = some j → W17.heap.size ≤ j ∧ j < W18.heap.size from fun j hj => World.ownsRow.lt h2 j hj)
  have SG2 := Lib.hid (hb2.size)
  replace G0 := Lib.hid (G0.out.below hb2 (Nat.le_refl _))
  replace Z0 := Lib.hid (Z0.out.below hb2 (Nat.le_refl _))
  replace Z1 := Lib.hid (Z1.out.below hb2 (Nat.le_refl _))
  replace HR := Lib.hid (HR.out.below hb2 (Nat.le_refl _))
  replace HB := Lib.hid (HB.out.trans (hb2.mono HB.out.size))
  have G2 := Lib.hid h2; clear h2 hb2
  obtain ⟨aG2, cG2, rfl⟩ := IRow.slice G2.out
  go_wp2_with fail
  clear Z0
  clear Z1
  refine (eqi_same _ _ _ _ G2.out.r1 G0.out.r1 hVL).mono ?_
  rintro e W19 ⟨rfl, hb2⟩
  replace G0 := Lib.hid (G0.out.below hb2 (Nat.le_refl _))
  replace G2 := Lib.hid (G2.out.below hb2 (Nat.le_refl _))
  replace HR := Lib.hid (HR.out.below hb2 (Nat.le_refl _))
  replace HB := Lib.hid (HB.out.trans (hb2.mono HB.out.size))
  clear hb2
  go_wp2_with fail
  refine (heldI_any _ _ _ _ HR.out HMM.out (by rw [HY.out]; exact hVL) (by omega) (by omega)).mono ?_
  rintro e w9 ⟨rfl, rfl⟩
  rw [HY.out]
  go_wp2_with fail
  go_ret
  exact ⟨rfl, HB.out⟩
end Go.Proofs.Ytmamnljgkkjkcaa
