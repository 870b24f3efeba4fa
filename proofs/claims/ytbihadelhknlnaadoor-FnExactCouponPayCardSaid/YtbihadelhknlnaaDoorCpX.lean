/- The exact law of CouponPay. -/
import Derived.Test.YtbihadelhknlnaaDoorCpL
namespace Go.Proofs.YtbihadelhknlnaaDoor
open Go.RowKit
theorem World.ownsRow.ne {w w' : World} {B n : Nat} {T : TypeId} {k : Nat} {v : Value} {cs : List Value} {r : Option Nat} (h : w.ownsRow B T k v n cs) (hg : w.grownBy w' r) (hne : ∀ i j, v.ownBlock = some i → r = some j → i ≠ j) : w'.ownsRow B T k v n cs :=
  World.ownsRow.kept h hg (by
    cases hb : v.ownBlock with
    | none => exact .inl rfl
    | some i => exact .inr fun e => hne i i hb e.symm rfl)
theorem Cp.val_le2 (s e m r d : Int) (hs : List Int) : (Cp.val s e m r hs d).length ≤ 1048576 := by
  unfold Cp.val
  split
  · rename_i h
    rw [List.length_map]
    have := (Ho.parts h.2).2.1
    omega
  · simp
theorem Blk.grownR {w w' : World} {b : Nat} {t : TypeId} {cs : Array Value} {row : Option Nat} (h : Blk w b t cs) (hg : w.grownBy w' row) (hne : ∀ j, row = some j → b ≠ j) : Blk w' b t cs :=
  (hg.block b h.lt (fun e => hne b e.symm rfl)).trans h
set_option maxRecDepth 8000 in
set_option maxHeartbeats 8000000 in
theorem exCouponPay (s e' m r : Int) (a0 : Option Addr) (len0 cap0 : Nat) (zs0 : List Int) (d : Int) (w : World) (hv0 : IsRow .i64 w a0 len0 cap0 zs0) (hT : Tab w) :
    Calls Tryd.prog 4 #[.agg #[.int .i64 s, .int .i64 e', .int .i64 m, .int .i64 r], .slice a0 len0 cap0, .int .i64 d] w fun e w' => e = .returned (.bool true) ∧ Below w.heap.size w w' := by
  obtain ⟨hlen0, hR0⟩ := r1_of_row hv0
  have hmax0 : len0 ≤ 9223372036854775807 := by rcases hv0 with ⟨-, rfl, -⟩ | ⟨x, rfl, h1, h2, -⟩ <;> first | omega | (unfold maxLen at *; omega)
  clear hv0
  generalize zs0.take len0 = L0 at hlen0 hR0
  subst hlen0
  have HV0 := Lib.hid hR0; clear hR0
  by_cases hbig0 : 1048576 < (L0.length : Int)
  · go_enter Tryd.func4, Tryd.ntmps4
    go_wp2_with fail
    go_ret
    exact ⟨rfl, (Below.refl _ _).alloc (Nat.le_refl _) _⟩
  have hl0 : L0.length ≤ 1048576 := by omega
  have hVL : (Cp.val s e' m r L0 d).length ≤ 1048576 := Cp.val_le2 s e' m r d L0
  have HBase := Lib.hid ((Below.refl w.heap.size w).alloc (Nat.le_refl _) (.cells #[.int .i64 s, .int .i64 e', .int .i64 m, .int .i64 r] 36))
  have KB := Lib.hid (Blk.new w #[.int .i64 s, .int .i64 e', .int .i64 m, .int .i64 r] 36)
  have HT1 := Lib.hid (hT.below HBase.out hT.pos)
  replace HV0 := Lib.hid (HV0.out.below HBase.out (Nat.le_refl _))
  obtain ⟨b0, b1, b2, b3⟩ := KB.out.four
  clear hT
  go_enter Tryd.func4, Tryd.ntmps4
  go_wp2_with fail
  generalize w.alloc (.cells #[.int .i64 s, .int .i64 e', .int .i64 m, .int .i64 r] 36) = w0 at HBase KB HT1 HV0 b0 b1 b2 b3 ⊢
  have hKl := KB.out.lt
  have HTab := Lib.hid (fun W (hW : Below w0.heap.size w0 W) => HT1.out.below hW HT1.out.pos)
  refine (toBond_any _ _ _ _ _).mono ?_
  rintro e WA ⟨rfl, hb2⟩
  have HB := Lib.hid hb2
  replace KB := Lib.hid (KB.out.below hb2 KB.out.lt)
  have SA := Lib.hid (hb2.size)
  clear hb2 b0 b1 b2 b3
  go_wp2_with fail
  refine (toInts_any _ _ _ (HV0.out.below HB.out (Nat.le_refl _)) hl0).mono ?_
  rintro e W1 ⟨bZ0, rfl, h2, hb2⟩
  have BZ0 := Lib.hid (show ∀ j, (Value.slice (some ⟨bZ0, 0, none⟩) L0.length L0.length).ownBlock = some j → WA.heap.size ≤ j ∧ j < W1.heap.size from fun j hj => World.ownsRow.lt h2 j hj)
  have SZ0 := Lib.hid (hb2.size)
  replace HB := Lib.hid (HB.out.trans (hb2.mono HB.out.size))
  replace KB := Lib.hid (KB.out.below hb2 KB.out.lt)
  have Z0 := Lib.hid h2; clear h2 hb2
  go_wp2_with fail
  refine (scouponPay_any s e' m r d _ _ _ Z0.out.r1 (by omega)).mono ?_
  rintro e W2 ⟨vG0, rfl, h2, hb2⟩
  have BG0 := Lib.hid (show ∀ j, vG0.ownBlock = some j → W1.heap.size ≤ j ∧ j < W2.heap.size from fun j hj => World.ownsRow.lt h2 j hj)
  have SG0 := Lib.hid (hb2.size)
  replace Z0 := Lib.hid (Z0.out.below hb2 (Nat.le_refl _))
  replace HB := Lib.hid (HB.out.trans (hb2.mono HB.out.size))
  replace KB := Lib.hid (KB.out.below hb2 KB.out.lt)
  have G0 := Lib.hid h2; clear h2 hb2
  obtain ⟨aG0, cG0, rfl⟩ := IRow.slice G0.out
  go_wp2_with fail
  clear Z0
  refine (toInts_any _ _ _ (HV0.out.below HB.out (Nat.le_refl _)) hl0).mono ?_
  rintro e W3 ⟨bX0, rfl, h2, hb2⟩
  have BX0 := Lib.hid (show ∀ j, (Value.slice (some ⟨bX0, 0, none⟩) L0.length L0.length).ownBlock = some j → W2.heap.size ≤ j ∧ j < W3.heap.size from fun j hj => World.ownsRow.lt h2 j hj)
  have SX0 := Lib.hid (hb2.size)
  have HX0 := Lib.hid (HB.out.size)
  replace G0 := Lib.hid (G0.out.below hb2 (Nat.le_refl _))
  replace HB := Lib.hid (HB.out.trans (hb2.mono HB.out.size))
  replace KB := Lib.hid (KB.out.below hb2 KB.out.lt)
  have X0 := Lib.hid h2; clear h2 hb2
  obtain ⟨b0, b1, b2, b3⟩ := KB.out.four
  go_wp2_with fail
  refine (toBond_any _ _ _ _ _).mono ?_
  rintro e WB ⟨rfl, hb2⟩
  replace G0 := Lib.hid (G0.out.below hb2 (Nat.le_refl _))
  replace X0 := Lib.hid (X0.out.below hb2 (Nat.le_refl _))
  replace HB := Lib.hid (HB.out.trans (hb2.mono HB.out.size))
  replace KB := Lib.hid (KB.out.below hb2 KB.out.lt)
  have SB := Lib.hid (hb2.size)
  clear hb2 b0 b1 b2 b3
  go_wp2_with fail
  refine (couponPay_any s e' m r d _ (HTab.out _ HB.out) _ _ X0.out.r1 (by omega)).mono ?_
  rintro e W4 ⟨vG1, rfl, h2, hb2⟩
  have BG1 := Lib.hid (show ∀ j, vG1.ownBlock = some j → WB.heap.size ≤ j ∧ j < W4.heap.size from fun j hj => World.ownsRow.lt h2 j hj)
  have SG1 := Lib.hid (hb2.size)
  replace G0 := Lib.hid (G0.out.below hb2 (Nat.le_refl _))
  replace X0 := Lib.hid (X0.out.below hb2 (Nat.le_refl _))
  replace HB := Lib.hid (HB.out.trans (hb2.mono HB.out.size))
  replace KB := Lib.hid (KB.out.below hb2 KB.out.lt)
  have G1 := Lib.hid h2; clear h2 hb2
  obtain ⟨aG1, cG1, rfl⟩ := IRow.slice G1.out
  go_wp2_with fail
  refine (eqi_same _ _ _ _ G1.out.r1 G0.out.r1 hVL).mono ?_
  rintro e W5 ⟨rfl, hb2⟩
  replace G0 := Lib.hid (G0.out.below hb2 (Nat.le_refl _))
  replace X0 := Lib.hid (X0.out.below hb2 (Nat.le_refl _))
  replace G1 := Lib.hid (G1.out.below hb2 (Nat.le_refl _))
  replace HB := Lib.hid (HB.out.trans (hb2.mono HB.out.size))
  replace KB := Lib.hid (KB.out.below hb2 KB.out.lt)
  clear hb2
  go_wp2_with fail
  refine (toInts_any _ _ _ (HV0.out.below HB.out (Nat.le_refl _)) hl0).mono ?_
  rintro e W6 ⟨bY0, rfl, h2, hb2⟩
  have BY0 := Lib.hid (show ∀ j, (Value.slice (some ⟨bY0, 0, none⟩) L0.length L0.length).ownBlock = some j → W5.heap.size ≤ j ∧ j < W6.heap.size from fun j hj => World.ownsRow.lt h2 j hj)
  have SY0 := Lib.hid (hb2.size)
  replace G0 := Lib.hid (G0.out.below hb2 (Nat.le_refl _))
  replace X0 := Lib.hid (X0.out.below hb2 (Nat.le_refl _))
  replace G1 := Lib.hid (G1.out.below hb2 (Nat.le_refl _))
  replace HB := Lib.hid (HB.out.trans (hb2.mono HB.out.size))
  replace KB := Lib.hid (KB.out.below hb2 KB.out.lt)
  have Y0 := Lib.hid h2; clear h2 hb2
  go_wp2_with fail
  refine (eqi_same _ _ _ _ X0.out.r1 Y0.out.r1 hl0).mono ?_
  rintro e W7 ⟨rfl, hb2⟩
  replace G0 := Lib.hid (G0.out.below hb2 (Nat.le_refl _))
  replace X0 := Lib.hid (X0.out.below hb2 (Nat.le_refl _))
  replace G1 := Lib.hid (G1.out.below hb2 (Nat.le_refl _))
  replace Y0 := Lib.hid (Y0.out.below hb2 (Nat.le_refl _))
  replace HB := Lib.hid (HB.out.trans (hb2.mono HB.out.size))
  replace KB := Lib.hid (KB.out.below hb2 KB.out.lt)
  clear hb2
  clear Y0
  go_wp2_with fail
  refine (markI_any _ _ _ _ _ X0.out hl0 (by omega) (by omega)).mono ?_
  rintro e W8 ⟨ys0, rfl, hy0, -, -, hg2⟩
  replace G0 := Lib.hid (show IRow _ _ _ _ from World.ownsRow.ne G0.out hg2 (fun i j hi hj => by have p1 := BG0.out i hi; have p2 := BX0.out j hj; have q0 := SG0.out; have q1 := SG1.out; have r0 := SX0.out; have rA := SA.out; have rB := SB.out; omega))
  replace G1 := Lib.hid (show IRow _ _ _ _ from World.ownsRow.ne G1.out hg2 (fun i j hi hj => by have p1 := BG1.out i hi; have p2 := BX0.out j hj; have q0 := SG0.out; have q1 := SG1.out; have r0 := SX0.out; have rA := SA.out; have rB := SB.out; omega))
  replace HB := Lib.hid (HB.out.grown hg2 HB.out.size (fun j hj => by have p2 := BX0.out j hj; have q0 := HX0.out; have r0 := SX0.out; have rA := SA.out; have rB := SB.out; omega))
  replace KB := Lib.hid (KB.out.grownR hg2 (fun j hj => by have p2 := BX0.out j hj; have q0 := HX0.out; have r0 := SX0.out; have rA := SA.out; have rB := SB.out; omega))
  clear hg2 hy0 ys0
  clear X0
  go_wp2_with fail
  refine (eqi_same _ _ _ _ G1.out.r1 G0.out.r1 hVL).mono ?_
  rintro e W9 ⟨rfl, hb2⟩
  replace G0 := Lib.hid (G0.out.below hb2 (Nat.le_refl _))
  replace G1 := Lib.hid (G1.out.below hb2 (Nat.le_refl _))
  replace HB := Lib.hid (HB.out.trans (hb2.mono HB.out.size))
  replace KB := Lib.hid (KB.out.below hb2 KB.out.lt)
  clear hb2
  go_wp2_with fail
  refine (markI_any _ _ _ _ _ G1.out hVL (by omega) (by omega)).mono ?_
  rintro e W10 ⟨ys, rfl, hy, hG, hM, hg2⟩
  replace G0 := Lib.hid (show IRow _ _ _ _ from World.ownsRow.ne G0.out hg2 (fun i j hi hj => by have p1 := BG0.out i hi; have p2 := BG1.out j hj; have r0 := SX0.out; have rA := SA.out; have rB := SB.out; omega))
  replace HB := Lib.hid (HB.out.grown hg2 HB.out.size (fun j hj => by have p2 := BG1.out j hj; have q0 := HX0.out; have r0 := SX0.out; have rA := SA.out; have rB := SB.out; omega))
  replace KB := Lib.hid (KB.out.grownR hg2 (fun j hj => by have p2 := BG1.out j hj; have q0 := HX0.out; have r0 := SX0.out; have rA := SA.out; have rB := SB.out; omega))
  have HM := Lib.hid (show _ from hM)
  have HG := Lib.hid hG
  have HY := Lib.hid hy
  clear hG hM hg2 hy
  clear G1
  go_wp2_with fail
  have HMM := Lib.hid (show MkI ys 1 ys.length by rw [HY.out]; exact HM.out)
  have HR := Lib.hid (show R1o W10 _ ys from HG.out.r1)
  have hmne : (1 + (((Cp.val s e' m r L0 d).length : Nat) : Int) != 1 + (((Cp.val s e' m r L0 d).length : Nat) : Int)) = false := by simp
  refine (heldI_any _ _ _ _ HR.out HMM.out (by rw [HY.out]; exact hVL) (by omega) (by omega)).mono ?_
  rintro e w9 ⟨rfl, rfl⟩
  rw [HY.out]
  obtain ⟨b0, b1, b2, b3⟩ := KB.out.four
  go_wp2_with fail
  refine (toBond_any _ _ _ _ _).mono ?_
  rintro e WC ⟨rfl, hb2⟩
  replace G0 := Lib.hid (G0.out.below hb2 (Nat.le_refl _))
  replace HR := Lib.hid (HR.out.below hb2 (Nat.le_refl _))
  replace HB := Lib.hid (HB.out.trans (hb2.mono HB.out.size))
  replace KB := Lib.hid (KB.out.below hb2 KB.out.lt)
  clear hb2 b0 b1 b2 b3
  go_wp2_with fail
  refine (toInts_any _ _ _ (HV0.out.below HB.out (Nat.le_refl _)) hl0).mono ?_
  rintro e W11 ⟨bZ0, rfl, h2, hb2⟩
  have BZ0 := Lib.hid (show ∀ j, (Value.slice (some ⟨bZ0, 0, none⟩) L0.length L0.length).ownBlock = some j → WC.heap.size ≤ j ∧ j < W11.heap.size from fun j hj => World.ownsRow.lt h2 j hj)
  have SZ0 := Lib.hid (hb2.size)
  replace G0 := Lib.hid (G0.out.below hb2 (Nat.le_refl _))
  replace HR := Lib.hid (HR.out.below hb2 (Nat.le_refl _))
  replace HB := Lib.hid (HB.out.trans (hb2.mono HB.out.size))
  replace KB := Lib.hid (KB.out.below hb2 KB.out.lt)
  have Z0 := Lib.hid h2; clear h2 hb2
  go_wp2_with fail
  refine (couponPay_any s e' m r d _ (HTab.out _ HB.out) _ _ Z0.out.r1 (by omega)).mono ?_
  rintro e W12 ⟨vG2, rfl, h2, hb2⟩
  have BG2 := Lib.hid (show ∀ j, vG2.ownBlock = some j → W11.heap.size ≤ j ∧ j < W12.heap.size from fun j hj => World.ownsRow.lt h2 j hj)
  have SG2 := Lib.hid (hb2.size)
  replace G0 := Lib.hid (G0.out.below hb2 (Nat.le_refl _))
  replace Z0 := Lib.hid (Z0.out.below hb2 (Nat.le_refl _))
  replace HR := Lib.hid (HR.out.below hb2 (Nat.le_refl _))
  replace HB := Lib.hid (HB.out.trans (hb2.mono HB.out.size))
  replace KB := Lib.hid (KB.out.below hb2 KB.out.lt)
  have G2 := Lib.hid h2; clear h2 hb2
  obtain ⟨aG2, cG2, rfl⟩ := IRow.slice G2.out
  go_wp2_with fail
  clear Z0
  refine (eqi_same _ _ _ _ G2.out.r1 G0.out.r1 hVL).mono ?_
  rintro e W13 ⟨rfl, hb2⟩
  replace G0 := Lib.hid (G0.out.below hb2 (Nat.le_refl _))
  replace G2 := Lib.hid (G2.out.below hb2 (Nat.le_refl _))
  replace HR := Lib.hid (HR.out.below hb2 (Nat.le_refl _))
  replace HB := Lib.hid (HB.out.trans (hb2.mono HB.out.size))
  replace KB := Lib.hid (KB.out.below hb2 KB.out.lt)
  clear hb2
  go_wp2_with fail
  refine (heldI_any _ _ _ _ HR.out HMM.out (by rw [HY.out]; exact hVL) (by omega) (by omega)).mono ?_
  rintro e w9 ⟨rfl, rfl⟩
  rw [HY.out]
  go_wp2_with fail
  go_ret
  exact ⟨rfl, HBase.out.trans (HB.out.mono HBase.out.size)⟩
end Go.Proofs.YtbihadelhknlnaaDoor

