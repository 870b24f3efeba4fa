/- Weights with a cap: the program. -/
import Derived.Test.YtgkldgljebhcgaaCwR
import Derived.Deep.RegionHeld3
import Derived.Deep.DeepCutAuto
import Derived.Deep.LoopGhost
namespace Go.Proofs.Ytgkldgljebhcgaa
open Go.RowKit
/-- A row of false that make gives. -/
abbrev mzb (n : Nat) : Array Value := madeCells (Value.bool false).cells (n * 1)
theorem made_bools1 (n : Nat) : (madeCells (Value.bool false).cells (n * 1)).toList = (List.replicate n false).map Value.bool := by
  rw [Nat.mul_one]
  refine (toList_madeCells_one (.bool false) n).trans ?_
  rw [List.map_replicate]
theorem mzb_row (W : World) (n : Nat) (hn : n ≤ 1000) (B : Nat) (hB : B ≤ W.heap.size) : BRow (W.alloc (.cells (mzb n) 4)) B (.slice (some ⟨W.heap.size, 0, none⟩) (List.replicate n false).length n) (List.replicate n false) := by
  have h : World.ownsRow (W.alloc (.cells (mzb n) 4)) B 4 1 (.slice (some ⟨W.heap.size, 0, none⟩) n n) n (mzb n).toList := World.ownsRow_lit W _ n hB (by unfold maxLen; omega) (size_madeCells _ _)
  rw [made_bools1] at h
  unfold BRow
  rw [List.length_replicate]
  exact h
theorem mk_bools {n : Nat} (hn : n ≤ 1000) (W : World) : (Instr.makeSlice 39 (.int .i64 n) (.int .i64 n)).run Try.prog W = .ok (.slice (some ⟨W.heap.size, 0, none⟩) n n) (W.alloc (.cells (mzb n) 4)) := by
  obtain ⟨i0, hi, hz0, hz1, hz2⟩ := info_parts infoBool
  have h := run_make (P := Try.prog) W 39 4 i0 (.bool false) Try.underlying39 hi hz0 .i64 .i64 n n (by omega) (Int.le_refl _) (by rw [hz2]; omega) (by omega)
  rw [hz1] at h
  simp only [Int.toNat_natCast] at h
  exact h
abbrev Cw.Z : Array Value := #[.slice none 0 0, .slice none 0 0]
theorem Cw.twoF {w : World} {b : Nat} {t : TypeId} {x y : Value} (h : Blk w b t #[x, y]) :
    (w.cell? ⟨b, 0, none⟩ = some x ∧ w.cell? ⟨b, 1, none⟩ = some y) ∧ (w.frozen? ⟨b, 0, none⟩ = false ∧ w.frozen? ⟨b, 1, none⟩ = false) := by
  unfold Blk at h
  simp [World.cell?, World.frozen?, h]
theorem Cw.zA {w1 w3 : World} (hb : Below (w1.alloc (.cells Cw.Z 41)).drew.heap.size (w1.alloc (.cells Cw.Z 41)).drew w3) : Blk w3 w1.heap.size 41 #[.slice none 0 0, .slice none 0 0] :=
  Blk.below (w := (w1.alloc (.cells Cw.Z 41)).drew) (Blk.new w1 Cw.Z 41) hb (by show w1.heap.size < (w1.alloc (.cells Cw.Z 41)).heap.size; simp)
theorem Cw.zB {w1 w3 : World} {n : Nat} (hb : Below ((w1.alloc (.cells Cw.Z 41)).alloc (.cells (mzb n) 4)).drew.heap.size ((w1.alloc (.cells Cw.Z 41)).alloc (.cells (mzb n) 4)).drew w3) : Blk w3 w1.heap.size 41 #[.slice none 0 0, .slice none 0 0] :=
  Blk.below (w := ((w1.alloc (.cells Cw.Z 41)).alloc (.cells (mzb n) 4)).drew) ((Blk.new w1 Cw.Z 41).alloc _) hb (by show w1.heap.size < ((w1.alloc (.cells Cw.Z 41)).alloc (.cells (mzb n) 4)).heap.size; simp; omega)
theorem Cw.zC {w1 w3 : World} {n : Nat} (hb : Below ((w1.alloc (.cells (mzb n) 4)).alloc (.cells Cw.Z 41)).drew.heap.size ((w1.alloc (.cells (mzb n) 4)).alloc (.cells Cw.Z 41)).drew w3) : Blk w3 (w1.heap.size + 1) 41 #[.slice none 0 0, .slice none 0 0] := by
  have h := Blk.below (w := ((w1.alloc (.cells (mzb n) 4)).alloc (.cells Cw.Z 41)).drew) (Blk.new (w1.alloc (.cells (mzb n) 4)) Cw.Z 41) hb (by show (w1.alloc (.cells (mzb n) 4)).heap.size < ((w1.alloc (.cells (mzb n) 4)).alloc (.cells Cw.Z 41)).heap.size; simp)
  rwa [show (w1.alloc (.cells (mzb n) 4)).heap.size = w1.heap.size + 1 by simp] at h
abbrev Cw.sS (bw bm n cw : Nat) : Array Value := #[.slice (some ⟨bw, 0, none⟩) n cw, .slice (some ⟨bm, 0, none⟩) n n]
section
variable {w W : World} {bw bm bc cw : Nat} {xs : List Int}
theorem Cw.mkA (hw : IRow W w.heap.size (.slice (some ⟨bw, 0, none⟩) xs.length cw) xs) (hm : BRow W w.heap.size (.slice (some ⟨bm, 0, none⟩) (List.replicate xs.length false).length xs.length) (List.replicate xs.length false)) (hne : bw ≠ bm) (hb : Below w.heap.size w W) :
    Cs (W.alloc (.cells (Cw.sS bw bm xs.length cw) 41)) w.heap.size W.heap.size bw bm cw xs.length xs (List.replicate xs.length false) ∧ Below w.heap.size w (W.alloc (.cells (Cw.sS bw bm xs.length cw) 41)) := by
  have h1 := (World.ownsRow.lt hw bw rfl).2
  have h2 := (World.ownsRow.lt hm bm rfl).2
  exact ⟨⟨Blk.new W _ _, hw.alloc _, hm.alloc _, hne, by omega, by omega, hb.size, by simp⟩, hb.alloc hb.size _⟩
theorem Cw.mkB (hw : IRow W w.heap.size (.slice (some ⟨bw, 0, none⟩) xs.length cw) xs) (hm : BRow W w.heap.size (.slice (some ⟨bm, 0, none⟩) (List.replicate xs.length false).length xs.length) (List.replicate xs.length false)) (hne : bw ≠ bm) (hb : Below w.heap.size w W)
    (hs : Blk W bc 41 #[.slice none 0 0, .slice none 0 0]) (h1 : bc ≠ bw) (h2 : bc ≠ bm) (hB : w.heap.size ≤ bc) :
    Cs ((W.setCell ⟨bc, 0, none⟩ (.slice (some ⟨bw, 0, none⟩) xs.length cw)).setCell ⟨bc, 1, none⟩ (.slice (some ⟨bm, 0, none⟩) xs.length xs.length)) w.heap.size bc bw bm cw xs.length xs (List.replicate xs.length false) ∧ Below w.heap.size w ((W.setCell ⟨bc, 0, none⟩ (.slice (some ⟨bw, 0, none⟩) xs.length cw)).setCell ⟨bc, 1, none⟩ (.slice (some ⟨bm, 0, none⟩) xs.length xs.length)) := by
  have g : W.grownBy ((W.setCell ⟨bc, 0, none⟩ (.slice (some ⟨bw, 0, none⟩) xs.length cw)).setCell ⟨bc, 1, none⟩ (.slice (some ⟨bm, 0, none⟩) xs.length xs.length)) (some bc) :=
    ⟨rfl, rfl, rfl, by simp [World.setCell], fun k hk hne => by
      have hne2 : k ≠ bc := fun e => hne (by rw [e])
      exact (heap_setCell_other _ ⟨bc, 1, none⟩ k _ hne2).trans (heap_setCell_other W ⟨bc, 0, none⟩ k _ hne2)⟩
  refine ⟨⟨?_, hw.keptBy g (fun j hj => ?_), hm.keptBy g (fun j hj => ?_), hne, h1, h2, hB, by simp⟩, (hb.setCell hB _).setCell hB _⟩
  · unfold Blk at hs ⊢
    simp [World.setCell, Array.getElem?_modify, hs]
  · have hj2 : some bw = some j := hj
    injection hj2 with hj2
    omega
  · have hj2 : some bm = some j := hj
    injection hj2 with hj2
    omega
theorem Cw.mkC (hn : xs.length ≤ 1000) (hw : IRow W w.heap.size (.slice (some ⟨bw, 0, none⟩) xs.length cw) xs) (hb : Below w.heap.size w W) :
    Cs ((W.alloc (.cells (Cw.sS bw (W.heap.size + 1) xs.length cw) 41)).alloc (.cells (mzb xs.length) 4)) w.heap.size W.heap.size bw (W.heap.size + 1) cw xs.length xs (List.replicate xs.length false) ∧ Below w.heap.size w ((W.alloc (.cells (Cw.sS bw (W.heap.size + 1) xs.length cw) 41)).alloc (.cells (mzb xs.length) 4)) := by
  have h1 := (World.ownsRow.lt hw bw rfl).2
  have hb2 := hb.alloc hb.size (.cells (Cw.sS bw (W.heap.size + 1) xs.length cw) 41)
  have h := mzb_row (W.alloc (.cells (Cw.sS bw (W.heap.size + 1) xs.length cw) 41)) xs.length hn w.heap.size hb2.size
  rw [show (W.alloc (.cells (Cw.sS bw (W.heap.size + 1) xs.length cw) 41)).heap.size = W.heap.size + 1 by simp] at h
  exact ⟨⟨(Blk.new W _ _).alloc _, (hw.alloc _).alloc _, h, by omega, by omega, by omega, hb.size, by simp⟩, hb2.alloc hb2.size _⟩
end
set_option maxRecDepth 8000 in
set_option maxHeartbeats 8000000 in
theorem cap_any (w : World) (v : Value) (xs : List Int) (L : Int) (hv : R1o w v xs) (hm : xs.length ≤ 9223372036854775807) :
    Calls Try.prog 7 #[v, .int .i64 L] w (HandsI (Cw.val xs L) w) := by
  have WO := Lib.hid (weightsOk_any w v xs hv hm)
  have HV := Lib.hid hv
  obtain ⟨⟨a, cap, rfl⟩, -⟩ := hv
  have hO : Cw.argB xs L = (Cw.ok xs && (btw L 0 1000 && decide (1000 ≤ L * (xs.length : Int)))) := rfl
  cases h0 : Cw.ok xs with
  | false =>
    have E := Lib.hid (Cw.val_no (hO.trans (by rw [h0]; rfl)))
    rw [h0] at WO
    clear hO h0
    go_enter Try.func7, Try.ntmps7
    go_wp2_with fail
    refine WO.out.mono ?_
    rintro e w1 ⟨rfl, hb1⟩
    go_wp2_with fail
    go_ret
    exact ⟨_, rfl, by rw [E.out]; exact IRow.nil _ _, hb1⟩
  | true =>
    rw [h0] at WO
    obtain ⟨l1, l8, hw, hs⟩ := Cw.parts h0
    have HV2 := Lib.hid (HV.out.2 (by omega))
    cases h1 : btw L 0 1000 with
    | false =>
      have E := Lib.hid (Cw.val_no (hO.trans (by rw [h0, h1]; rfl)))
      clear hO h0 hw hs
      go_enter Try.func7, Try.ntmps7
      go_wp2_with fail
      refine WO.out.mono ?_
      rintro e w1 ⟨rfl, hb1⟩
      go_wp2_with fail
      refine (between_any _ _ _ _).mono ?_
      rintro e w2 ⟨rfl, rfl⟩
      rw [h1]
      go_wp2_with fail
      go_ret
      exact ⟨_, rfl, by rw [E.out]; exact IRow.nil _ _, hb1⟩
    | true =>
      obtain ⟨L0, L1⟩ := btw_iff.1 h1
      have hpb : 0 ≤ L * (xs.length : Int) ∧ L * (xs.length : Int) ≤ 8000 := ⟨Int.mul_nonneg L0 (by omega), by
        have := Int.mul_le_mul L1 (show (xs.length : Int) ≤ 8 by omega) (by omega) (by omega)
        omega⟩
      obtain ⟨p0, p1⟩ := hpb
      by_cases hp : L * (xs.length : Int) < 1000
      · have E := Lib.hid (Cw.val_no (hO.trans (by rw [h0, h1, decide_eq_false (by omega)]; rfl)))
        have H1 := Lib.hid h1
        clear hO h0 h1 hw hs
        go_enter Try.func7, Try.ntmps7
        go_wp2_with fail
        refine WO.out.mono ?_
        rintro e w1 ⟨rfl, hb1⟩
        go_wp2_with fail
        refine (between_any _ _ _ _).mono ?_
        rintro e w2 ⟨rfl, rfl⟩
        rw [H1.out]
        go_wp2_with fail
        go_ret
        exact ⟨_, rfl, by rw [E.out]; exact IRow.nil _ _, hb1⟩
      · have hp' := decide_eq_false hp
        have hok : Cw.argB xs L = true := hO.trans (by rw [h0, h1, decide_eq_true (by omega)]; rfl)
        have E := Lib.hid (Cw.val_yes hok)
        have HI := Lib.hid (Cw.inv0 hok)
        have H1 := Lib.hid h1
        have CL := Lib.hid (fun W (hb : Below w.heap.size w W) => clone_any W _ xs (HV.out.below hb (Nat.le_refl _)) l1 l8)
        have hn : xs.length ≤ 1000 := by omega
        have fmk := fun W => mk_bools hn W
        clear hO h0 h1 hw hs hok
        go_enter Try.func7, Try.ntmps7
        go_wp2_with fail
        refine WO.out.mono ?_
        rintro e w1 ⟨rfl, hb1⟩
        have HB1 := Lib.hid hb1; clear hb1
        go_wp2_with fail
        refine (between_any _ _ _ _).mono ?_
        rintro e w2 ⟨rfl, rfl⟩
        rw [H1.out]
        go_wp2_with fail
        go_cut [5] (fun s wx => ∃ bc bw bm cw cm : Nat, s = .pointer (some ⟨bc, 0, none⟩) ∧ Cs wx w.heap.size bc bw bm cw cm xs (List.replicate xs.length false) ∧ Below w.heap.size w wx)
        case first =>
          go_region_with (go_at_call 23; (with_reducible refine (CL.out _ (by first | with_reducible exact HB1.out.drew | with_reducible exact (HB1.out.alloc HB1.out.size _).drew | with_reducible exact ((HB1.out.alloc HB1.out.size _).alloc (HB1.out.alloc HB1.out.size _).size _).drew)).mono ?_); rintro e w3 ⟨v3, rfl, hv3, hb3⟩; obtain ⟨bw, cw, rfl, gbw, -, -, -, -⟩ := hv3.form (by omega); (first | (have n3 := Cw.zC hb3; have ⟨⟨y0, y1⟩, f0, f1⟩ := Cw.twoF n3) | (have n3 := Cw.zB hb3; have ⟨⟨y0, y1⟩, f0, f1⟩ := Cw.twoF n3) | (have n3 := Cw.zA hb3; have ⟨⟨y0, y1⟩, f0, f1⟩ := Cw.twoF n3; have ⟨⟨z0, z1⟩, g0, g1⟩ := Cw.twoF (n3.alloc (.cells (mzb xs.length) 4))) | skip))
          all_goals
            go_wp2_with fail
            go_meet
          · have hb := HB1.out.drew.trans (hb3.mono HB1.out.size)
            have hw := hv3.lower (show w.heap.size ≤ w1.drew.heap.size from HB1.out.size)
            have h := Cw.mkA (w := w) (hw.alloc (.cells (mzb xs.length) 4)) (mzb_row w3 xs.length hn w.heap.size hb.size) (by have := (World.ownsRow.lt hw bw rfl).2; omega) (hb.alloc hb.size _)
            rw [show (w3.alloc (.cells (mzb xs.length) 4)).heap.size = w3.heap.size + 1 by simp] at h
            exact ⟨_, _, _, _, _, rfl, h⟩
          · have hb := HB1.out.drew.trans (hb3.mono HB1.out.size)
            have hw := hv3.lower (show w.heap.size ≤ w1.drew.heap.size from HB1.out.size)
            exact ⟨_, _, _, _, _, rfl, Cw.mkC hn hw hb⟩
          · have hbm := HB1.out.alloc HB1.out.size (.cells (mzb xs.length) 4)
            have hb := hbm.drew.trans (hb3.mono hbm.size)
            have hw := hv3.lower (show w.heap.size ≤ (w1.alloc (.cells (mzb xs.length) 4)).drew.heap.size from hbm.size)
            have hm := BRow.below (w := (w1.alloc (.cells (mzb xs.length) 4)).drew) (mzb_row w1 xs.length hn w.heap.size HB1.out.size) hb3 (Nat.le_refl _)
            exact ⟨_, _, _, _, _, rfl, Cw.mkA hw hm (by have h : (w1.alloc (.cells (mzb xs.length) 4)).heap.size ≤ bw := gbw; simp at h; omega) hb⟩
          · have hbm := HB1.out.alloc HB1.out.size (.cells (mzb xs.length) 4)
            have hbz := hbm.alloc hbm.size (.cells Cw.Z 41)
            have hb := hbz.drew.trans (hb3.mono hbz.size)
            have hw := hv3.lower (show w.heap.size ≤ ((w1.alloc (.cells (mzb xs.length) 4)).alloc (.cells Cw.Z 41)).drew.heap.size from hbz.size)
            have hm := BRow.below (w := ((w1.alloc (.cells (mzb xs.length) 4)).alloc (.cells Cw.Z 41)).drew) ((mzb_row w1 xs.length hn w.heap.size HB1.out.size).alloc _) hb3 (Nat.le_refl _)
            have hg : w1.heap.size + 1 + 1 ≤ bw := by
              have h : ((w1.alloc (.cells (mzb xs.length) 4)).alloc (.cells Cw.Z 41)).heap.size ≤ bw := gbw
              simp at h; omega
            exact ⟨_, _, _, _, _, rfl, Cw.mkB hw hm (by omega) hb n3 (by omega) (by omega) (by have := HB1.out.size; omega)⟩
          · have hbz := HB1.out.alloc HB1.out.size (.cells Cw.Z 41)
            have hb := hbz.drew.trans (hb3.mono hbz.size)
            have hw := hv3.lower (show w.heap.size ≤ (w1.alloc (.cells Cw.Z 41)).drew.heap.size from hbz.size)
            have hg : w1.heap.size + 1 ≤ bw := by
              have h : (w1.alloc (.cells Cw.Z 41)).heap.size ≤ bw := gbw
              simp at h; omega
            have hl := (World.ownsRow.lt hw bw rfl).2
            exact ⟨_, _, _, _, _, rfl, Cw.mkB (hw.alloc (.cells (mzb xs.length) 4)) (mzb_row w3 xs.length hn w.heap.size hb.size) (by omega) (hb.alloc hb.size _) (n3.alloc _) (by omega) (by omega) (by have := HB1.out.size; omega)⟩
          · have hbz := HB1.out.alloc HB1.out.size (.cells Cw.Z 41)
            have hbm := hbz.alloc hbz.size (.cells (mzb xs.length) 4)
            have hb := hbm.drew.trans (hb3.mono hbm.size)
            have hw := hv3.lower (show w.heap.size ≤ ((w1.alloc (.cells Cw.Z 41)).alloc (.cells (mzb xs.length) 4)).drew.heap.size from hbm.size)
            have hm := BRow.below (w := ((w1.alloc (.cells Cw.Z 41)).alloc (.cells (mzb xs.length) 4)).drew) (mzb_row (w1.alloc (.cells Cw.Z 41)) xs.length hn w.heap.size hbz.size) hb3 (Nat.le_refl _)
            rw [show (w1.alloc (.cells Cw.Z 41)).heap.size = w1.heap.size + 1 by simp] at hm
            have hg : w1.heap.size + 1 + 1 ≤ bw := by
              have h : ((w1.alloc (.cells Cw.Z 41)).alloc (.cells (mzb xs.length) 4)).heap.size ≤ bw := gbw
              simp at h; omega
            exact ⟨_, _, _, _, _, rfl, Cw.mkB hw hm (by omega) hb n3 (by omega) (by omega) (by have := HB1.out.size; omega)⟩
        case rest =>
          obtain ⟨bc, bw, bm, cw, cm, rfl, hC, hB⟩ := hcut
          have HC := Lib.hid hC
          have HB := Lib.hid hB
          have HE0 := Lib.hid (show Cw.go L xs.length xs (List.replicate xs.length false) = Cw.res xs L from rfl)
          clear hC hB fmk CL WO
          go_wp2_with fail
          go_loopg [27] xs.length (fun k _ wr => ∃ (ws : List Int) (cs : List Bool), Hid (Cs wr w.heap.size bc bw bm cw cm ws cs) ∧ Hid (Cw.Inv L ws cs) ∧ Hid (cs.count false ≤ k ∧ Cw.go L k ws cs = Cw.res xs L) ∧ Hid (Below w.heap.size w wr))
          case atStart => exact ⟨xs, _, HC, HI, Lib.hid ⟨by simp, HE0.out⟩, HB⟩
          case round =>
            obtain ⟨ws, cs, HC, HI, HG, HB⟩ := hrel
            have MX := Lib.hid (max_any wr _ ws HC.out.w.r1 HI.out.n1 HI.out.n8)
            have c0 := HC.out.c0.1
            cases ha : Cw.anyB L ws with
            | true =>
              have hf := Cw.more_pos HI.out ha
              obtain ⟨j, rfl⟩ : ∃ j, gk = j + 1 := ⟨gk - 1, by have := HG.out.1; omega⟩
              have RO := Lib.hid (round_any wr _ bc bw bm cw cm L ws cs HC.out HI.out ha)
              have HI2 := Lib.hid (HI.out.next (Cw.any_above ha))
              have HG2 := Lib.hid (show (Cw.caps L ws cs).count false ≤ j ∧ Cw.go L j (Cw.step L ws cs) (Cw.caps L ws cs) = Cw.res xs L from ⟨by have := HG.out.1; omega, (Cw.go_more ha).symm.trans HG.out.2⟩)
              have HA := Lib.hid ha
              clear hf ha
              go_wp2_with fail
              refine MX.out.mono ?_
              rintro e w2 ⟨⟨m, rfl, hm⟩, rfl⟩
              have hL : L < m := of_decide_eq_true ((hm L).trans HA.out)
              clear hm
              go_wp2_with fail
              refine RO.out.mono ?_
              rintro e w3 ⟨rfl, hC3, hB3⟩
              have HC3 := Lib.hid hC3
              have HB3 := Lib.hid (HB.out.trans hB3)
              clear hC3 hB3
              go_wp2_with fail
              go_roundg j
              case measure => omega
              case rel => exact ⟨_, _, HC3, HI2, HG2, HB3⟩
            | false =>
              have HG2 := Lib.hid (show Cw.val xs L = ws from E.out.trans (HG.out.2.symm.trans (Cw.go_done ha)))
              have HA := Lib.hid ha
              clear ha
              go_wp2_with fail
              refine MX.out.mono ?_
              rintro e w2 ⟨⟨m, rfl, hm⟩, rfl⟩
              have hL : ¬ L < m := of_decide_eq_false ((hm L).trans HA.out)
              clear hm
              go_wp2_with fail
              go_ret
              exact ⟨_, rfl, by rw [HG2.out]; exact HC.out.w, HB.out⟩
end Go.Proofs.Ytgkldgljebhcgaa
