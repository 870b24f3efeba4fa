/- Margin calls and loans that are continued, on both sides. -/
import Derived.Test.YtgncgbaoijcinaaDoorRep
import Derived.RegionTactic
import Derived.Deep.RegionHeld3
import Derived.Deep.DeepCutAuto
import Derived.Outline
namespace Go.Proofs.YtgncgbaoijcinaaDoor
open Go.RowKit
/-- The bonds that are missing. -/
def Rp.mrg (c r f t h p m : Int) : Int := if (Rp.ok c r f t h = true ∧ btw p 1 50000 = true) ∧ btw m 0 1000000000 = true then max (Rp.plg c r f t h p - m) 0 else -1
/-- What continues a loan. -/
noncomputable def Rp.rol (c r f t h u rate : Int) : Value := if Rp.ok c r f t h = true ∧ Rp.ok (c + intV c r 1 f t) rate t u h = true then .tuple #[rpV (c + intV c r 1 f t) rate t u h, .bool true] else .tuple #[rpV 0 0 0 0 0, .bool false]
set_option maxHeartbeats 1000000 in
theorem rolled_any (c r f t h u rate : Int) (w : World) (hT : Tab w) (hv : Rp.ok c r f t h = true) :
    Calls Tryd.prog 12 #[rpV c r f t h, .int .i64 u, .int .i64 rate] w fun e w' => e = .returned (rpV (c + intV c r 1 f t) rate t u h) ∧ Below w.heap.size w w' := by
  have hbA := (Below.refl w.heap.size w).alloc (Nat.le_refl _) (.cells (rpA c r f t h) 24)
  have kA := Blk.new w (rpA c r f t h) 24
  have HT := Lib.hid hT; clear hT
  obtain ⟨i0, i1⟩ := Rp.int_nn hv
  obtain ⟨⟨c0, c1⟩, -, -, -⟩ := Rp.ok_iff.1 hv
  have HC := Lib.hid (fun W => rpInt_any c r f t h W)
  rw [Rp.int_yes hv] at HC
  clear hv
  have W1 : IntKind.i64.wrap (c + intV c r 1 f t) = c + intV c r 1 f t := IntWalk.i64_in _ (by omega)
  generalize intV c r 1 f t = n at *
  go_enter Tryd.func12, Tryd.ntmps12
  have HK := Lib.hid (kA.alloc (.cells (rpA 0 0 0 0 0) 24))
  have HZ := Lib.hid (Blk.new (w.alloc (.cells (rpA c r f t h) 24)) (rpA 0 0 0 0 0) 24)
  have HB := Lib.hid (hbA.alloc hbA.size (.cells (rpA 0 0 0 0 0) 24))
  clear kA hbA
  simp only [World.size_alloc] at HZ
  go_wp2_with fail
  go_region_held3 (RpS w.heap.size c r f t h) (first | with_reducible exact Blk.rp HK.out | with_reducible exact Blk.rp (blkDrewR HK.out) | with_reducible exact Blk.rp k3 | with_reducible exact Blk.rp (k3.put5o (by omega) _ _ _ _ _)) (first | (go_at_call 7; refine (HC.out _ (by exact HT.out.below HB.out.drew HT.out.pos)).mono ?_; rintro e w3 ⟨rfl, hb3⟩; have k3 := Blk.below (blkDrewR HK.out) hb3 HK.out.lt; have z3 := Blk.below (blkDrewR HZ.out) hb3 HZ.out.lt; obtain ⟨f0, f1, f2, f3, f4⟩ := z3.rpFz; obtain ⟨y0, y1, y2, y3, y4⟩ := z3.rp; have hb4 := HB.out.drew.trans (hb3.mono HB.out.size)))
  all_goals go_wp2_with fail
  all_goals
    have k2 := z3.put5 (c + n) rate t u h
    obtain ⟨r0', r1', r2', r3', r4'⟩ := k2.rp
    refine bodyPost_ret (v := rpV (c + n) rate t u h) (by simp [results, Tryd.results12, go_sem, r0', r1', r2', r3', r4']) rfl ⟨rfl, put5_below hb4 (by omega) _ _ _ _ _⟩
set_option maxHeartbeats 1000000 in
theorem roll_any (c r f t h u rate : Int) (w : World) (hT : Tab w) :
    Calls Tryd.prog 5 #[rpV c r f t h, .int .i64 u, .int .i64 rate] w fun e w' => e = .returned (Rp.rol c r f t h u rate) ∧ Below w.heap.size w w' := by
  have HT := Lib.hid hT; clear hT
  have HK := Lib.hid ((Blk.new w (rpA c r f t h) 24).alloc (.cells (rpA 0 0 0 0 0) 24))
  have HZ := Lib.hid (Blk.new (w.alloc (.cells (rpA c r f t h) 24)) (rpA 0 0 0 0 0) 24)
  have HB := Lib.hid (((Below.refl w.heap.size w).alloc (Nat.le_refl _) (.cells (rpA c r f t h) 24)).alloc (by simp) (.cells (rpA 0 0 0 0 0) 24))
  simp only [World.size_alloc] at HZ
  cases h1 : Rp.ok c r f t h with
  | false =>
    have E := Lib.hid (show Rp.rol c r f t h u rate = .tuple #[rpV 0 0 0 0 0, .bool false] by unfold Rp.rol; rw [if_neg (by rw [h1]; simp)])
    go_enter Tryd.func5, Tryd.ntmps5
    go_wp2_with fail
    refine (vRepo_any _ _ _ _ _ _).mono ?_
    rintro e w1 ⟨rfl, hb1⟩
    rw [h1]
    have z1 := HZ.out.below hb1 HZ.out.lt
    obtain ⟨f0, f1, f2, f3, f4⟩ := z1.rpFz
    obtain ⟨y0, y1, y2, y3, y4⟩ := z1.rp
    have HB1 := Lib.hid (HB.out.trans (hb1.mono HB.out.size))
    clear hb1
    go_wp2_with fail
    obtain ⟨r0, r1, r2, r3, r4⟩ := (z1.put5 0 0 0 0 0).rp
    refine bodyPost_ret (v := .tuple #[rpV 0 0 0 0 0, .bool false]) (by simp [results, Tryd.results5, go_sem, r0, r1, r2, r3, r4]) rfl ⟨by rw [E.out], ?_⟩
    exact put5_below HB1.out (by omega) _ _ _ _ _
  | true =>
    obtain ⟨i0, i1⟩ := Rp.int_nn h1
    have HR := Lib.hid (fun W hT => rolled_any c r f t h u rate W hT h1)
    have E0 := Lib.hid (show Rp.rol c r f t h u rate = if Rp.ok (c + intV c r 1 f t) rate t u h = true then .tuple #[rpV (c + intV c r 1 f t) rate t u h, .bool true] else .tuple #[rpV 0 0 0 0 0, .bool false] by
      unfold Rp.rol
      by_cases q : Rp.ok (c + intV c r 1 f t) rate t u h = true
      · rw [if_pos ⟨h1, q⟩, if_pos q]
      · rw [if_neg (fun k => q k.2), if_neg q])
    generalize c + intV c r 1 f t = n at *
    cases h2 : Rp.ok n rate t u h with
    | false =>
      have E := Lib.hid (show Rp.rol c r f t h u rate = .tuple #[rpV 0 0 0 0 0, .bool false] by rw [E0.out, if_neg (by rw [h2]; simp)])
      go_enter Tryd.func5, Tryd.ntmps5
      go_wp2_with fail
      refine (vRepo_any _ _ _ _ _ _).mono ?_
      rintro e w1 ⟨rfl, hb1⟩
      rw [h1]
      obtain ⟨x0, x1, x2, x3, x4⟩ := (HK.out.below hb1 HK.out.lt).rp
      have HZ1 := Lib.hid (HZ.out.below hb1 HZ.out.lt)
      have HB1 := Lib.hid (HB.out.trans (hb1.mono HB.out.size))
      clear hb1
      go_wp2_with fail
      refine (HR.out _ (HT.out.below HB1.out HT.out.pos)).mono ?_
      rintro e w2 ⟨rfl, hb2⟩
      have HZ2 := Lib.hid ((HZ1.out.below hb2 HZ1.out.lt).alloc (.cells (rpA n rate t u h) 24))
      have HN2 := Lib.hid (Blk.new w2 (rpA n rate t u h) 24)
      have HB2 := Lib.hid ((HB1.out.trans (hb2.mono HB1.out.size)).alloc (HB1.out.trans (hb2.mono HB1.out.size)).size (.cells (rpA n rate t u h) 24))
      clear hb2
      go_wp2_with fail
      refine (vRepo_any _ _ _ _ _ _).mono ?_
      rintro e w3 ⟨rfl, hb3⟩
      rw [h2]
      have z3 := HZ2.out.below hb3 HZ2.out.lt
      obtain ⟨f0, f1, f2, f3, f4⟩ := z3.rpFz
      obtain ⟨y0, y1, y2, y3, y4⟩ := z3.rp
      have HB3 := Lib.hid (HB2.out.trans (hb3.mono HB2.out.size))
      clear hb3
      go_wp2_with fail
      obtain ⟨r0, r1, r2, r3, r4⟩ := (z3.put5 0 0 0 0 0).rp
      refine bodyPost_ret (v := .tuple #[rpV 0 0 0 0 0, .bool false]) (by simp [results, Tryd.results5, go_sem, r0, r1, r2, r3, r4]) rfl ⟨by rw [E.out], ?_⟩
      exact put5_below HB3.out (by omega) _ _ _ _ _
    | true =>
      have E := Lib.hid (show Rp.rol c r f t h u rate = .tuple #[rpV n rate t u h, .bool true] by rw [E0.out, if_pos h2])
      go_enter Tryd.func5, Tryd.ntmps5
      go_wp2_with fail
      refine (vRepo_any _ _ _ _ _ _).mono ?_
      rintro e w1 ⟨rfl, hb1⟩
      rw [h1]
      obtain ⟨x0, x1, x2, x3, x4⟩ := (HK.out.below hb1 HK.out.lt).rp
      have HZ1 := Lib.hid (HZ.out.below hb1 HZ.out.lt)
      have HB1 := Lib.hid (HB.out.trans (hb1.mono HB.out.size))
      clear hb1
      go_wp2_with fail
      refine (HR.out _ (HT.out.below HB1.out HT.out.pos)).mono ?_
      rintro e w2 ⟨rfl, hb2⟩
      have HZ2 := Lib.hid ((HZ1.out.below hb2 HZ1.out.lt).alloc (.cells (rpA n rate t u h) 24))
      have HN2 := Lib.hid (Blk.new w2 (rpA n rate t u h) 24)
      have HB2 := Lib.hid ((HB1.out.trans (hb2.mono HB1.out.size)).alloc (HB1.out.trans (hb2.mono HB1.out.size)).size (.cells (rpA n rate t u h) 24))
      clear hb2
      go_wp2_with fail
      refine (vRepo_any _ _ _ _ _ _).mono ?_
      rintro e w3 ⟨rfl, hb3⟩
      rw [h2]
      have z3 := HZ2.out.below hb3 HZ2.out.lt
      obtain ⟨f0, f1, f2, f3, f4⟩ := z3.rpFz
      obtain ⟨y0, y1, y2, y3, y4⟩ := z3.rp
      obtain ⟨n0, n1, n2, n3, n4⟩ := (HN2.out.below hb3 HN2.out.lt).rp
      have HB3 := Lib.hid (HB2.out.trans (hb3.mono HB2.out.size))
      clear hb3
      go_wp2_with fail
      obtain ⟨r0, r1, r2, r3, r4⟩ := (z3.put5 n rate t u h).rp
      refine bodyPost_ret (v := .tuple #[rpV n rate t u h, .bool true]) (by simp [results, Tryd.results5, go_sem, r0, r1, r2, r3, r4]) rfl ⟨by rw [E.out], ?_⟩
      exact put5_below HB3.out (by omega) _ _ _ _ _
set_option maxHeartbeats 2000000 in
theorem sroll_any (c r f t h u rate : Int) (w : World) :
    Calls Tryd.prog 6 #[rpV c r f t h, .int .i64 u, .int .i64 rate] w fun e w' => e = .returned (Rp.rol c r f t h u rate) ∧ Below w.heap.size w w' := by
  have HK := Lib.hid ((Blk.new w (rpA c r f t h) 24).alloc (.cells (rpA 0 0 0 0 0) 24))
  have HZ := Lib.hid (Blk.new (w.alloc (.cells (rpA c r f t h) 24)) (rpA 0 0 0 0 0) 24)
  have HB := Lib.hid (((Below.refl w.heap.size w).alloc (Nat.le_refl _) (.cells (rpA c r f t h) 24)).alloc (by simp) (.cells (rpA 0 0 0 0 0) 24))
  simp only [World.size_alloc] at HZ
  cases h1 : Rp.ok c r f t h with
  | false =>
    have E := Lib.hid (show Rp.rol c r f t h u rate = .tuple #[rpV 0 0 0 0 0, .bool false] by unfold Rp.rol; rw [if_neg (by rw [h1]; simp)])
    go_enter Tryd.func6, Tryd.ntmps6
    go_wp2_with fail
    refine (svRepo_any _ _ _ _ _ _).mono ?_
    rintro e w1 ⟨rfl, hb1⟩
    rw [h1]
    have z1 := HZ.out.below hb1 HZ.out.lt
    obtain ⟨f0, f1, f2, f3, f4⟩ := z1.rpFz
    obtain ⟨y0, y1, y2, y3, y4⟩ := z1.rp
    have HB1 := Lib.hid (HB.out.trans (hb1.mono HB.out.size))
    clear hb1
    go_wp2_with fail
    obtain ⟨r0, r1, r2, r3, r4⟩ := (z1.put5 0 0 0 0 0).rp
    refine bodyPost_ret (v := .tuple #[rpV 0 0 0 0 0, .bool false]) (by simp [results, Tryd.results6, go_sem, r0, r1, r2, r3, r4]) rfl ⟨by rw [E.out], ?_⟩
    exact put5_below HB1.out (by omega) _ _ _ _ _
  | true =>
    obtain ⟨i0, i1⟩ := Rp.int_nn h1
    obtain ⟨⟨c0, c1⟩, -, -, -⟩ := Rp.ok_iff.1 h1
    have HC := Lib.hid (fun W => srpInt_any c r f t h W)
    rw [Rp.int_yes h1] at HC
    have E0 := Lib.hid (show Rp.rol c r f t h u rate = if Rp.ok (c + intV c r 1 f t) rate t u h = true then .tuple #[rpV (c + intV c r 1 f t) rate t u h, .bool true] else .tuple #[rpV 0 0 0 0 0, .bool false] by
      unfold Rp.rol
      by_cases q : Rp.ok (c + intV c r 1 f t) rate t u h = true
      · rw [if_pos ⟨h1, q⟩, if_pos q]
      · rw [if_neg (fun k => q k.2), if_neg q])
    have W1 : IntKind.i64.wrap (c + intV c r 1 f t) = c + intV c r 1 f t := IntWalk.i64_in _ (by omega)
    generalize intV c r 1 f t = m at *
    have hZ1 := HZ.out.lt
    cases h2 : Rp.ok (c + m) rate t u h with
    | false =>
      have E := Lib.hid (show Rp.rol c r f t h u rate = .tuple #[rpV 0 0 0 0 0, .bool false] by rw [E0.out, if_neg (by rw [h2]; simp)])
      go_enter Tryd.func6, Tryd.ntmps6
      go_wp2_with fail
      refine (svRepo_any _ _ _ _ _ _).mono ?_
      rintro e w1 ⟨rfl, hb1⟩
      rw [h1]
      have HK1 := Lib.hid (HK.out.below hb1 HK.out.lt)
      have HZ1 := Lib.hid (HZ.out.below hb1 HZ.out.lt)
      have HB1 := Lib.hid (HB.out.trans (hb1.mono HB.out.size))
      have hsz1 : w.heap.size + 1 < w1.heap.size := HZ1.out.lt
      clear hb1
      go_wp2_with fail
      go_cut [8] (fun s wx => ∃ B : Nat, s = .pointer (some ⟨B, 0, none⟩) ∧ Blk wx B 24 (rpA (c + m) rate t u h) ∧ Blk wx (w.heap.size + 1) 24 (rpA 0 0 0 0 0) ∧ Below w.heap.size w wx)
      case first =>
        go_region_held3 (RpS w.heap.size c r f t h) (first | with_reducible exact Blk.rp HK1.out | with_reducible exact Blk.rp (blkDrewR HK1.out) | with_reducible exact Blk.rp ((blkDrewR HK1.out).alloc _) | with_reducible exact Blk.rp (blkDrewR (HK1.out.alloc _)) | with_reducible exact Blk.rp k3 | with_reducible exact Blk.rp (k3.alloc _) | with_reducible exact Blk.rp (k3.put5o (by omega) _ _ _ _ _)) (first | (go_at_call 14; refine (HC.out _).mono ?_; rintro e w3 ⟨rfl, hb3⟩; have k3 := Blk.below (by first | exact blkDrewR HK1.out | exact (blkDrewR HK1.out).alloc _ | exact blkDrewR (HK1.out.alloc _)) hb3 (by first | exact HK1.out.lt | exact (HK1.out.alloc _).lt); have z3 := Blk.below (by first | exact blkDrewR HZ1.out | exact (blkDrewR HZ1.out).alloc _ | exact blkDrewR (HZ1.out.alloc _)) hb3 (by first | exact HZ1.out.lt | exact (HZ1.out.alloc _).lt); have hb4 := Below.trans (by first | exact HB1.out.drew | exact (HB1.out.alloc HB1.out.size _).drew | exact HB1.out.drew.alloc HB1.out.size _) (hb3.mono (by first | exact HB1.out.size | (simp; have := HB1.out.size; omega))); (first | (have n3 := Blk.below (Blk.new _ (rpA 0 0 0 0 0) 24) hb3 (by simp); obtain ⟨f0, f1, f2, f3, f4⟩ := n3.rpFz; obtain ⟨y0, y1, y2, y3, y4⟩ := n3.rp) | (have n3 := Blk.below (blkDrewR (Blk.new _ (rpA 0 0 0 0 0) 24)) hb3 (by simp); obtain ⟨f0, f1, f2, f3, f4⟩ := n3.rpFz; obtain ⟨y0, y1, y2, y3, y4⟩ := n3.rp) | skip)))
        all_goals
          go_wp2_with fail
          go_meet
          refine ⟨_, rfl, ?_, ?_, ?_⟩
          · first | with_reducible exact n3.put5 _ _ _ _ _ | with_reducible exact Blk.new _ _ _ | trace_state
          · first | with_reducible exact z3.put5o (by have := n3.lt; omega) _ _ _ _ _ | with_reducible exact z3.alloc _ | trace_state
          · first | with_reducible exact put5_below hb4 (by omega) _ _ _ _ _ | with_reducible exact hb4.alloc hb4.size _ | trace_state
      case rest =>
        obtain ⟨B, rfl, hBn, hz2, hb2⟩ := hcut
        have HZ2 := Lib.hid hz2
        have HB2 := Lib.hid hb2
        have HN2 := Lib.hid hBn
        obtain ⟨x0, x1, x2, x3, x4⟩ := hBn.rp
        clear hz2 hb2 hBn
        go_wp2_with fail
        refine (svRepo_any _ _ _ _ _ _).mono ?_
        rintro e w3 ⟨rfl, hb3⟩
        rw [h2]
        have z3 := HZ2.out.below hb3 HZ2.out.lt
        obtain ⟨f0, f1, f2, f3, f4⟩ := z3.rpFz
        obtain ⟨y0, y1, y2, y3, y4⟩ := z3.rp
        obtain ⟨n0, n1, n2, n3, n4⟩ := (HN2.out.below hb3 HN2.out.lt).rp
        have HB3 := Lib.hid (HB2.out.trans (hb3.mono HB2.out.size))
        clear hb3
        go_wp2_with fail
        obtain ⟨r0, r1, r2, r3, r4⟩ := (z3.put5 0 0 0 0 0).rp
        refine bodyPost_ret (v := .tuple #[rpV 0 0 0 0 0, .bool false]) (by simp [results, Tryd.results6, go_sem, r0, r1, r2, r3, r4]) rfl ⟨by rw [E.out], ?_⟩
        exact put5_below HB3.out (by omega) _ _ _ _ _
    | true =>
      have E := Lib.hid (show Rp.rol c r f t h u rate = .tuple #[rpV (c + m) rate t u h, .bool true] by rw [E0.out, if_pos h2])
      go_enter Tryd.func6, Tryd.ntmps6
      go_wp2_with fail
      refine (svRepo_any _ _ _ _ _ _).mono ?_
      rintro e w1 ⟨rfl, hb1⟩
      rw [h1]
      have HK1 := Lib.hid (HK.out.below hb1 HK.out.lt)
      have HZ1 := Lib.hid (HZ.out.below hb1 HZ.out.lt)
      have HB1 := Lib.hid (HB.out.trans (hb1.mono HB.out.size))
      have hsz1 : w.heap.size + 1 < w1.heap.size := HZ1.out.lt
      clear hb1
      go_wp2_with fail
      go_cut [8] (fun s wx => ∃ B : Nat, s = .pointer (some ⟨B, 0, none⟩) ∧ Blk wx B 24 (rpA (c + m) rate t u h) ∧ Blk wx (w.heap.size + 1) 24 (rpA 0 0 0 0 0) ∧ Below w.heap.size w wx)
      case first =>
        go_region_held3 (RpS w.heap.size c r f t h) (first | with_reducible exact Blk.rp HK1.out | with_reducible exact Blk.rp (blkDrewR HK1.out) | with_reducible exact Blk.rp ((blkDrewR HK1.out).alloc _) | with_reducible exact Blk.rp (blkDrewR (HK1.out.alloc _)) | with_reducible exact Blk.rp k3 | with_reducible exact Blk.rp (k3.alloc _) | with_reducible exact Blk.rp (k3.put5o (by omega) _ _ _ _ _)) (first | (go_at_call 14; refine (HC.out _).mono ?_; rintro e w3 ⟨rfl, hb3⟩; have k3 := Blk.below (by first | exact blkDrewR HK1.out | exact (blkDrewR HK1.out).alloc _ | exact blkDrewR (HK1.out.alloc _)) hb3 (by first | exact HK1.out.lt | exact (HK1.out.alloc _).lt); have z3 := Blk.below (by first | exact blkDrewR HZ1.out | exact (blkDrewR HZ1.out).alloc _ | exact blkDrewR (HZ1.out.alloc _)) hb3 (by first | exact HZ1.out.lt | exact (HZ1.out.alloc _).lt); have hb4 := Below.trans (by first | exact HB1.out.drew | exact (HB1.out.alloc HB1.out.size _).drew | exact HB1.out.drew.alloc HB1.out.size _) (hb3.mono (by first | exact HB1.out.size | (simp; have := HB1.out.size; omega))); (first | (have n3 := Blk.below (Blk.new _ (rpA 0 0 0 0 0) 24) hb3 (by simp); obtain ⟨f0, f1, f2, f3, f4⟩ := n3.rpFz; obtain ⟨y0, y1, y2, y3, y4⟩ := n3.rp) | (have n3 := Blk.below (blkDrewR (Blk.new _ (rpA 0 0 0 0 0) 24)) hb3 (by simp); obtain ⟨f0, f1, f2, f3, f4⟩ := n3.rpFz; obtain ⟨y0, y1, y2, y3, y4⟩ := n3.rp) | skip)))
        all_goals
          go_wp2_with fail
          go_meet
          refine ⟨_, rfl, ?_, ?_, ?_⟩
          · first | with_reducible exact n3.put5 _ _ _ _ _ | with_reducible exact Blk.new _ _ _ | trace_state
          · first | with_reducible exact z3.put5o (by have := n3.lt; omega) _ _ _ _ _ | with_reducible exact z3.alloc _ | trace_state
          · first | with_reducible exact put5_below hb4 (by omega) _ _ _ _ _ | with_reducible exact hb4.alloc hb4.size _ | trace_state
      case rest =>
        obtain ⟨B, rfl, hBn, hz2, hb2⟩ := hcut
        have HZ2 := Lib.hid hz2
        have HB2 := Lib.hid hb2
        have HN2 := Lib.hid hBn
        obtain ⟨x0, x1, x2, x3, x4⟩ := hBn.rp
        clear hz2 hb2 hBn
        go_wp2_with fail
        refine (svRepo_any _ _ _ _ _ _).mono ?_
        rintro e w3 ⟨rfl, hb3⟩
        rw [h2]
        have z3 := HZ2.out.below hb3 HZ2.out.lt
        obtain ⟨f0, f1, f2, f3, f4⟩ := z3.rpFz
        obtain ⟨y0, y1, y2, y3, y4⟩ := z3.rp
        obtain ⟨n0, n1, n2, n3, n4⟩ := (HN2.out.below hb3 HN2.out.lt).rp
        have HB3 := Lib.hid (HB2.out.trans (hb3.mono HB2.out.size))
        clear hb3
        go_wp2_with fail
        obtain ⟨r0, r1, r2, r3, r4⟩ := (z3.put5 (c + m) rate t u h).rp
        refine bodyPost_ret (v := .tuple #[rpV (c + m) rate t u h, .bool true]) (by simp [results, Tryd.results6, go_sem, r0, r1, r2, r3, r4]) rfl ⟨by rw [E.out], ?_⟩
        exact put5_below HB3.out (by omega) _ _ _ _ _
end Go.Proofs.YtgncgbaoijcinaaDoor
