/- The laws of lives. -/
import Derived.Test.YtkdooncfchmkfaaDoorLg
import Derived.Test.YtkdooncfchmkfaaDoorNxt
import Derived.Test.YtkdooncfchmkfaaDoorDrawDay
import Derived.Deep.RegionHeld3
namespace Go.Proofs.YtkdooncfchmkfaaDoor
open Go.RowKit
set_option maxRecDepth 8000 in
set_option maxHeartbeats 2000000 in
theorem exLifeOf (s e m r d : Int) (w : World) (hT : Tab w) :
    Calls Tryd.prog 9 #[boV s e m r, .int .i64 d] w fun x w' => x = .returned (.bool true) ∧ Below w.heap.size w w' := by
  have SP := Lib.hid (fun W => sLifeOf_any s e m r d W)
  have IM := Lib.hid (fun W hT => lifeOf_any s e m r d W hT)
  have HT := Lib.hid (fun W (hW : Below w.heap.size w W) => hT.below hW hT.pos)
  generalize Lf.val s e m r d = V at *
  clear hT
  have e1 : (V != V) = false := by simp
  have KL := Lib.hid (Blk.new w #[.int .i64 s, .int .i64 e, .int .i64 m, .int .i64 r] 23)
  have HB := Lib.hid ((Below.refl w.heap.size w).alloc (Nat.le_refl _) (.cells #[.int .i64 s, .int .i64 e, .int .i64 m, .int .i64 r] 23))
  go_enter Tryd.func9, Tryd.ntmps9
  go_wp2_with fail
  refine (toBond_any _ _ _ _ _).mono ?_
  rintro x w1 ⟨rfl, hb1⟩
  have HB1 := Lib.hid (HB.out.trans (hb1.mono HB.out.size))
  have KL1 := Lib.hid (KL.out.below hb1 KL.out.lt)
  clear hb1
  go_wp2_with fail
  refine (SP.out _).mono ?_
  rintro x w2 ⟨rfl, hb2⟩
  have HB2 := Lib.hid (HB1.out.trans (hb2.mono HB1.out.size))
  have KL2 := Lib.hid (KL1.out.below hb2 KL1.out.lt)
  clear hb2
  obtain ⟨c0, c1, c2, c3⟩ := KL2.out.four
  go_wp2_with fail
  refine (toBond_any _ _ _ _ _).mono ?_
  rintro x w4 ⟨rfl, hb4⟩
  have HB4 := Lib.hid (HB2.out.trans (hb4.mono HB2.out.size))
  clear hb4 c0 c1 c2 c3
  go_wp2_with fail
  refine (IM.out _ (HT.out _ HB4.out)).mono ?_
  rintro x w5 ⟨rfl, hb5⟩
  have HB5 := Lib.hid (HB4.out.trans (hb5.mono HB4.out.size))
  clear hb5
  go_wp2_with fail
  go_ret
  exact ⟨rfl, HB5.out⟩
set_option maxRecDepth 8000 in
set_option maxHeartbeats 2000000 in
theorem drawLife_any (w : World) (a : Option Addr) (len cap : Nat) (zs : List Int) (h : IsRow .u8 w a len cap zs) :
    Calls Tryd.prog 18 #[.slice a len cap] w (DDay w) := by
  have H := Lib.hid h; clear h
  have HB0 := Lib.hid ((Below.refl w.heap.size w).alloc (Nat.le_refl _) (.cells #[.int .i64 0, .int .i64 0, .int .i64 0, .int .i64 0] 27))
  have KR0 := Lib.hid (Blk.new w #[.int .i64 0, .int .i64 0, .int .i64 0, .int .i64 0] 27)
  have H1 := Lib.hid (isRow_below' H.out HB0.out)
  go_enter Tryd.func18, Tryd.ntmps18
  go_wp2_with fail
  refine (newReader_any _ _ _ _ _ H1.out).mono ?_
  rintro x w1 ⟨g, rfl, hg, hr, hb⟩
  have KR1 := Lib.hid (KR0.out.below hb KR0.out.lt)
  have HB1 := Lib.hid (HB0.out.trans (hb.mono HB0.out.size))
  have hg0 : w.heap.size < g := Nat.lt_of_lt_of_le KR0.out.lt hg
  clear hb
  go_wp2_with fail
  refine (bondDay_any _ _ _ hr (by omega)).mono ?_
  rintro x w2 ⟨s, e, m, r, d, rfl, hs, he, hm, hr', hd, hrd, hg2⟩
  have KR2 := Lib.hid (KR1.out.grown hg2 (by omega))
  have HB2 := Lib.hid (HB1.out.grown hg2 HB1.out.size (fun j hj => by injection hj with hj; omega))
  obtain ⟨x0, x1, x2, x3⟩ := KR2.out.four
  obtain ⟨z0, z1, z2, z3⟩ := fourFz KR2.out
  clear hg2
  go_wp2_with fail
  have k2 := put4_blk KR2.out s e m r
  obtain ⟨r0', r1', r2', r3'⟩ := k2.four
  unfold put4 at r0' r1' r2' r3'
  refine bodyPost_ret (v := .tuple #[boV s e m r, .int .i64 d]) (by simp [results, Tryd.results18, go_sem, r0', r1', r2', r3']) rfl ⟨s, e, m, r, d, rfl, hs, he, hm, hr', hd, ?_⟩
  repeat (refine Below.setCell ?_ (by simp) _)
  exact HB2.out
set_option maxRecDepth 8000 in
set_option maxHeartbeats 4000000 in
theorem lawLifeOf (a : Option Addr) (len cap : Nat) (zs : List Int) (w : World) (h : IsRow .u8 w a len cap zs) (hT : Tab w) :
    Calls Tryd.prog 7 #[.slice a len cap] w fun x w' => x = .returned (.bool true) ∧ Below w.heap.size w w' := by
  have H := Lib.hid h; clear h
  have HT := Lib.hid (fun W (hW : Below w.heap.size w W) => hT.below hW hT.pos)
  clear hT
  by_cases hl : 1048576 < (len : Int)
  · go_enter Tryd.func7, Tryd.ntmps7
    go_wp2_with fail
    go_ret
    exact ⟨rfl, Below.refl _ _⟩
  · have hl' := decide_eq_false hl
    clear hl
    go_enter Tryd.func7, Tryd.ntmps7
    go_wp2_with fail
    refine (drawLife_any _ _ _ _ _ H.out).mono ?_
    rintro x w0 ⟨s, e, m, r, d, rfl, hs, he, hm, hr, hd, hB0⟩
    have HB := Lib.hid (hB0.alloc hB0.size (.cells #[.int .i64 s, .int .i64 e, .int .i64 m, .int .i64 r] 27))
    have KB := Lib.hid (Blk.new w0 #[.int .i64 s, .int .i64 e, .int .i64 m, .int .i64 r] 27)
    have SP := Lib.hid (fun W => sLifeOf_any s e m r d W)
    have IM := Lib.hid (fun W hT => lifeOf_any s e m r d W hT)
    have HBd := Lib.hid (fun h => @Lf.val_bd s e m r d h)
    have HNo := Lib.hid (fun h => @Lf.no s e m r d h)
    have NX := Lib.hid (fun W hT => nextFlow_any s e m r d W hT)
    have HNx : Hid (runB s e m r d = true → nxtB (aftL (floL s e m r) d) = true ∧ nxtP (aftL (floL s e m r) d) = (aftL (floL s e m r) d).getD 0 f0) := Lib.hid fun h => ⟨decide_eq_true (Lf.ok h).n1, rfl⟩
    have HOk := Lib.hid (fun h => (Lf.ok (s := s) (e := e) (m := m) (r := r) (d := d) h))
    unfold nxtV at NX
    generalize nxtB (aftL (floL s e m r) d) = nb at *
    generalize nxtP (aftL (floL s e m r) d) = np at *
    generalize Lf.val s e m r d = V at *
    have e1 : (V != V) = false := by simp
    have e2 : (V == V) = true := by simp
    clear hB0
    go_upto_region 4 with fail
    generalize w0.alloc (.cells #[.int .i64 s, .int .i64 e, .int .i64 m, .int .i64 r] 27) = w1 at HB KB ⊢
    obtain ⟨c0, c1, c2, c3⟩ := KB.out.four
    go_wp2_with fail
    refine (IM.out _ (HT.out _ HB.out)).mono ?_
    rintro x w2 ⟨rfl, hb2⟩
    have HB2 := Lib.hid (HB.out.trans (hb2.mono HB.out.size))
    have KB2 := Lib.hid (KB.out.below hb2 KB.out.lt)
    clear hb2 c0 c1 c2 c3
    obtain ⟨c0, c1, c2, c3⟩ := KB2.out.four
    go_wp2_with fail
    refine (SP.out _).mono ?_
    rintro x w3 ⟨rfl, hb3⟩
    have HB3 := Lib.hid (HB2.out.trans (hb3.mono HB2.out.size))
    have KB3 := Lib.hid (KB2.out.below hb3 KB2.out.lt)
    clear hb3 c0 c1 c2 c3
    obtain ⟨c0, c1, c2, c3⟩ := KB3.out.four
    cases hR : runB s e m r d with
    | false =>
      have hv := HNo.out hR
      subst hv
      clear hR e1 e2
      go_wp2_with fail
      refine (SP.out _).mono ?_
      rintro x w4 ⟨rfl, hb4⟩
      have HB4 := Lib.hid (HB3.out.trans (hb4.mono HB3.out.size))
      clear hb4
      go_wp2_with fail
      go_ret
      exact ⟨rfl, HB4.out⟩
    | true =>
      obtain ⟨v0, v1, v2⟩ := HBd.out hR
      have hv2 : decide (V < 0) = false := decide_eq_false (by omega)
      obtain ⟨rfl, hnp⟩ := HNx.out hR
      have hok := HOk.out hR
      have hoe := hok.each 0 hok.n1
      have hdd := hok.d0
      rw [← hnp] at v0 hoe
      clear hnp hok HNx HOk
      obtain ⟨D, A⟩ := np
      simp only at v0 hoe
      obtain ⟨g0, g1, g2, g3, g4⟩ := hoe
      clear hR HBd HNo
      go_wp2_with fail
      refine (NX.out _ (HT.out _ HB3.out)).mono ?_
      rintro x w4 ⟨rfl, hb4⟩
      have HB4 := Lib.hid ((HB3.out.trans (hb4.mono HB3.out.size)).alloc (HB3.out.trans (hb4.mono HB3.out.size)).size (.cells #[.int .i64 D, .int .i64 A] 39))
      have KB4 := Lib.hid ((KB3.out.below hb4 KB3.out.lt).alloc (.cells #[.int .i64 D, .int .i64 A] 39))
      have KF4 := Lib.hid (Blk.new w4 #[.int .i64 D, .int .i64 A] 39)
      clear hb4 c0 c1 c2 c3
      go_upto_region 8 with fail
      generalize w4.alloc (.cells #[.int .i64 D, .int .i64 A] 39) = w5 at HB4 KB4 KF4 ⊢
      obtain ⟨c0, c1, c2, c3⟩ := KB4.out.four
      obtain ⟨⟨q0, q1⟩, -⟩ := KF4.out.two
      have h1 : decide (D - d ≤ V) = true := decide_eq_true v0
      have h2 : decide (V ≤ e - d) = true := decide_eq_true v1
      have W1 : IntKind.i64.wrap (D - d) = D - d := IntWalk.i64_in _ (by omega)
      have W2 : IntKind.i64.wrap (e - d) = e - d := IntWalk.i64_in _ (by omega)
      go_wp2_with fail
      go_ret
      exact ⟨rfl, HB4.out⟩
set_option maxRecDepth 8000 in
set_option maxHeartbeats 4000000 in
theorem lawLifeZero (a : Option Addr) (len cap : Nat) (zs : List Int) (w : World) (h : IsRow .u8 w a len cap zs) (hT : Tab w) :
    Calls Tryd.prog 8 #[.slice a len cap] w fun x w' => x = .returned (.bool true) ∧ Below w.heap.size w w' := by
  have H := Lib.hid h; clear h
  have HT := Lib.hid (fun W (hW : Below w.heap.size w W) => hT.below hW hT.pos)
  clear hT
  by_cases hl : 1048576 < (len : Int)
  · go_enter Tryd.func8, Tryd.ntmps8
    go_wp2_with fail
    go_ret
    exact ⟨rfl, Below.refl _ _⟩
  · have hl' := decide_eq_false hl
    clear hl
    go_enter Tryd.func8, Tryd.ntmps8
    go_wp2_with fail
    refine (drawLife_any _ _ _ _ _ H.out).mono ?_
    rintro x w0 ⟨s, e, m, r, d, rfl, hs, he, hm, hr, hd, hB0⟩
    have HB := Lib.hid (hB0.alloc hB0.size (.cells #[.int .i64 s, .int .i64 e, .int .i64 m, .int .i64 r] 27))
    have KB := Lib.hid (Blk.new w0 #[.int .i64 s, .int .i64 e, .int .i64 m, .int .i64 r] 27)
    have SP := Lib.hid (fun W => sLifeOf_any s e m r d W)
    have IM := Lib.hid (fun W hT => lifeOf_any s e m r d W hT)
    have HBd := Lib.hid (fun h => @Lf.val_bd s e m r d h)
    have HNo := Lib.hid (fun h => @Lf.no s e m r d h)
    have IZ := Lib.hid (fun W hT => lifeOf_any s e m 0 d W hT)
    have HZ := Lib.hid (fun h => @Lf.val_zero s e m r d h)
    generalize Lf.val s e m 0 d = V0 at *
    generalize Lf.val s e m r d = V at *
    have e1 : (V != V) = false := by simp
    have e2 : (V == V) = true := by simp
    clear hB0
    go_upto_region 4 with fail
    generalize w0.alloc (.cells #[.int .i64 s, .int .i64 e, .int .i64 m, .int .i64 r] 27) = w1 at HB KB ⊢
    obtain ⟨c0, c1, c2, c3⟩ := KB.out.four
    go_wp2_with fail
    refine (IM.out _ (HT.out _ HB.out)).mono ?_
    rintro x w2 ⟨rfl, hb2⟩
    have HB2 := Lib.hid (HB.out.trans (hb2.mono HB.out.size))
    have KB2 := Lib.hid (KB.out.below hb2 KB.out.lt)
    clear hb2 c0 c1 c2 c3
    obtain ⟨c0, c1, c2, c3⟩ := KB2.out.four
    go_wp2_with fail
    refine (SP.out _).mono ?_
    rintro x w3 ⟨rfl, hb3⟩
    have HB3 := Lib.hid (HB2.out.trans (hb3.mono HB2.out.size))
    have KB3 := Lib.hid (KB2.out.below hb3 KB2.out.lt)
    clear hb3 c0 c1 c2 c3
    obtain ⟨c0, c1, c2, c3⟩ := KB3.out.four
    cases hR : runB s e m r d with
    | false =>
      have hv := HNo.out hR
      subst hv
      clear hR e1 e2
      go_wp2_with fail
      refine (SP.out _).mono ?_
      rintro x w4 ⟨rfl, hb4⟩
      have HB4 := Lib.hid (HB3.out.trans (hb4.mono HB3.out.size))
      clear hb4
      go_wp2_with fail
      go_ret
      exact ⟨rfl, HB4.out⟩
    | true =>
      obtain ⟨v0, v1, v2⟩ := HBd.out hR
      have hv2 : decide (V < 0) = false := decide_eq_false (by omega)
      have hz := HZ.out hR
      rw [hz] at IZ
      have W2 : IntKind.i64.wrap (e - d) = e - d := IntWalk.i64_in _ (by omega)
      have h1 : (e - d == e - d) = true := by simp
      have h2 : decide (V ≤ e - d) = true := decide_eq_true v1
      clear hz HZ hR HBd HNo v0 v1 v2 e1 e2
      have HBd3 := Lib.hid HB3.out.drew
      have KC := Lib.hid (show w3.cell? ⟨w0.heap.size, 0, none⟩ = some (.int .i64 s) ∧ w3.cell? ⟨w0.heap.size, 1, none⟩ = some (.int .i64 e) ∧ w3.cell? ⟨w0.heap.size, 2, none⟩ = some (.int .i64 m) from ⟨c0, c1, c2⟩)
      have KD := Lib.hid (show w3.drew.cell? ⟨w0.heap.size, 0, none⟩ = some (.int .i64 s) ∧ w3.drew.cell? ⟨w0.heap.size, 1, none⟩ = some (.int .i64 e) ∧ w3.drew.cell? ⟨w0.heap.size, 2, none⟩ = some (.int .i64 m) from KC.out)
      have HKb := Lib.hid (fun W (hW : Below w3.heap.size w3.drew W) => (show W.cell? ⟨w0.heap.size, 0, none⟩ = some (.int .i64 s) ∧ W.cell? ⟨w0.heap.size, 1, none⟩ = some (.int .i64 e) ∧ W.cell? ⟨w0.heap.size, 2, none⟩ = some (.int .i64 m) from ⟨(hW.cell (p := ⟨w0.heap.size, 0, none⟩) KB3.out.lt).trans KD.out.1, (hW.cell (p := ⟨w0.heap.size, 1, none⟩) KB3.out.lt).trans KD.out.2.1, (hW.cell (p := ⟨w0.heap.size, 2, none⟩) KB3.out.lt).trans KD.out.2.2⟩))
      clear c0 c1 c2 c3
      go_wp2_with fail
      go_region_held3 (fun W => W.cell? ⟨w0.heap.size, 0, none⟩ = some (.int .i64 s) ∧ W.cell? ⟨w0.heap.size, 1, none⟩ = some (.int .i64 e) ∧ W.cell? ⟨w0.heap.size, 2, none⟩ = some (.int .i64 m)) (first | with_reducible exact KC.out | with_reducible exact KD.out | with_reducible exact K5.out) ((go_at_call 19; (with_reducible refine (IZ.out _ (by exact HT.out _ HBd3.out)).mono ?_); rintro x w5 ⟨rfl, hb5⟩; have K5 := Lib.hid (HKb.out _ hb5); have HB5 := Lib.hid (HBd3.out.trans (hb5.mono HBd3.out.size))))
      go_wp2_with fail
      go_ret
      exact ⟨rfl, HB5.out⟩
end Go.Proofs.YtkdooncfchmkfaaDoor
