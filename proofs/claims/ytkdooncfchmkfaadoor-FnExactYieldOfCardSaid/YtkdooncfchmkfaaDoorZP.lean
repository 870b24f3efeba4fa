import Derived.Test.YtkdooncfchmkfaaDoorPcF
import Derived.Test.YtkdooncfchmkfaaDoorZD
import Derived.Test.YtkdooncfchmkfaaDoorPay
import Derived.Deep.RegionHeld3
import Derived.Deep.Cut
import Derived.Test.YtkdooncfchmkfaaDoorAccB
/- The pricing of a bond: the program. -/
namespace Go.Proofs.YtkdooncfchmkfaaDoor
open Go.RowKit
/-- A pricing: a function value with what it captured. -/
abbrev prV (D R F : Nat) : Value := .func (.func 47) #[] #[.pointer (some ⟨D, 0, none⟩), .pointer (some ⟨R, 0, none⟩), .pointer (some ⟨F, 0, none⟩)]
structure Pr.At (w : World) (D R F : Nat) (d f t : Int) (z : Bool) (am : List Int) : Prop where
  day : w.cell? ⟨D, 0, none⟩ = some (.int .i64 d)
  r0 : w.cell? ⟨R, 0, none⟩ = some (.int .i64 f)
  r1 : w.cell? ⟨R, 1, none⟩ = some (.int .i64 t)
  r2 : w.cell? ⟨R, 2, none⟩ = some (.bool z)
  flows : ∃ b c, w.cell? ⟨F, 0, none⟩ = some (.slice (some ⟨b, 0, none⟩) am.length c) ∧ ∀ i, i < am.length → w.cell? ⟨b, i * 2 + 1, none⟩ = some (.int .i64 (am.getD i 0))
theorem Pr.At.below {w w' : World} {B D R F : Nat} {d f t : Int} {z : Bool} {am : List Int} (h : Pr.At w D R F d f t z am) (hb : Below B w w') (hB : w.heap.size ≤ B) : Pr.At w' D R F d f t z am := by
  have k : ∀ {p : Addr} {v : Value}, w.cell? p = some v → w'.cell? p = some v := fun {p v} q => (hb.cell (p := p) (Nat.lt_of_lt_of_le (World.block_lt_of_cell? w _ q) hB)).trans q
  obtain ⟨b, c, h1, h2⟩ := h.flows
  exact ⟨k h.day, k h.r0, k h.r1, k h.r2, b, c, k h1, fun i hi => k (h2 i hi)⟩
theorem Pr.At.drewN {w : World} {D R F : Nat} {d f t : Int} {z : Bool} {am : List Int} (h : Pr.At w D R F d f t z am) (n : Nat) : Pr.At (w.drewN n) D R F d f t z am := ⟨h.day, h.r0, h.r1, h.r2, h.flows⟩
theorem Pr.At.drew {w : World} {D R F : Nat} {d f t : Int} {z : Bool} {am : List Int} (h : Pr.At w D R F d f t z am) : Pr.At w.drew D R F d f t z am := ⟨h.day, h.r0, h.r1, h.r2, h.flows⟩
set_option maxRecDepth 8000 in
set_option maxHeartbeats 4000000 in
theorem pricing_any (ea : Addr) (D R F : Nat) (d f t y : Int) (z : Bool) (am : List Int) (w : World) (hS : Sen ea w) (hP : Pr.At w D R F d f t z am) (hok : Pc.ok y (d - f) (t - f) = true) (ha : Pc.Am am) (f0 : 0 ≤ f) (f1 : f ≤ d) (t1 : t ≤ 36524) :
    Calls Tryd.prog 47 #[.int .i64 y, .pointer (some ⟨D, 0, none⟩), .pointer (some ⟨R, 0, none⟩), .pointer (some ⟨F, 0, none⟩)] w fun e w' => e = .returned (rV (Pc.val y (d - f) (t - f) am).1 (Pc.val y (d - f) (t - f) am).2) ∧ Below w.heap.size w w' := by
  obtain ⟨⟨y0, y1⟩, ⟨d0, d1⟩, p0, p1⟩ := Pc.ok_iff.1 hok
  obtain ⟨V, hV⟩ : ∃ V, V = Pc.val y (d - f) (t - f) am := ⟨_, rfl⟩
  rw [← hV]
  have HV := Lib.hid (show V = (Rg.fl (Pc.lo y (d - f) (t - f) am am.length), Rg.cl (Pc.hi y (d - f) (t - f) am am.length)) from hV)
  clear hV
  have hn := ha.n1
  have hn2 := ha.n40
  obtain ⟨n, hn'⟩ : ∃ n, am.length = n + 1 := ⟨am.length - 1, by omega⟩
  have HN := Lib.hid hn'
  have HP := Lib.hid hP
  have HS := Lib.hid hS
  have HG := Lib.hid (fun W hW => growthOf_any ea y (d - f) (t - f) n W hW (Pc.okN hok (by omega)))
  have HDy := Lib.hid (fun W => days_any f t z W (by omega) (by omega) (by omega) (by omega))
  have hB0 := (Below.refl w.heap.size w).alloc (Nat.le_refl _) (.cells #[.int .i64 0, .int .i64 0] 25)
  have HB0 := Lib.hid hB0
  have HA := Lib.hid (hP.below hB0 (Nat.le_refl _))
  have K0 := Lib.hid (Blk.new w #[.int .i64 0, .int .i64 0] 25)
  have HSa := Lib.hid (hS.alloc (.cells #[.int .i64 0, .int .i64 0] 25))
  obtain ⟨c0, c1, c2, c3, b, c, c4, c5⟩ := HA.out
  have HC5 := Lib.hid c5
  have W1 : IntKind.i64.wrap (d - f) = d - f := IntWalk.i64_in _ (by omega)
  have W2 : IntKind.i64.wrap ((am.length : Int) - 1) = (n : Int) := by rw [hn']; exact (IntWalk.i64_in _ (by omega)).trans (by omega)
  clear hS hP hB0 hn' c5
  go_enter Tryd.func47, Tryd.ntmps47
  go_upto_region 2 with fail
  generalize w.alloc (.cells #[.int .i64 0, .int .i64 0] 25) = w0 at K0 HB0 HA HSa HC5 c0 c1 c2 c3 c4 ⊢
  go_wp2_with fail
  have HB0d := Lib.hid HB0.out.drew
  have HAd := Lib.hid HA.out.drew
  have HSd := Lib.hid (HSa.out.drew)
  have hk0 : w.heap.size < w0.heap.size := K0.out.lt
  have KB := Lib.hid (And.intro c0 (And.intro c1 (And.intro c2 (And.intro c3 c4))))
  have KD := Lib.hid (show (w0.drew.cell? ⟨D, 0, none⟩ = some (.int .i64 d) ∧ w0.drew.cell? ⟨R, 0, none⟩ = some (.int .i64 f) ∧ w0.drew.cell? ⟨R, 1, none⟩ = some (.int .i64 t) ∧ w0.drew.cell? ⟨R, 2, none⟩ = some (.bool z) ∧ w0.drew.cell? ⟨F, 0, none⟩ = some (.slice (some ⟨b, 0, none⟩) am.length c)) from KB.out)
  have HBl := Lib.hid (fun W (hW : Below w0.heap.size w0.drew W) => (show (W.cell? ⟨D, 0, none⟩ = some (.int .i64 d) ∧ W.cell? ⟨R, 0, none⟩ = some (.int .i64 f) ∧ W.cell? ⟨R, 1, none⟩ = some (.int .i64 t) ∧ W.cell? ⟨R, 2, none⟩ = some (.bool z) ∧ W.cell? ⟨F, 0, none⟩ = some (.slice (some ⟨b, 0, none⟩) am.length c)) from by
    have k : ∀ {p : Addr} {v : Value}, w0.drew.cell? p = some v → W.cell? p = some v := fun {p v} q => (hW.cell (p := p) (World.block_lt_of_cell? w0.drew _ q)).trans q
    exact ⟨k KD.out.1, k KD.out.2.1, k KD.out.2.2.1, k KD.out.2.2.2.1, k KD.out.2.2.2.2⟩))
  clear c0 c1 c2 c3 c4
  go_region_held3 (fun W => W.cell? ⟨D, 0, none⟩ = some (.int .i64 d) ∧ W.cell? ⟨R, 0, none⟩ = some (.int .i64 f) ∧ W.cell? ⟨R, 1, none⟩ = some (.int .i64 t) ∧ W.cell? ⟨R, 2, none⟩ = some (.bool z) ∧ W.cell? ⟨F, 0, none⟩ = some (.slice (some ⟨b, 0, none⟩) am.length c)) (first | with_reducible exact KB.out | with_reducible exact KD.out | with_reducible exact KX.out | with_reducible exact KY.out) (first | (go_at_call 49; (with_reducible refine (HDy.out _).mono ?_); rintro x w1 ⟨rfl, hb1⟩; have KX := Lib.hid (HBl.out _ hb1); have HB1 := Lib.hid hb1; clear hb1) | (go_at_call 48; (with_reducible refine (HG.out _ (by exact HSd.out.below HB1.out HSd.out.pos)).mono ?_); rintro x w2 ⟨gb, gc, ys, rfl, hT, hR, hb2⟩; have KY := Lib.hid (HBl.out _ (HB1.out.trans (hb2.mono HB1.out.size))); have HT2 := Lib.hid hT; have HR2 := Lib.hid hR; have HB2 := Lib.hid (HB1.out.trans (hb2.mono HB1.out.size)); clear hT hR hb2))
  have HBw := Lib.hid (show Below w.heap.size w w2 from HB0.out.drew.trans (HB2.out.mono HB0.out.size))
  have K2 := Lib.hid (show Blk w2 w.heap.size 25 #[.int .i64 0, .int .i64 0] from Blk.below (show Blk w0.drew w.heap.size 25 #[.int .i64 0, .int .i64 0] from K0.out) HB2.out K0.out.lt)
  have HS2 := Lib.hid (show Sen ea w2 from HSd.out.below HB2.out HSd.out.pos)
  have HF2 := Lib.hid (show w2.cell? ⟨F, 0, none⟩ = some (.slice (some ⟨b, 0, none⟩) am.length c) from KY.out.2.2.2.2)
  have HC2 : Hid (∀ i, i < am.length → w2.cell? ⟨b, i * 2 + 1, none⟩ = some (.int .i64 (am.getD i 0))) := Lib.hid fun i hi => (HB2.out.cell (p := ⟨b, i * 2 + 1, none⟩) (World.block_lt_of_cell? w0 _ (HC5.out i hi))).trans (HC5.out i hi)
  have HBd := Lib.hid (fun k (hk : k ≤ am.length) => Pc.bd hok ha k hk)
  have HTm := Lib.hid (fun k (hk : k < am.length) => Pc.term hok ha hk)
  have HGr := Lib.hid (fun k (hk : k ≤ 40) => Dc.bd40 (Pc.okN (n := 0) hok (by omega)) hk)
  have HDb := Lib.hid (fun k (hk : k ≤ 40) => Pc.d_bd hok hk)
  have HAb := Lib.hid (fun k (hk : k < am.length) => ha.bd hk)
  have HLs := Lib.hid (fun k => (show Pc.lo y (d - f) (t - f) am (k + 1) = Pc.lo y (d - f) (t - f) am k + am.getD k 0 * Dc.dl (Dc.hi y (d - f) (t - f) k) ∧ Pc.hi y (d - f) (t - f) am (k + 1) = Pc.hi y (d - f) (t - f) am k + am.getD k 0 * Dc.dh (Dc.lo y (d - f) (t - f) k) from ⟨rfl, rfl⟩))
  clear HSd HAd HB0d KB KD HBl KX KY HB1 HB2 HC5 HSa HS HP HG HDy HA K0 HB0 hok ha W1 W2
  generalize t - f = dd at *
  generalize d - f = pp at *
  go_wp2_with fail
  have hnl1 : am.length ≤ n + 1 := by rw [HN.out]; exact Nat.le_refl _
  have hnl2 : n + 1 ≤ am.length := by rw [HN.out]; exact Nat.le_refl _
  go_loopw [6, 7, 23] (fun lo hi x wr => ∃ k : Nat, k ≤ n + 1 ∧ x = .int .i64 k ∧ lo = .int .i64 (Pc.lo y pp dd am k) ∧ hi = .int .i64 (Pc.hi y pp dd am k) ∧ Hid (Below w2.heap.size w2 wr)) (fun _ _ x _ => n + 1 - (intOf x).toNat)
  case atStart => exact ⟨0, Nat.zero_le _, rfl, rfl, rfl, Lib.hid (Below.refl _ _)⟩
  case round =>
    obtain ⟨k, hk, rfl, rfl, rfl, HB⟩ := hrel
    obtain ⟨q0, q1, q2⟩ := HBd.out k (by omega)
    by_cases hlt : k < n + 1
    · have hn40 : k ≤ 40 := by omega
      have hg := HR2.out.2 k (by omega)
      obtain ⟨⟨k0, k1⟩, -⟩ := HT2.out.at2 HR2.out.1 k (by omega)
      rw [hg] at k0 k1
      simp only at k0 k1
      replace k0 := (HB.out.cell (p := ⟨gb, k * 2, none⟩) (World.block_lt_of_cell? w2 _ k0)).trans k0
      replace k1 := (HB.out.cell (p := ⟨gb, k * 2 + 1, none⟩) (World.block_lt_of_cell? w2 _ k1)).trans k1
      obtain ⟨b0, b1, b2⟩ := HGr.out k hn40
      obtain ⟨e0, e1, e2⟩ := HDb.out k hn40
      obtain ⟨t0, t1, t2⟩ := HTm.out k (by omega)
      obtain ⟨a0, a1⟩ := HAb.out k (by omega)
      have HL1 := Lib.hid (HLs.out k)
      have HSr := Lib.hid ((HS2.out.below HB.out HS2.out.pos).alloc (.cells #[.int .i64 (Dc.lo y pp dd k), .int .i64 (Dc.hi y pp dd k)] 25))
      have HDi := Lib.hid (fun W hW => discountBy_any ea (Dc.lo y pp dd k) (Dc.hi y pp dd k) W hW b0 b1 b2)
      have HBa := Lib.hid (HB.out.alloc HB.out.size (.cells #[.int .i64 (Dc.lo y pp dd k), .int .i64 (Dc.hi y pp dd k)] 25))
      have hcF := HF2.out
      have hcA := HC2.out k (by omega)
      have HFA := Lib.hid (And.intro hcF hcA)
      clear hg hcF hcA
      generalize Dc.lo y pp dd k = l0 at *
      generalize Dc.hi y pp dd k = h0 at *
      generalize am.getD k 0 = a at *
      have hk0 : (0 : Int) ≤ k := by omega
      have hk1 : (k : Int) < n + 1 := by omega
      have hk2 : (k : Int) < am.length := by omega
      go_wp2_with fail
      refine (HDi.out _ HSr.out).mono ?_
      rintro e w5 ⟨rfl, hb5⟩
      have HB5 := Lib.hid (HBa.out.trans (hb5.mono HBa.out.size))
      clear hb5 k0 k1 HBa HSr HDi
      generalize Dc.dl h0 = L at *
      generalize Dc.dh l0 = U at *
      go_upto_region 6 with fail
      have HB6 := Lib.hid (HB5.out.alloc HB5.out.size (.cells #[.int .i64 L, .int .i64 U] 25))
      obtain ⟨⟨d0', d1'⟩, -⟩ := (Blk.new w5 #[.int .i64 L, .int .i64 U] 25).two
      have HK := Lib.hid (fun W (hW : Below w2.heap.size w2 W) => (show W.cell? ⟨F, 0, none⟩ = some (.slice (some ⟨b, 0, none⟩) am.length c) ∧ W.cell? ⟨b, k * 2 + 1, none⟩ = some (.int .i64 a) from ⟨(hW.cell (p := ⟨F, 0, none⟩) (World.block_lt_of_cell? w2 _ HFA.out.1)).trans HFA.out.1, (hW.cell (p := ⟨b, k * 2 + 1, none⟩) (World.block_lt_of_cell? w2 _ HFA.out.2)).trans HFA.out.2⟩))
      obtain ⟨x0, x1⟩ := HK.out _ HB6.out
      have e3 : -30000000000000 ≤ Pc.lo y pp dd am k + a * L ∧ Pc.lo y pp dd am k + a * L ≤ 30000000000000 := by omega
      have e4 : -30000000000000 ≤ Pc.hi y pp dd am k + a * U ∧ Pc.hi y pp dd am k + a * U ≤ 30000000000000 := by omega
      generalize Pc.lo y pp dd am k = Lo at *
      generalize Pc.hi y pp dd am k = Hi at *
      have W3 : IntKind.i64.wrap (a * L) = a * L := IntWalk.i64_in _ (by omega)
      have W4 : IntKind.i64.wrap (a * U) = a * U := IntWalk.i64_in _ (by omega)
      have W5 : IntKind.i64.wrap (Lo + a * L) = Lo + a * L := IntWalk.i64_in _ (by omega)
      have W6 : IntKind.i64.wrap (Hi + a * U) = Hi + a * U := IntWalk.i64_in _ (by omega)
      clear HB5 HFA HK
      generalize w5.alloc (.cells #[.int .i64 L, .int .i64 U] 25) = W at HB6 d0' d1' x0 x1 ⊢
      go_quiet (fail)
      go_wp2_with fail
      go_quiet (fail)
      go_wp2_with fail
      go_roundw
      case rel => exact ⟨k + 1, by omega, by go_num, by rw [HL1.out.1], by rw [HL1.out.2], Lib.hid (below_drewN HB6.out _)⟩
      case measure => simp [intOf]; omega
    · obtain rfl : k = n + 1 := by omega
      rw [HN.out] at HV
      have HOu := Lib.hid (fun W => outward_any (Pc.lo y pp dd am (n + 1)) (Pc.hi y pp dd am (n + 1)) W (by omega) (by omega) (by omega) (by omega))
      have HBr := Lib.hid (HBw.out.trans (HB.out.mono HBw.out.size))
      have HKr := Lib.hid (K2.out.below HB.out K2.out.lt)
      generalize Pc.lo y pp dd am (n + 1) = Lo at *
      generalize Pc.hi y pp dd am (n + 1) = Hi at *
      generalize Rg.fl Lo = u at *
      generalize Rg.cl Hi = v at *
      go_wp2_with fail
      refine (HOu.out _).mono ?_
      rintro e w6 ⟨rfl, hb6⟩
      have HB6 := Lib.hid (HBr.out.trans (hb6.mono HBr.out.size))
      have HK6 := Lib.hid (HKr.out.below hb6 HKr.out.lt)
      clear hb6
      obtain ⟨⟨z0, z1⟩, zf0, zf1⟩ := HK6.out.two
      go_wp2_with fail
      obtain ⟨⟨y0', y1'⟩, -, -⟩ := (HK6.out.wr2 (.int .i64 u) (.int .i64 v)).two
      refine bodyPost_ret (v := rV u v) (by simp [results, Tryd.results47, go_sem, y0', y1']) rfl ⟨by rw [HV.out], (HB6.out.setCell (by simp) _).setCell (by simp) _⟩
end Go.Proofs.YtkdooncfchmkfaaDoor

/- The pricing of a bond, made; prices: the program. -/
namespace Go.Proofs.YtkdooncfchmkfaaDoor
open Go.RowKit
theorem Pc.am_row {s e m r d : Int} {W : World} {B : Nat} {v : Value} (hR : runB s e m r d = true) (h : FRow W B v (aftL (floL s e m r) d)) : ∃ b c, v = .slice (some ⟨b, 0, none⟩) (Pc.am s e m r d).length c ∧ ∀ i, i < (Pc.am s e m r d).length → W.cell? ⟨b, i * 2 + 1, none⟩ = some (.int .i64 ((Pc.am s e m r d).getD i 0)) := by
  have hl : (Pc.am s e m r d).length = (aftL (floL s e m r) d).length := by unfold Pc.am; rw [List.length_map]
  have hn := (Pc.am_ok hR).n1
  obtain ⟨b, c, rfl, -, -, -, hc, -⟩ := h.form (by omega)
  refine ⟨b, c, by rw [hl], fun i hi => ?_⟩
  rw [(hc i (by omega)).2]
  congr 2
  unfold Pc.am
  rw [map_at (fun p : Flo => p.2) _ f0 0 (by omega)]
set_option maxRecDepth 8000 in
set_option maxHeartbeats 2000000 in
theorem pricingAt_yes (s e m r d : Int) (w : World) (hT : Tab w) (hR : runB s e m r d = true) :
    Calls Tryd.prog 25 #[boV s e m r, .int .i64 d] w fun x w' => ∃ D R F, x = .returned (.tuple #[prV D R F, .bool true]) ∧ Pr.At w' D R F d (Pc.F s e m r d) (Pc.T s e m r d) (Pc.Z s e m r d) (Pc.am s e m r d) ∧ Below w.heap.size w w' := by
  have HT := Lib.hid ((hT.alloc (.cells #[.int .i64 s, .int .i64 e, .int .i64 m, .int .i64 r] 27)).alloc (.cells #[.int .i64 d] 3))
  have HB0 := Lib.hid (((Below.refl w.heap.size w).alloc (Nat.le_refl _) (.cells #[.int .i64 s, .int .i64 e, .int .i64 m, .int .i64 r] 27)).alloc (by simp) (.cells #[.int .i64 d] 3))
  have HPA := Lib.hid (fun W hW => periodAt_yes s e m r d W hW hR)
  rw [(Pc.run hR).1] at HPA
  have HFA := Lib.hid (fun W hW => after_any s e m r d W hW)
  have HRow := Lib.hid (fun W B v => @Pc.am_row s e m r d W B v hR)
  have KB := Lib.hid ((Blk.new w #[.int .i64 s, .int .i64 e, .int .i64 m, .int .i64 r] 27).alloc (.cells #[.int .i64 d] 3))
  have KD := Lib.hid (show Blk _ (w.heap.size + 1) _ _ by have k := Blk.new (w.alloc (.cells #[.int .i64 s, .int .i64 e, .int .i64 m, .int .i64 r] 27)) #[.int .i64 d] 3; rw [World.size_alloc] at k; exact k)
  clear hT hR
  generalize Pc.F s e m r d = f at *
  generalize Pc.T s e m r d = t at *
  generalize Pc.Z s e m r d = z at *
  generalize Pc.am s e m r d = am at *
  go_enter Tryd.func25, Tryd.ntmps25
  go_wp2_with fail
  refine (HPA.out _ HT.out).mono ?_
  rintro x w1 ⟨rfl, hb1⟩
  have HT1 := Lib.hid (HT.out.below hb1 HT.out.pos)
  have HB1 := Lib.hid (HB0.out.trans (hb1.mono HB0.out.size))
  obtain ⟨b0, b1, b2, b3⟩ := (KB.out.below hb1 KB.out.lt).four
  have KD1 := Lib.hid (KD.out.below hb1 KD.out.lt)
  have d0 := KD1.out.one
  have KB1 := Lib.hid (KB.out.below hb1 KB.out.lt)
  clear hb1 HPA HT KB KD
  have hs1 : w.heap.size + 1 < w1.heap.size := KD1.out.lt
  go_upto_region 4 with fail
  have KR := Lib.hid (Blk.new w1 #[.int .i64 f, .int .i64 t, .bool z] 58)
  have KB2 := Lib.hid (KB1.out.alloc (.cells #[.int .i64 f, .int .i64 t, .bool z] 58))
  have KD2 := Lib.hid (KD1.out.alloc (.cells #[.int .i64 f, .int .i64 t, .bool z] 58))
  have HT2 := Lib.hid (HT1.out.alloc (.cells #[.int .i64 f, .int .i64 t, .bool z] 58))
  have HB2 := Lib.hid (HB1.out.alloc HB1.out.size (.cells #[.int .i64 f, .int .i64 t, .bool z] 58))
  clear KB1 KD1 HT1 HB1 b0 b1 b2 b3 d0
  generalize w1.alloc (.cells #[.int .i64 f, .int .i64 t, .bool z] 58) = w2 at KR KB2 KD2 HT2 HB2 ⊢
  obtain ⟨b0, b1, b2, b3⟩ := KB2.out.four
  have d0 := KD2.out.one
  go_wp2_with fail
  refine (HFA.out _ HT2.out).mono ?_
  rintro x w3 ⟨v, rfl, hF, -, hb3⟩
  have hF' := hF.lower HB2.out.size
  obtain ⟨b, c, rfl, hc⟩ := HRow.out _ _ _ hF'
  have HB3 := Lib.hid (HB2.out.trans (hb3.mono HB2.out.size))
  have KR3 := Lib.hid (KR.out.below hb3 KR.out.lt)
  have KD3 := Lib.hid (KD2.out.below hb3 KD2.out.lt)
  have HC := Lib.hid hc
  clear hF hF' hc hb3 b0 b1 b2 b3 d0 HRow HFA
  go_wp2_with fail
  have HB4 := Lib.hid (HB3.out.alloc HB3.out.size (.cells #[.slice (some ⟨b, 0, none⟩) am.length c] 61))
  have KR4 := KR3.out.alloc (.cells #[.slice (some ⟨b, 0, none⟩) am.length c] 61)
  have KD4 := KD3.out.alloc (.cells #[.slice (some ⟨b, 0, none⟩) am.length c] 61)
  have KF4 := Blk.new w3 #[.slice (some ⟨b, 0, none⟩) am.length c] 61
  refine bodyPost_ret (v := .tuple #[prV (w.heap.size + 1) w1.heap.size w3.heap.size, .bool true]) (by simp [results, Tryd.results25, go_sem]) rfl ⟨_, _, _, rfl, ⟨KD4.one, ?_, ?_, ?_, b, c, KF4.one, fun i hi => ?_⟩, HB4.out⟩
  · exact (by have := KR4; unfold Blk at this; simp [World.cell?, this])
  · exact (by have := KR4; unfold Blk at this; simp [World.cell?, this])
  · exact (by have := KR4; unfold Blk at this; simp [World.cell?, this])
  · exact (World.cell?_alloc_lt _ _ ⟨b, i * 2 + 1, none⟩ (World.block_lt_of_cell? w3 _ (HC.out i hi))).trans (HC.out i hi)
set_option maxRecDepth 8000 in
set_option maxHeartbeats 2000000 in
theorem pricingAt_no (s e m r d : Int) (w : World) (hT : Tab w) (hR : runB s e m r d = false) :
    Calls Tryd.prog 25 #[boV s e m r, .int .i64 d] w fun x w' => x = .returned (.tuple #[.nilFunc, .bool false]) ∧ Below w.heap.size w w' := by
  have HT := Lib.hid ((hT.alloc (.cells #[.int .i64 s, .int .i64 e, .int .i64 m, .int .i64 r] 27)).alloc (.cells #[.int .i64 d] 3))
  have HB0 := Lib.hid (((Below.refl w.heap.size w).alloc (Nat.le_refl _) (.cells #[.int .i64 s, .int .i64 e, .int .i64 m, .int .i64 r] 27)).alloc (by simp) (.cells #[.int .i64 d] 3))
  have HPA := Lib.hid (fun W hW => periodAt_no s e m r d W hW hR)
  clear hT hR
  go_enter Tryd.func25, Tryd.ntmps25
  go_wp2_with fail
  refine (HPA.out _ HT.out).mono ?_
  rintro x w1 ⟨rfl, hb1⟩
  have HB1 := Lib.hid (HB0.out.trans (hb1.mono HB0.out.size))
  clear hb1
  go_wp2_with fail
  refine bodyPost_ret (v := .tuple #[.nilFunc, .bool false]) (by simp [results, Tryd.results25, go_sem]) rfl ⟨rfl, HB1.out.alloc HB1.out.size _⟩
set_option maxRecDepth 8000 in
set_option maxHeartbeats 2000000 in
theorem priceOf_any (ea : Addr) (s e m r d y : Int) (w : World) (hT : Tab w) (hS : Sen ea w) :
    Calls Tryd.prog 12 #[boV s e m r, .int .i64 d, .int .i64 y] w fun x w' => x = .returned (rV (Pc.pr s e m r d y).1 (Pc.pr s e m r d y).2) ∧ Below w.heap.size w w' := by
  have HT := Lib.hid ((hT.alloc (.cells #[.int .i64 s, .int .i64 e, .int .i64 m, .int .i64 r] 27)).alloc (.cells #[.int .i64 0, .int .i64 0] 25))
  have HS := Lib.hid ((hS.alloc (.cells #[.int .i64 s, .int .i64 e, .int .i64 m, .int .i64 r] 27)).alloc (.cells #[.int .i64 0, .int .i64 0] 25))
  have HB0 := Lib.hid (((Below.refl w.heap.size w).alloc (Nat.le_refl _) (.cells #[.int .i64 s, .int .i64 e, .int .i64 m, .int .i64 r] 27)).alloc (by simp) (.cells #[.int .i64 0, .int .i64 0] 25))
  have KR := Lib.hid (show Blk _ (w.heap.size + 1) _ _ by have k := Blk.new (w.alloc (.cells #[.int .i64 s, .int .i64 e, .int .i64 m, .int .i64 r] 27)) #[.int .i64 0, .int .i64 0] 25; rw [World.size_alloc] at k; exact k)
  clear hT hS
  cases hR : runB s e m r d with
  | false =>
    have HV := Lib.hid (Pc.pr_no1 (y := y) hR)
    have HPA := Lib.hid (fun W hW => pricingAt_no s e m r d W hW hR)
    clear hR
    rw [HV.out]
    go_enter Tryd.func12, Tryd.ntmps12
    go_wp2_with fail
    refine (HPA.out _ HT.out).mono ?_
    rintro x w1 ⟨rfl, hb1⟩
    have HB1 := Lib.hid (HB0.out.trans (hb1.mono HB0.out.size))
    obtain ⟨⟨r0, r1⟩, rf0, rf1⟩ := (KR.out.below hb1 KR.out.lt).two
    have KR1 := Lib.hid (KR.out.below hb1 KR.out.lt)
    clear hb1
    go_wp2_with fail
    obtain ⟨⟨y0, y1⟩, -, -⟩ := (KR1.out.wr2 (.int .i64 0) (.int .i64 0)).two
    refine bodyPost_ret (v := rV 0 0) (by simp [results, Tryd.results12, go_sem, y0, y1]) rfl ⟨rfl, (HB1.out.setCell (by simp) _).setCell (by simp) _⟩
  | true =>
    have HPA := Lib.hid (fun W hW => pricingAt_yes s e m r d W hW hR)
    cases hy : btw y 0 100000 with
    | false =>
      have HV := Lib.hid (Pc.pr_no2 (s := s) (e := e) (m := m) (r := r) (d := d) hy)
      have HY := Lib.hid (fun W => vYieldC_any y false hy W)
      clear hR hy
      rw [HV.out]
      go_enter Tryd.func12, Tryd.ntmps12
      go_wp2_with fail
      refine (HPA.out _ HT.out).mono ?_
      rintro x w1 ⟨D, R, F, rfl, -, hb1⟩
      have HB1 := Lib.hid (HB0.out.trans (hb1.mono HB0.out.size))
      obtain ⟨⟨r0, r1⟩, rf0, rf1⟩ := (KR.out.below hb1 KR.out.lt).two
      have KR1 := Lib.hid (KR.out.below hb1 KR.out.lt)
      clear hb1
      go_wp2_with fail
      refine (HY.out _).mono ?_
      rintro x w2 ⟨rfl, rfl⟩
      go_wp2_with fail
      obtain ⟨⟨y0, y1⟩, -, -⟩ := (KR1.out.wr2 (.int .i64 0) (.int .i64 0)).two
      refine bodyPost_ret (v := rV 0 0) (by simp [results, Tryd.results12, go_sem, y0, y1]) rfl ⟨rfl, (HB1.out.setCell (by simp) _).setCell (by simp) _⟩
    | true =>
      have HV := Lib.hid (Pc.pr_yes hR hy)
      have HY := Lib.hid (fun W => vYieldC_any y true hy W)
      obtain ⟨-, f0, f1, -, t1, -⟩ := Pc.run hR
      have hyb := btw_iff.1 hy
      have HPr := Lib.hid (fun D R F W hS hP => pricing_any ea D R F d (Pc.F s e m r d) (Pc.T s e m r d) y (Pc.Z s e m r d) (Pc.am s e m r d) W hS hP (Pc.run_ok hR hyb.1 hyb.2) (Pc.am_ok hR) f0 f1 t1)
      clear hR hy f0 f1 t1 hyb
      rw [HV.out]
      generalize Pc.F s e m r d = f at *
      generalize Pc.T s e m r d = t at *
      generalize Pc.Z s e m r d = z at *
      generalize Pc.am s e m r d = am at *
      generalize Pc.val y (d - f) (t - f) am = V at *
      obtain ⟨u, v⟩ := V
      go_enter Tryd.func12, Tryd.ntmps12
      go_wp2_with fail
      refine (HPA.out _ HT.out).mono ?_
      rintro x w1 ⟨D, R, F, rfl, hP, hb1⟩
      have HP1 := Lib.hid hP
      have HS1 := Lib.hid (HS.out.below hb1 HS.out.pos)
      have HB1 := Lib.hid (HB0.out.trans (hb1.mono HB0.out.size))
      obtain ⟨⟨r0, r1⟩, rf0, rf1⟩ := (KR.out.below hb1 KR.out.lt).two
      have KR1 := Lib.hid (KR.out.below hb1 KR.out.lt)
      clear hb1 hP
      go_wp2_with fail
      refine (HY.out _).mono ?_
      rintro x w2 ⟨rfl, rfl⟩
      go_wp2_with fail
      refine (HPr.out D R F _ HS1.out HP1.out).mono ?_
      rintro x w3 ⟨rfl, hb3⟩
      have HB3 := Lib.hid (HB1.out.trans (hb3.mono HB1.out.size))
      have KR3 := Lib.hid (KR1.out.below hb3 KR1.out.lt)
      obtain ⟨⟨q0, q1⟩, qf0, qf1⟩ := KR3.out.two
      clear hb3 r0 r1 rf0 rf1
      go_wp2_with fail
      obtain ⟨⟨y0, y1⟩, -, -⟩ := (KR3.out.wr2 (.int .i64 u) (.int .i64 v)).two
      refine bodyPost_ret (v := rV u v) (by simp [results, Tryd.results12, go_sem, y0, y1]) rfl ⟨rfl, (HB3.out.setCell (by simp) _).setCell (by simp) _⟩
end Go.Proofs.YtkdooncfchmkfaaDoor

/- Prices: the model. -/
namespace Go.Proofs.YtkdooncfchmkfaaDoor
open Go.RowKit
/-- The model's schedule of a bond that runs. -/
theorem sSchedR_any {s e m r d : Int} (hR : runB s e m r d = true) (W : World) :
    Calls Tryd.prog 42 #[.int .i64 s, .int .i64 e, .int .i64 m] W fun x w' => ∃ v, x = .returned v ∧ Rd w' v (perL s e m r) ∧ Below W.heap.size W w' := by
  have hne : perL s e m r ≠ [] := fun k => by have := (runB_iff.1 hR).1; rw [k] at this; simp at this
  have hp : perL s e m r = Sc.sch s e m := by
    unfold perL at hne ⊢
    split
    · rfl
    · rename_i c; rw [if_neg c] at hne; exact absurd rfl hne
  have hne' := hne
  rw [hp] at hne'
  obtain ⟨ok, hN, hall⟩ := Sc.sch_pos hne'
  refine (sSched_any s e m W ok).mono ?_
  rintro x w' ⟨v, rfl, hq, hb⟩
  rw [Sc.specL_all ok hN, ← hall, ← hp] at hq
  exact ⟨v, rfl, hq.1.rd, hb⟩
set_option maxRecDepth 8000 in
set_option maxHeartbeats 8000000 in
theorem sprice_any (s e m r d y : Int) (w : World) (hR : runB s e m r d = true) (hy : btw y 0 100000 = true) :
    Calls Tryd.prog 24 #[boV s e m r, .int .i64 d, .int .i64 y] w fun x w' => x = .returned (rV (Pc.pr s e m r d y).1 (Pc.pr s e m r d y).2) ∧ Below w.heap.size w w' := by
  obtain ⟨y0, y1⟩ := btw_iff.1 hy
  obtain ⟨hg, f0, f1, t0, t1, -⟩ := Pc.run hR
  have hok := Pc.run_ok hR y0 y1
  have ha := Pc.am_ok hR
  have hl := Pc.am_len hR
  obtain ⟨hk, -⟩ := runK_facts hR
  have hne : perL s e m r ≠ [] := fun k => by rw [k] at hk; simp at hk
  have HPO := Lib.hid (fun W => sPeriodOf_any s e m r d W hR)
  have HSc := Lib.hid (fun W => sSchedR_any hR W)
  have HFl := Lib.hid (fun W => sFlows_any s e m r W hne)
  have HAt := Lib.hid (fun i (hi : i < (Pc.am s e m r d).length) => Pc.am_at hR hi)
  have HBd := Lib.hid (fun j (hj : j ≤ (Pc.am s e m r d).length) => Pc.bd hok ha j hj)
  have HTm := Lib.hid (fun j (hj : j < (Pc.am s e m r d).length) => Pc.term hok ha hj)
  have HDb := Lib.hid (fun j (hj : j ≤ 40) => Pc.d_bd hok hj)
  have HAb := Lib.hid (fun j (hj : j < (Pc.am s e m r d).length) => ha.bd hj)
  have HDs := Lib.hid (fun (j : Nat) (hj : j ≤ 40) W => (show Calls Tryd.prog 44 #[.int .i64 y, .int .i64 (d - Pc.F s e m r d), .int .i64 (Pc.T s e m r d - Pc.F s e m r d), .int .i64 j] W fun x w' => x = .returned (rV (Dc.dl (Dc.hi y (d - Pc.F s e m r d) (Pc.T s e m r d - Pc.F s e m r d) j)) (Dc.dh (Dc.lo y (d - Pc.F s e m r d) (Pc.T s e m r d - Pc.F s e m r d) j))) ∧ Below W.heap.size W w' from by
    have h := sdiscount_any y (d - Pc.F s e m r d) (Pc.T s e m r d - Pc.F s e m r d) j W (Pc.okN hok hj)
    rw [show Dc.val y (d - Pc.F s e m r d) (Pc.T s e m r d - Pc.F s e m r d) j = (Dc.dl (Dc.hi y (d - Pc.F s e m r d) (Pc.T s e m r d - Pc.F s e m r d) j), Dc.dh (Dc.lo y (d - Pc.F s e m r d) (Pc.T s e m r d - Pc.F s e m r d) j)) by unfold Dc.val; rw [if_pos (Pc.okN hok hj)]; rfl] at h
    exact h))
  have HLs := Lib.hid (fun k => (show Pc.lo y (d - Pc.F s e m r d) (Pc.T s e m r d - Pc.F s e m r d) (Pc.am s e m r d) (k + 1) = Pc.lo y (d - Pc.F s e m r d) (Pc.T s e m r d - Pc.F s e m r d) (Pc.am s e m r d) k + (Pc.am s e m r d).getD k 0 * Dc.dl (Dc.hi y (d - Pc.F s e m r d) (Pc.T s e m r d - Pc.F s e m r d) k) ∧ Pc.hi y (d - Pc.F s e m r d) (Pc.T s e m r d - Pc.F s e m r d) (Pc.am s e m r d) (k + 1) = Pc.hi y (d - Pc.F s e m r d) (Pc.T s e m r d - Pc.F s e m r d) (Pc.am s e m r d) k + (Pc.am s e m r d).getD k 0 * Dc.dh (Dc.lo y (d - Pc.F s e m r d) (Pc.T s e m r d - Pc.F s e m r d) k) from ⟨rfl, rfl⟩))
  have HV0 := Pc.pr_yes hR hy
  obtain ⟨V, hV⟩ : ∃ V, V = Pc.pr s e m r d y := ⟨_, rfl⟩
  rw [← hV] at HV0 ⊢
  have HV := Lib.hid (show V = (Rg.fl (Pc.lo y (d - Pc.F s e m r d) (Pc.T s e m r d - Pc.F s e m r d) (Pc.am s e m r d) (Pc.am s e m r d).length), Rg.cl (Pc.hi y (d - Pc.F s e m r d) (Pc.T s e m r d - Pc.F s e m r d) (Pc.am s e m r d) (Pc.am s e m r d).length)) from HV0)
  clear hV HV0
  have hn1 := ha.n1
  have hn2 := ha.n40
  have hfl : (floL s e m r).length = (perL s e m r).length := floL_len s e m r
  have h40 := perL_len s e m r
  have KB := Lib.hid ((Blk.new w #[.int .i64 s, .int .i64 e, .int .i64 m, .int .i64 r] 27).alloc (.cells #[.int .i64 0, .int .i64 0] 25))
  have KR := Lib.hid (show Blk _ (w.heap.size + 1) _ _ by have k := Blk.new (w.alloc (.cells #[.int .i64 s, .int .i64 e, .int .i64 m, .int .i64 r] 27)) #[.int .i64 0, .int .i64 0] 25; rw [World.size_alloc] at k; exact k)
  have HB0 := Lib.hid (((Below.refl w.heap.size w).alloc (Nat.le_refl _) (.cells #[.int .i64 s, .int .i64 e, .int .i64 m, .int .i64 r] 27)).alloc (by simp) (.cells #[.int .i64 0, .int .i64 0] 25))
  obtain ⟨k, hkk⟩ : ∃ k, k = runK s e m r d := ⟨_, rfl⟩
  rw [← hkk] at HPO hg hk hl HAt
  generalize Pc.F s e m r d = f at *
  generalize Pc.T s e m r d = t at *
  generalize Pc.Z s e m r d = z at *
  generalize Pc.am s e m r d = am at *
  generalize perL s e m r = ps at *
  obtain ⟨fs, hfs⟩ : ∃ fs, fs = floL s e m r := ⟨_, rfl⟩
  unfold FlowsL at HFl
  rw [← hfs] at hfl HFl HAt
  have HG := Lib.hid hg
  have HW1 : IntKind.i64.wrap (d - f) = d - f ∧ IntKind.i64.wrap (t - f) = t - f := ⟨IntWalk.i64_in _ (by omega), IntWalk.i64_in _ (by omega)⟩
  have HL := Lib.hid (And.intro hl hfl)
  have hfk : k + am.length = fs.length := by omega
  have HFK := Lib.hid hfk
  have hfs40 : fs.length ≤ 40 := by omega
  clear hkk hR hy hok ha hne hg hfs hl hfl hfk
  go_enter Tryd.func24, Tryd.ntmps24
  go_upto_region 1 with fail
  generalize (w.alloc (.cells #[.int .i64 s, .int .i64 e, .int .i64 m, .int .i64 r] 27)).alloc (.cells #[.int .i64 0, .int .i64 0] 25) = w0 at KB KR HB0 ⊢
  obtain ⟨b0, b1, b2, b3⟩ := KB.out.four
  go_wp2_with fail
  refine (HPO.out _).mono ?_
  rintro x w1 ⟨rfl, hb1⟩
  have HB1 := Lib.hid (HB0.out.trans (hb1.mono HB0.out.size))
  have KB1 := Lib.hid (KB.out.below hb1 KB.out.lt)
  have KR1 := Lib.hid (KR.out.below hb1 KR.out.lt)
  clear hb1 b0 b1 b2 b3 KB KR HB0
  obtain ⟨b0, b1, b2, b3⟩ := KB1.out.four
  go_wp2_with fail
  refine (HSc.out _).mono ?_
  rintro x w2 ⟨v, rfl, hrd, hb2⟩
  obtain ⟨lb, lc, rfl, -, hlc⟩ := hrd.2 (by omega)
  have HB2 := Lib.hid (HB1.out.trans (hb2.mono HB1.out.size))
  have KB2 := Lib.hid (KB1.out.below hb2 KB1.out.lt)
  have KR2 := Lib.hid (KR1.out.below hb2 KR1.out.lt)
  have HLc := Lib.hid (hlc k (by omega))
  clear hb2 b0 b1 b2 b3 KB1 KR1 hrd hlc HB1
  obtain ⟨b0, b1, b2, b3⟩ := KB2.out.four
  go_wp2_with fail
  refine (HFl.out _).mono ?_
  rintro x w3 ⟨v, rfl, hpf, hb3⟩
  obtain ⟨fb, fc, rfl, -, -⟩ := hpf.form
  have HB3 := Lib.hid (HB2.out.trans (hb3.mono HB2.out.size))
  have KR3 := Lib.hid (KR2.out.below hb3 KR2.out.lt)
  have HL3 := Lib.hid (show w3.cell? ⟨lb, k * 3, none⟩ = some (.int .i64 f) ∧ w3.cell? ⟨lb, k * 3 + 1, none⟩ = some (.int .i64 t) from by
    obtain ⟨q0, q1, -⟩ := HLc.out
    rw [HG.out] at q0 q1
    exact ⟨(hb3.cell (p := ⟨lb, k * 3, none⟩) (World.block_lt_of_cell? w2 _ q0)).trans q0, (hb3.cell (p := ⟨lb, k * 3 + 1, none⟩) (World.block_lt_of_cell? w2 _ q1)).trans q1⟩)
  have HF3 := Lib.hid (fun i (hi : i < am.length) => (show w3.cell? ⟨fb, (k + i) * 2 + 1, none⟩ = some (.int .i64 (am.getD i 0)) from by
    rw [HAt.out i hi]
    exact (hpf.1.at_ rfl (by have := HFK.out; omega)).1.2))
  clear hb3 b0 b1 b2 b3 KB2 KR2 hpf HB2 HLc HAt HG HPO HSc HFl
  go_wp2_with fail
  have hkp : (k : Int) < ps.length := by omega
  obtain ⟨dd, hdd⟩ : ∃ dd, t - f = dd := ⟨_, rfl⟩
  obtain ⟨pp, hpp⟩ : ∃ pp, d - f = pp := ⟨_, rfl⟩
  have HWs := Lib.hid (show IntKind.i64.wrap (d - f) = pp ∧ IntKind.i64.wrap (t - f) = dd from ⟨HW1.1.trans hpp, HW1.2.trans hdd⟩)
  clear HW1
  rw [hdd, hpp] at HBd HTm HDb HDs HLs HV
  clear hdd hpp
  have hfs1 : k + am.length ≤ fs.length := by rw [HFK.out]; exact Nat.le_refl _
  have hfs2 : fs.length ≤ k + am.length := by rw [HFK.out]; exact Nat.le_refl _
  go_loopw [10, 11, 12] (fun lo hi x wr => ∃ i : Nat, k ≤ i ∧ i ≤ fs.length ∧ x = .int .i64 i ∧ lo = .int .i64 (Pc.lo y pp dd am (i - k)) ∧ hi = .int .i64 (Pc.hi y pp dd am (i - k)) ∧ Hid (Below w3.heap.size w3 wr)) (fun _ _ x _ => fs.length - (intOf x).toNat)
  case atStart => exact ⟨k, Nat.le_refl _, by omega, rfl, by rw [Nat.sub_self]; rfl, by rw [Nat.sub_self]; rfl, Lib.hid (Below.refl _ _)⟩
  case round =>
    obtain ⟨i, hki, hi, rfl, rfl, rfl, HB⟩ := hrel
    obtain ⟨j, hj⟩ : ∃ j, j = i - k := ⟨_, rfl⟩
    rw [← hj]
    have HJ := Lib.hid hj
    have hij : i = k + j := by omega
    have HIJ := Lib.hid hij
    have hjb : j ≤ am.length := by omega
    clear hj hij
    obtain ⟨q0, q1, q2⟩ := HBd.out j hjb
    by_cases hlt : i < fs.length
    · have hjl : j < am.length := by have := HIJ.out; omega
      obtain ⟨e0, e1, e2⟩ := HDb.out j (by omega)
      obtain ⟨u0, u1, u2⟩ := HTm.out j hjl
      obtain ⟨a0, a1⟩ := HAb.out j hjl
      have HL1 := Lib.hid (HLs.out j)
      have HDi := Lib.hid (HDs.out j (by omega))
      have hcA := HF3.out j hjl
      rw [show k + j = i from HIJ.out.symm] at hcA
      have HFA := Lib.hid hcA
      obtain ⟨c0, c1⟩ := HL3.out
      replace c0 := (HB.out.cell (p := ⟨lb, k * 3, none⟩) (World.block_lt_of_cell? w3 _ c0)).trans c0
      replace c1 := (HB.out.cell (p := ⟨lb, k * 3 + 1, none⟩) (World.block_lt_of_cell? w3 _ c1)).trans c1
      clear hcA
      generalize am.getD j 0 = a at *
      have hi0 : (0 : Int) ≤ i := by omega
      have hi1 : (i : Int) < fs.length := by omega
      have hk0 : (0 : Int) ≤ k := by omega
      have W5 : IntKind.i64.wrap ((i : Int) - (k : Int)) = (j : Int) := by
        have := HIJ.out
        exact (IntWalk.i64_in _ (by omega)).trans (by omega)
      have KC := Lib.hid (And.intro c0 c1)
      have KD := Lib.hid (show wr.drew.cell? ⟨lb, k * 3, none⟩ = some (.int .i64 f) ∧ wr.drew.cell? ⟨lb, k * 3 + 1, none⟩ = some (.int .i64 t) from KC.out)
      have HKb := Lib.hid (fun W (hW : Below w3.heap.size w3 W) => (show W.cell? ⟨lb, k * 3, none⟩ = some (.int .i64 f) ∧ W.cell? ⟨lb, k * 3 + 1, none⟩ = some (.int .i64 t) from ⟨(hW.cell (p := ⟨lb, k * 3, none⟩) (World.block_lt_of_cell? w3 _ HL3.out.1)).trans HL3.out.1, (hW.cell (p := ⟨lb, k * 3 + 1, none⟩) (World.block_lt_of_cell? w3 _ HL3.out.2)).trans HL3.out.2⟩))
      have HBdr := Lib.hid HB.out.drew
      clear c0 c1
      obtain ⟨W1, W2⟩ := HWs.out
      go_wp2_with fail
      have hs3 : w3.heap.size ≤ wr.heap.size := HB.out.size
      generalize Dc.dl (Dc.hi y pp dd j) = L at *
      generalize Dc.dh (Dc.lo y pp dd j) = U at *
      have e3 : -30000000000000 ≤ Pc.lo y pp dd am j + a * L ∧ Pc.lo y pp dd am j + a * L ≤ 30000000000000 := by omega
      have e4 : -30000000000000 ≤ Pc.hi y pp dd am j + a * U ∧ Pc.hi y pp dd am j + a * U ≤ 30000000000000 := by omega
      go_region_held3 (fun W => W.cell? ⟨lb, k * 3, none⟩ = some (.int .i64 f) ∧ W.cell? ⟨lb, k * 3 + 1, none⟩ = some (.int .i64 t)) (first | with_reducible exact KC.out | with_reducible exact KD.out | with_reducible exact K5.out | (refine HKb.out _ ?_; repeat (first | exact HB5.out | exact HBdr.out | exact HB.out | refine Below.drew ?_ | refine Below.setCell ?_ (by first | omega | (simp <;> omega)) _ | refine Below.alloc ?_ (by first | omega | (simp <;> omega)) _))) (first | (go_at_call 44; (with_reducible refine (HDi.out _).mono ?_); rintro x w5 ⟨rfl, hb5⟩; (first | (have HB5 := Lib.hid (HBdr.out.trans (hb5.mono HBdr.out.size))) | (have HB5 := Lib.hid ((HB.out.alloc HB.out.size _).drew.trans (hb5.mono (HB.out.alloc HB.out.size _).drew.size))) | (have HB5 := Lib.hid ((HBdr.out.alloc HBdr.out.size _).trans (hb5.mono (HBdr.out.alloc HBdr.out.size _).size)))); have hs6 := HB5.out.size; have K5 := Lib.hid (HKb.out _ HB5.out); (first | (have z5 := Blk.below (blkDrewD (Blk.new _ #[.int .i64 0, .int .i64 0] 25)) hb5 (by simp); obtain ⟨⟨zc0, zc1⟩, zf0, zf1⟩ := z5.two) | (have z5 := Blk.below (Blk.new _ #[.int .i64 0, .int .i64 0] 25) hb5 (by simp); obtain ⟨⟨zc0, zc1⟩, zf0, zf1⟩ := z5.two) | skip)))
      · have KdX := Lib.hid (Blk.new w5 #[.int .i64 L, .int .i64 U] 25)
        have HBx := Lib.hid (HB5.out.alloc HB5.out.size (.cells #[.int .i64 L, .int .i64 U] 25))
        generalize w5.alloc (.cells #[.int .i64 L, .int .i64 U] 25) = W at KdX HBx ⊢
        generalize w5.heap.size = B at KdX ⊢
        obtain ⟨⟨m0, m1⟩, -⟩ := KdX.out.two
        have x1 := (HBx.out.cell (p := ⟨fb, i * 2 + 1, none⟩) (World.block_lt_of_cell? w3 _ HFA.out)).trans HFA.out
        clear HB5 K5 HFA
        generalize Pc.lo y pp dd am j = Lo at *
        generalize Pc.hi y pp dd am j = Hi at *
        have W3 : IntKind.i64.wrap (a * L) = a * L := IntWalk.i64_in _ (by omega)
        have W4 : IntKind.i64.wrap (a * U) = a * U := IntWalk.i64_in _ (by omega)
        have W6 : IntKind.i64.wrap (Lo + a * L) = Lo + a * L := IntWalk.i64_in _ (by omega)
        have W7 : IntKind.i64.wrap (Hi + a * U) = Hi + a * U := IntWalk.i64_in _ (by omega)
        go_wp2_with fail
        go_quiet (fail)
        go_wp2_with fail
        go_quiet (fail)
        go_wp2_with fail
        go_roundw
        case rel => exact ⟨i + 1, by omega, by omega, by go_num, by rw [show i + 1 - k = j + 1 by have := HIJ.out; omega, HL1.out.1], by rw [show i + 1 - k = j + 1 by have := HIJ.out; omega, HL1.out.2], Lib.hid (below_drewN HBx.out _)⟩
        case measure => simp [intOf]; omega
      · have KdX := Lib.hid (z5.wr2 (.int .i64 L) (.int .i64 U))
        have HBx : Hid (Below w3.heap.size w3 ((w5.setCell ⟨wr.heap.size, 0, none⟩ (.int .i64 L)).setCell ⟨wr.heap.size, 1, none⟩ (.int .i64 U))) := Lib.hid ((HB5.out.setCell (by show w3.heap.size ≤ wr.heap.size; omega) _).setCell (by show w3.heap.size ≤ wr.heap.size; omega) _)
        generalize (w5.setCell ⟨wr.heap.size, 0, none⟩ (.int .i64 L)).setCell ⟨wr.heap.size, 1, none⟩ (.int .i64 U) = W at KdX HBx ⊢
        clear hs3
        generalize wr.heap.size = B at KdX ⊢
        obtain ⟨⟨m0, m1⟩, -⟩ := KdX.out.two
        have x1 := (HBx.out.cell (p := ⟨fb, i * 2 + 1, none⟩) (World.block_lt_of_cell? w3 _ HFA.out)).trans HFA.out
        clear HB5 K5 HFA
        generalize Pc.lo y pp dd am j = Lo at *
        generalize Pc.hi y pp dd am j = Hi at *
        have W3 : IntKind.i64.wrap (a * L) = a * L := IntWalk.i64_in _ (by omega)
        have W4 : IntKind.i64.wrap (a * U) = a * U := IntWalk.i64_in _ (by omega)
        have W6 : IntKind.i64.wrap (Lo + a * L) = Lo + a * L := IntWalk.i64_in _ (by omega)
        have W7 : IntKind.i64.wrap (Hi + a * U) = Hi + a * U := IntWalk.i64_in _ (by omega)
        go_wp2_with fail
        go_quiet (fail)
        go_wp2_with fail
        go_quiet (fail)
        go_wp2_with fail
        go_roundw
        case rel => exact ⟨i + 1, by omega, by omega, by go_num, by rw [show i + 1 - k = j + 1 by have := HIJ.out; omega, HL1.out.1], by rw [show i + 1 - k = j + 1 by have := HIJ.out; omega, HL1.out.2], Lib.hid (below_drewN HBx.out _)⟩
        case measure => simp [intOf]; omega
    · obtain rfl : i = fs.length := by omega
      have hja : j = am.length := by have := HIJ.out; omega
      subst hja
      have HOf := Lib.hid (fun W => rsFloored_any (Pc.lo y pp dd am am.length) 1000000 W (by omega) (by omega) (by decide) (by decide))
      have HOc := Lib.hid (fun W => rsCeiled_any (Pc.hi y pp dd am am.length) 1000000 W (by omega) (by omega) (by decide) (by decide))
      have HBr := Lib.hid (HB3.out.trans (HB.out.mono HB3.out.size))
      have HKr := Lib.hid (KR3.out.below HB.out KR3.out.lt)
      have e1 : Pc.lo y pp dd am am.length / 1000000 = Rg.fl (Pc.lo y pp dd am am.length) := rfl
      have e2 : -((-Pc.hi y pp dd am am.length) / 1000000) = Rg.cl (Pc.hi y pp dd am am.length) := rfl
      rw [e1] at HOf
      rw [e2] at HOc
      clear e1 e2
      generalize Pc.lo y pp dd am am.length = Lo at *
      generalize Pc.hi y pp dd am am.length = Hi at *
      generalize Rg.fl Lo = u at *
      generalize Rg.cl Hi = v at *
      obtain ⟨⟨z0, z1⟩, zf0, zf1⟩ := HKr.out.two
      go_wp2_with fail
      refine (HOf.out _).mono ?_
      rintro x w6 ⟨rfl, rfl⟩
      go_wp2_with fail
      refine (HOc.out _).mono ?_
      rintro x w6 ⟨rfl, rfl⟩
      go_wp2_with fail
      obtain ⟨⟨y0', y1'⟩, -, -⟩ := (HKr.out.wr2 (.int .i64 u) (.int .i64 v)).two
      refine bodyPost_ret (v := rV u v) (by simp [results, Tryd.results24, go_sem, y0', y1']) rfl ⟨by rw [HV.out], (HBr.out.setCell (by simp) _).setCell (by simp) _⟩
end Go.Proofs.YtkdooncfchmkfaaDoor
