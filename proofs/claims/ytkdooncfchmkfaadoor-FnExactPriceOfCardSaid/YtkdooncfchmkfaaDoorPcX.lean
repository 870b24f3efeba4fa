/- The exact laws of prices, yields and risks; every price tells its yields. -/
import Derived.Test.YtkdooncfchmkfaaDoorYdS
import Derived.Test.YtkdooncfchmkfaaDoorRk
namespace Go.Proofs.YtkdooncfchmkfaaDoor
open Go.RowKit
set_option maxHeartbeats 400000 in
theorem eqRangeP (p q : Int) (w : World) :
    Calls Tryd.prog 13 #[rV p q, rV p q] w fun e w' => e = .returned (.bool true) ∧ Below w.heap.size w w' := by
  have e1 : (p != p) = false := by simp
  have e2 : (q != q) = false := by simp
  go_enter Tryd.func13, Tryd.ntmps13
  go_wp2_with fail
  go_ret
  exact ⟨rfl, ((Below.refl _ _).alloc (Nat.le_refl _) _).alloc (by simp) _⟩
set_option maxRecDepth 8000 in
set_option maxHeartbeats 2000000 in
theorem exPriceOf (s e m r d y : Int) (w : World) (hT : Tab w) (ea : Addr) (hS : Sen ea w) :
    Calls Tryd.prog 3 #[boV s e m r, .int .i64 d, .int .i64 y] w fun x w' => x = .returned (.bool true) ∧ Below w.heap.size w w' := by
  have SP := Lib.hid (fun W => sPriceOf_any s e m r d y W)
  have IM := Lib.hid (fun W hT hS => priceOf_any ea s e m r d y W hT hS)
  have HT := Lib.hid (fun W (hW : Below w.heap.size w W) => hT.below hW hT.pos)
  have HS := Lib.hid (fun W (hW : Below w.heap.size w W) => hS.below hW hS.pos)
  generalize Pc.pr s e m r d y = V at *
  obtain ⟨L, U⟩ := V
  clear hT hS
  have KL := Lib.hid (Blk.new w #[.int .i64 s, .int .i64 e, .int .i64 m, .int .i64 r] 23)
  have HB := Lib.hid ((Below.refl w.heap.size w).alloc (Nat.le_refl _) (.cells #[.int .i64 s, .int .i64 e, .int .i64 m, .int .i64 r] 23))
  go_enter Tryd.func3, Tryd.ntmps3
  go_wp2_with fail
  refine (toBond_any _ _ _ _ _).mono ?_
  rintro x w1 ⟨rfl, hb1⟩
  have HB1 := Lib.hid (HB.out.trans (hb1.mono HB.out.size))
  have KL1 := Lib.hid (KL.out.below hb1 KL.out.lt)
  clear hb1
  go_wp2_with fail
  refine (SP.out _).mono ?_
  rintro x w2 ⟨rfl, hb2⟩
  have HB2 := Lib.hid ((HB1.out.trans (hb2.mono HB1.out.size)).alloc (HB1.out.trans (hb2.mono HB1.out.size)).size (.cells #[.int .i64 L, .int .i64 U] 25))
  have KL2 := Lib.hid ((KL1.out.below hb2 KL1.out.lt).alloc (.cells #[.int .i64 L, .int .i64 U] 25))
  have K1 := Lib.hid (Blk.new w2 #[.int .i64 L, .int .i64 U] 25)
  clear hb2
  go_upto_region 2 with fail
  generalize w2.alloc (.cells #[.int .i64 L, .int .i64 U] 25) = w3 at HB2 KL2 K1 ⊢
  obtain ⟨c0, c1, c2, c3⟩ := KL2.out.four
  go_wp2_with fail
  refine (toBond_any _ _ _ _ _).mono ?_
  rintro x w4 ⟨rfl, hb4⟩
  have HB4 := Lib.hid (HB2.out.trans (hb4.mono HB2.out.size))
  have K4 := Lib.hid (K1.out.below hb4 K1.out.lt)
  clear hb4 c0 c1 c2 c3
  go_wp2_with fail
  refine (IM.out _ (HT.out _ HB4.out) (HS.out _ HB4.out)).mono ?_
  rintro x w5 ⟨rfl, hb5⟩
  have HB5 := Lib.hid (HB4.out.trans (hb5.mono HB4.out.size))
  have K5 := Lib.hid (K4.out.below hb5 K4.out.lt)
  have hlt := K5.out.lt
  obtain ⟨⟨a0, a1⟩, -, -⟩ := K5.out.two
  clear hb5
  go_wp2_with fail
  refine (eqRangeP L U _).mono ?_
  rintro x w6 ⟨rfl, hb6⟩
  have HB6 := Lib.hid ((HB5.out.alloc HB5.out.size (.cells #[.int .i64 L, .int .i64 U] 25)).trans (hb6.mono (HB5.out.alloc HB5.out.size (.cells #[.int .i64 L, .int .i64 U] 25)).size))
  clear hb6
  go_wp2_with fail
  go_ret
  exact ⟨rfl, HB6.out⟩
set_option maxRecDepth 8000 in
set_option maxHeartbeats 2000000 in
theorem exRiskOf (s e m r d y : Int) (w : World) (hT : Tab w) (ea : Addr) (hS : Sen ea w) :
    Calls Tryd.prog 6 #[boV s e m r, .int .i64 d, .int .i64 y] w fun x w' => x = .returned (.bool true) ∧ Below w.heap.size w w' := by
  have SP := Lib.hid (fun W => sRiskOf_any s e m r d y W)
  have IM := Lib.hid (fun W hT hS => riskOf_any ea s e m r d y W hT hS)
  have HT := Lib.hid (fun W (hW : Below w.heap.size w W) => hT.below hW hT.pos)
  have HS := Lib.hid (fun W (hW : Below w.heap.size w W) => hS.below hW hS.pos)
  generalize Rk.val s e m r d y = V at *
  obtain ⟨L, U⟩ := V
  clear hT hS
  have KL := Lib.hid (Blk.new w #[.int .i64 s, .int .i64 e, .int .i64 m, .int .i64 r] 23)
  have HB := Lib.hid ((Below.refl w.heap.size w).alloc (Nat.le_refl _) (.cells #[.int .i64 s, .int .i64 e, .int .i64 m, .int .i64 r] 23))
  go_enter Tryd.func6, Tryd.ntmps6
  go_wp2_with fail
  refine (toBond_any _ _ _ _ _).mono ?_
  rintro x w1 ⟨rfl, hb1⟩
  have HB1 := Lib.hid (HB.out.trans (hb1.mono HB.out.size))
  have KL1 := Lib.hid (KL.out.below hb1 KL.out.lt)
  clear hb1
  go_wp2_with fail
  refine (SP.out _).mono ?_
  rintro x w2 ⟨rfl, hb2⟩
  have HB2 := Lib.hid ((HB1.out.trans (hb2.mono HB1.out.size)).alloc (HB1.out.trans (hb2.mono HB1.out.size)).size (.cells #[.int .i64 L, .int .i64 U] 25))
  have KL2 := Lib.hid ((KL1.out.below hb2 KL1.out.lt).alloc (.cells #[.int .i64 L, .int .i64 U] 25))
  have K1 := Lib.hid (Blk.new w2 #[.int .i64 L, .int .i64 U] 25)
  clear hb2
  go_upto_region 2 with fail
  generalize w2.alloc (.cells #[.int .i64 L, .int .i64 U] 25) = w3 at HB2 KL2 K1 ⊢
  obtain ⟨c0, c1, c2, c3⟩ := KL2.out.four
  go_wp2_with fail
  refine (toBond_any _ _ _ _ _).mono ?_
  rintro x w4 ⟨rfl, hb4⟩
  have HB4 := Lib.hid (HB2.out.trans (hb4.mono HB2.out.size))
  have K4 := Lib.hid (K1.out.below hb4 K1.out.lt)
  clear hb4 c0 c1 c2 c3
  go_wp2_with fail
  refine (IM.out _ (HT.out _ HB4.out) (HS.out _ HB4.out)).mono ?_
  rintro x w5 ⟨rfl, hb5⟩
  have HB5 := Lib.hid (HB4.out.trans (hb5.mono HB4.out.size))
  have K5 := Lib.hid (K4.out.below hb5 K4.out.lt)
  have hlt := K5.out.lt
  obtain ⟨⟨a0, a1⟩, -, -⟩ := K5.out.two
  clear hb5
  go_wp2_with fail
  refine (eqRangeP L U _).mono ?_
  rintro x w6 ⟨rfl, hb6⟩
  have HB6 := Lib.hid ((HB5.out.alloc HB5.out.size (.cells #[.int .i64 L, .int .i64 U] 25)).trans (hb6.mono (HB5.out.alloc HB5.out.size (.cells #[.int .i64 L, .int .i64 U] 25)).size))
  clear hb6
  go_wp2_with fail
  go_ret
  exact ⟨rfl, HB6.out⟩
set_option maxRecDepth 8000 in
set_option maxHeartbeats 2000000 in
theorem exYieldOf (s e m r d y : Int) (w : World) (hT : Tab w) (ea : Addr) (hS : Sen ea w) :
    Calls Tryd.prog 4 #[boV s e m r, .int .i64 d, .int .i64 y] w fun x w' => x = .returned (.bool true) ∧ Below w.heap.size w w' := by
  have SP := Lib.hid (fun W => sYieldOf_any s e m r d y W)
  have IM := Lib.hid (fun W hT hS => yieldOf_any ea s e m r d y W hT hS)
  have HT := Lib.hid (fun W (hW : Below w.heap.size w W) => hT.below hW hT.pos)
  have HS := Lib.hid (fun W (hW : Below w.heap.size w W) => hS.below hW hS.pos)
  generalize Yd.val s e m r d y = V at *
  obtain ⟨L, U⟩ := V
  clear hT hS
  have e1 : (L != L) = false := by simp
  have e2 : (U != U) = false := by simp
  have KL := Lib.hid (Blk.new w #[.int .i64 s, .int .i64 e, .int .i64 m, .int .i64 r] 23)
  have HB := Lib.hid ((Below.refl w.heap.size w).alloc (Nat.le_refl _) (.cells #[.int .i64 s, .int .i64 e, .int .i64 m, .int .i64 r] 23))
  go_enter Tryd.func4, Tryd.ntmps4
  go_wp2_with fail
  refine (toBond_any _ _ _ _ _).mono ?_
  rintro x w1 ⟨rfl, hb1⟩
  have HB1 := Lib.hid (HB.out.trans (hb1.mono HB.out.size))
  have KL1 := Lib.hid (KL.out.below hb1 KL.out.lt)
  clear hb1
  go_wp2_with fail
  refine (SP.out _).mono ?_
  rintro x w2 ⟨rfl, hb2⟩
  have HB2 := Lib.hid (HB1.out.trans (hb2.mono HB1.out.size))
  have KL2 := Lib.hid (KL1.out.below hb2 KL1.out.lt)
  clear hb2
  obtain ⟨c0, c1, c2, c3⟩ := KL2.out.four
  go_wp2_with fail
  refine (toBond_any _ _ _ _ _).mono ?_
  rintro x w4 ⟨rfl, hb4⟩
  have HB4 := Lib.hid (HB2.out.trans (hb4.mono HB2.out.size))
  clear hb4 c0 c1 c2 c3
  go_wp2_with fail
  refine (IM.out _ (HT.out _ HB4.out) (HS.out _ HB4.out)).mono ?_
  rintro x w5 ⟨rfl, hb5⟩
  have HB5 := Lib.hid (HB4.out.trans (hb5.mono HB4.out.size))
  clear hb5
  go_wp2_with fail
  go_ret
  exact ⟨rfl, HB5.out⟩
end Go.Proofs.YtkdooncfchmkfaaDoor
