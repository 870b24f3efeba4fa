/- The walks of the laws of ranges. -/
import Derived.Test.YtcoljkafbpnpnaaDoorRgd
import Derived.Outline
namespace Go.Proofs.YtcoljkafbpnpnaaDoor
open Go.RowKit
theorem Blk.after {W D w' : World} {B b : Nat} {t : TypeId} {cs : Array Value} (h : Blk W b t cs) (hb : Below B D w') (e : D.heap = W.heap) (hB : b < B) : Blk w' b t cs :=
  (hb.block b hB).trans (by rw [e]; exact h)
theorem inB_t {p q n : Int} (hv : Rg.vr p q = true) (h0 : p ≤ n) (h1 : n ≤ q) : inB p q n = true := by unfold inB; rw [hv, btw_t h0 h1]; rfl
theorem tv_form (r : Rg.R) : ∃ x y t, tv r = .tuple #[rV x y, .bool t] := ⟨_, _, _, rfl⟩
set_option maxHeartbeats 400000 in
theorem within_t (m n p q : Int) (w : World) (h0 : p ≤ m) (h1 : n ≤ q) :
    Calls Tryd.prog 22 #[rV m n, rV p q] w fun e w' => e = .returned (.bool true) ∧ Below w.heap.size w w' := by
  go_enter Tryd.func22, Tryd.ntmps22
  go_wp2_with fail
  go_ret
  exact ⟨rfl, ((Below.refl _ _).alloc (Nat.le_refl _) _).alloc (by simp) _⟩
set_option maxHeartbeats 4000000 in
theorem lawAddRange (a : Option Addr) (len cap : Nat) (zs : List Int) (w : World) (h : IsRow .u8 w a len cap zs) (ea : Addr) (hS : Sen ea w) :
    Calls Tryd.prog 3 #[.slice a len cap] w fun e w' => e = .returned (.bool true) ∧ Below w.heap.size w w' := by
  have H := Lib.hid h; clear h
  by_cases hl : 1048576 < (len : Int)
  · go_enter Tryd.func3, Tryd.ntmps3
    go_wp2_with fail
    go_ret
    exact ⟨rfl, Below.refl _ _⟩
  · have hl' := decide_eq_false hl
    clear hl
    go_enter Tryd.func3, Tryd.ntmps3
    go_wp2_with fail
    refine (drawAddR_any _ _ _ _ _ H.out).mono ?_
    rintro e w1 ⟨a, b, c, d, rfl, ⟨a0, a1, b0, b1, c0, c1, d0, d1⟩, hbA⟩
    replace hS := hS.below hbA hS.pos
    rcases good_cases (Rg.good_add a b c d) with ⟨p, q, hV⟩ | hV
    · have HV := Lib.hid (tv_yes hV)
      have W := Rg.add_two hV
      obtain ⟨v1, v2, e1, e2, v3⟩ := W
      obtain ⟨n1, n2, n3⟩ := Rg.vr_iff.1 v1
      obtain ⟨n4, n5, n6⟩ := Rg.vr_iff.1 v2
      obtain ⟨n7, n8, n9⟩ := Rg.vr_iff.1 v3
      have HC := Lib.hid (tv_yes ((Rg.add_comm a b c d).trans hV))
      have I1 := Lib.hid (inB_t (n := a + c) v3 (by omega) (by omega))
      have I2 := Lib.hid (inB_t (n := b + d) v3 (by omega) (by omega))
      have hfin : (q - p == b - a + d - c) = true := by simp; omega
      clear v1 v2 v3 e1 e2
      clear hV
      go_wp2_with fail
      have kA := Blk.new (w1) #[.int .i64 a, .int .i64 b] 24
      replace hbA := hbA.alloc hbA.size (.cells #[.int .i64 a, .int .i64 b] 24)
      replace hS := hS.alloc (.cells #[.int .i64 a, .int .i64 b] 24)
      replace kA := kA.alloc (.cells #[.int .i64 c, .int .i64 d] 24)
      have kB := Blk.new ((w1).alloc (.cells #[.int .i64 a, .int .i64 b] 24)) #[.int .i64 c, .int .i64 d] 24
      replace hbA := hbA.alloc hbA.size (.cells #[.int .i64 c, .int .i64 d] 24)
      replace hS := hS.alloc (.cells #[.int .i64 c, .int .i64 d] 24)
      simp only [World.size_alloc] at kB
      refine (addRange_any ea _ _ _ _ _ hS).mono ?_
      rw [HV.out]
      rintro e w2 ⟨rfl, hb2⟩
      replace kA := kA.below hb2 kA.lt
      replace kB := kB.below hb2 kB.lt
      replace hS := hS.below hb2 hS.pos
      replace hbA := hbA.trans (hb2.mono hbA.size)
      obtain ⟨⟨x_kA, y_kA⟩, _, _⟩ := kA.two
      have lt_kA := kA.lt
      obtain ⟨⟨x_kB, y_kB⟩, _, _⟩ := kB.two
      have lt_kB := kB.lt
      have hs_ := hbA.size
      go_wp2_with fail
      clear x_kA y_kA lt_kA x_kB y_kB lt_kB hs_
      replace kA := kA.alloc (.cells #[.int .i64 p, .int .i64 q] 24)
      replace kB := kB.alloc (.cells #[.int .i64 p, .int .i64 q] 24)
      have kR := Blk.new (w2) #[.int .i64 p, .int .i64 q] 24
      replace hbA := hbA.alloc hbA.size (.cells #[.int .i64 p, .int .i64 q] 24)
      replace hS := hS.alloc (.cells #[.int .i64 p, .int .i64 q] 24)
      refine (sAddRange_any _ _ _ _ _).mono ?_
      rw [HV.out]
      rintro e w3 ⟨rfl, hb3⟩
      replace kA := kA.below hb3 kA.lt
      replace kB := kB.below hb3 kB.lt
      replace kR := kR.below hb3 kR.lt
      replace hS := hS.below hb3 hS.pos
      replace hbA := hbA.trans (hb3.mono hbA.size)
      obtain ⟨⟨x_kA, y_kA⟩, _, _⟩ := kA.two
      have lt_kA := kA.lt
      obtain ⟨⟨x_kB, y_kB⟩, _, _⟩ := kB.two
      have lt_kB := kB.lt
      obtain ⟨⟨x_kR, y_kR⟩, _, _⟩ := kR.two
      have lt_kR := kR.lt
      have hs_ := hbA.size
      go_wp2_with fail
      clear x_kA y_kA lt_kA x_kB y_kB lt_kB x_kR y_kR lt_kR hs_
      replace kA := kA.alloc (.cells #[.int .i64 p, .int .i64 q] 24)
      replace kB := kB.alloc (.cells #[.int .i64 p, .int .i64 q] 24)
      replace kR := kR.alloc (.cells #[.int .i64 p, .int .i64 q] 24)
      have kW := Blk.new (w3) #[.int .i64 p, .int .i64 q] 24
      replace hbA := hbA.alloc hbA.size (.cells #[.int .i64 p, .int .i64 q] 24)
      replace hS := hS.alloc (.cells #[.int .i64 p, .int .i64 q] 24)
      refine (addRange_any ea _ _ _ _ _ hS).mono ?_
      rw [HC.out]
      rintro e w4 ⟨rfl, hb4⟩
      replace kA := kA.below hb4 kA.lt
      replace kB := kB.below hb4 kB.lt
      replace kR := kR.below hb4 kR.lt
      replace kW := kW.below hb4 kW.lt
      replace hS := hS.below hb4 hS.pos
      replace hbA := hbA.trans (hb4.mono hbA.size)
      obtain ⟨⟨x_kA, y_kA⟩, _, _⟩ := kA.two
      have lt_kA := kA.lt
      obtain ⟨⟨x_kB, y_kB⟩, _, _⟩ := kB.two
      have lt_kB := kB.lt
      obtain ⟨⟨x_kR, y_kR⟩, _, _⟩ := kR.two
      have lt_kR := kR.lt
      obtain ⟨⟨x_kW, y_kW⟩, _, _⟩ := kW.two
      have lt_kW := kW.lt
      have hs_ := hbA.size
      go_wp2_with fail
      clear x_kA y_kA lt_kA x_kB y_kB lt_kB x_kR y_kR lt_kR x_kW y_kW lt_kW hs_
      replace kA := kA.alloc (.cells #[.int .i64 p, .int .i64 q] 24)
      replace kB := kB.alloc (.cells #[.int .i64 p, .int .i64 q] 24)
      replace kR := kR.alloc (.cells #[.int .i64 p, .int .i64 q] 24)
      replace kW := kW.alloc (.cells #[.int .i64 p, .int .i64 q] 24)
      have kO := Blk.new (w4) #[.int .i64 p, .int .i64 q] 24
      replace hbA := hbA.alloc hbA.size (.cells #[.int .i64 p, .int .i64 q] 24)
      replace hS := hS.alloc (.cells #[.int .i64 p, .int .i64 q] 24)
      refine (inR_any _ _ _ _).mono ?_
      rw [I1.out]
      rintro e w5 ⟨rfl, hb5⟩
      replace kA := kA.below hb5 kA.lt
      replace kB := kB.below hb5 kB.lt
      replace kR := kR.below hb5 kR.lt
      replace kW := kW.below hb5 kW.lt
      replace kO := kO.below hb5 kO.lt
      replace hS := hS.below hb5 hS.pos
      replace hbA := hbA.trans (hb5.mono hbA.size)
      obtain ⟨⟨x_kA, y_kA⟩, _, _⟩ := kA.two
      have lt_kA := kA.lt
      obtain ⟨⟨x_kB, y_kB⟩, _, _⟩ := kB.two
      have lt_kB := kB.lt
      obtain ⟨⟨x_kR, y_kR⟩, _, _⟩ := kR.two
      have lt_kR := kR.lt
      obtain ⟨⟨x_kW, y_kW⟩, _, _⟩ := kW.two
      have lt_kW := kW.lt
      obtain ⟨⟨x_kO, y_kO⟩, _, _⟩ := kO.two
      have lt_kO := kO.lt
      have hs_ := hbA.size
      go_wp2_with fail
      clear x_kA y_kA lt_kA x_kB y_kB lt_kB x_kR y_kR lt_kR x_kW y_kW lt_kW x_kO y_kO lt_kO hs_
      refine (inR_any _ _ _ _).mono ?_
      rw [I2.out]
      rintro e w6 ⟨rfl, hb6⟩
      replace kA := kA.below hb6 kA.lt
      replace kB := kB.below hb6 kB.lt
      replace kR := kR.below hb6 kR.lt
      replace kW := kW.below hb6 kW.lt
      replace kO := kO.below hb6 kO.lt
      replace hS := hS.below hb6 hS.pos
      replace hbA := hbA.trans (hb6.mono hbA.size)
      obtain ⟨⟨x_kA, y_kA⟩, _, _⟩ := kA.two
      have lt_kA := kA.lt
      obtain ⟨⟨x_kB, y_kB⟩, _, _⟩ := kB.two
      have lt_kB := kB.lt
      obtain ⟨⟨x_kR, y_kR⟩, _, _⟩ := kR.two
      have lt_kR := kR.lt
      obtain ⟨⟨x_kW, y_kW⟩, _, _⟩ := kW.two
      have lt_kW := kW.lt
      obtain ⟨⟨x_kO, y_kO⟩, _, _⟩ := kO.two
      have lt_kO := kO.lt
      have hs_ := hbA.size
      go_wp2_with fail
      go_ret
      exact ⟨ret_bool (by simp), by first | exact hbA | exact hbA.alloc hs_ _⟩
    · have HV := Lib.hid hV
      go_wp2_with fail
      have kA := Blk.new (w1) #[.int .i64 a, .int .i64 b] 24
      replace hbA := hbA.alloc hbA.size (.cells #[.int .i64 a, .int .i64 b] 24)
      replace hS := hS.alloc (.cells #[.int .i64 a, .int .i64 b] 24)
      replace kA := kA.alloc (.cells #[.int .i64 c, .int .i64 d] 24)
      have kB := Blk.new ((w1).alloc (.cells #[.int .i64 a, .int .i64 b] 24)) #[.int .i64 c, .int .i64 d] 24
      replace hbA := hbA.alloc hbA.size (.cells #[.int .i64 c, .int .i64 d] 24)
      replace hS := hS.alloc (.cells #[.int .i64 c, .int .i64 d] 24)
      simp only [World.size_alloc] at kB
      refine (addRange_any ea _ _ _ _ _ hS).mono ?_
      rw [tv_no hV]
      rintro e w2 ⟨rfl, hb2⟩
      replace kA := kA.below hb2 kA.lt
      replace kB := kB.below hb2 kB.lt
      replace hS := hS.below hb2 hS.pos
      replace hbA := hbA.trans (hb2.mono hbA.size)
      obtain ⟨⟨x_kA, y_kA⟩, _, _⟩ := kA.two
      have lt_kA := kA.lt
      obtain ⟨⟨x_kB, y_kB⟩, _, _⟩ := kB.two
      have lt_kB := kB.lt
      have hs_ := hbA.size
      go_wp2_with fail
      clear x_kA y_kA lt_kA x_kB y_kB lt_kB hs_
      replace kA := kA.alloc (.cells #[.int .i64 0, .int .i64 0] 24)
      replace kB := kB.alloc (.cells #[.int .i64 0, .int .i64 0] 24)
      have kR := Blk.new (w2) #[.int .i64 0, .int .i64 0] 24
      replace hbA := hbA.alloc hbA.size (.cells #[.int .i64 0, .int .i64 0] 24)
      replace hS := hS.alloc (.cells #[.int .i64 0, .int .i64 0] 24)
      refine (sAddRange_any _ _ _ _ _).mono ?_
      rw [tv_no hV]
      rintro e w3 ⟨rfl, hb3⟩
      replace kA := kA.below hb3 kA.lt
      replace kB := kB.below hb3 kB.lt
      replace kR := kR.below hb3 kR.lt
      replace hS := hS.below hb3 hS.pos
      replace hbA := hbA.trans (hb3.mono hbA.size)
      obtain ⟨⟨x_kA, y_kA⟩, _, _⟩ := kA.two
      have lt_kA := kA.lt
      obtain ⟨⟨x_kB, y_kB⟩, _, _⟩ := kB.two
      have lt_kB := kB.lt
      obtain ⟨⟨x_kR, y_kR⟩, _, _⟩ := kR.two
      have lt_kR := kR.lt
      have hs_ := hbA.size
      go_wp2_with fail
      go_ret
      exact ⟨ret_bool (by simp), by first | exact hbA | exact hbA.alloc hs_ _⟩
end Go.Proofs.YtcoljkafbpnpnaaDoor
