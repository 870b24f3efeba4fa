/- The laws of positions and gains. -/
import Derived.Test.YtoledkecgfhdbaaMkE
namespace Go.Proofs.Ytoledkecgfhdbaa
open Go.RowKit
theorem neq_self (x : Int) : (x != x) = false := by simp
theorem eq_self' (x : Int) : (x == x) = true := by simp
theorem bneq_self (x : Bool) : (x != x) = false := by simp
theorem beq_self' (x : Bool) : (x == x) = true := by simp
set_option maxHeartbeats 4000000 in
theorem lawWorthOf (a : Option Addr) (len cap : Nat) (zs : List Int) (w : World) (h : IsRow .u8 w a len cap zs) :
    Calls Try.prog 3 #[.slice a len cap] w fun e w' => e = .returned (.bool true) ∧ Below w.heap.size w w' := by
  have H := Lib.hid h; clear h
  by_cases hl : 1048576 < (len : Int)
  · go_enter Try.func3, Try.ntmps3
    go_wp2_with fail
    go_ret
    exact ⟨rfl, Below.refl _ _⟩
  · have hl' := decide_eq_false hl
    clear hl
    go_enter Try.func3, Try.ntmps3
    go_wp2_with fail
    refine (drawWorth_any _ _ _ _ _ H.out).mono ?_
    rintro e w1 ⟨m, c, a', rfl, ⟨mm0, mm1⟩, hb⟩
    have K := ((Kp.refl w).below hb).new 24 (mkA (m, c, a'))
    clear hb
    obtain ⟨x0, x1, x2⟩ := K.s1
    have IM := Lib.hid (fun m W => worthOf_any m c a' W)
    have SM := Lib.hid (fun W => sWorthOf_any m c a' W)
    have W0 : IntKind.i64.wrap (2 * m) = 2 * m := IntWalk.i64_in _ (by omega)
    cases h : Mk.one (m, c, a') with
    | false =>
      have HV := Lib.hid (Mk.wv_no h)
      have H1 := Lib.hid h; clear h
      go_wp2_with fail
      refine (IM.out _ _).mono ?_
      rw [HV.out, H1.out]
      rintro e w2 ⟨rfl, hb⟩
      replace K := K.below hb
      clear hb x0 x1 x2
      obtain ⟨x0, x1, x2⟩ := K.s1
      go_wp2_with fail
      refine (SM.out _).mono ?_
      rw [HV.out, H1.out]
      rintro e w3 ⟨rfl, hb⟩
      replace K := K.below hb
      clear hb x0 x1 x2
      go_wp2_with fail
      go_ret
      exact ⟨rfl, K.1⟩
    | true =>
      have HV := Lib.hid (Mk.wv_yes h)
      obtain ⟨e0, e1⟩ := Mk.wor_bd h
      obtain ⟨⟨m0, m1⟩, ⟨c0, c1⟩, a0, a1⟩ := Mk.one_iff.1 h
      have H1 := Lib.hid h; clear h
      have W1 : IntKind.i64.wrap (m * (c + a')) = m * (c + a') := IntWalk.i64_in _ (by omega)
      have W2 : IntKind.i64.wrap (2 * (m * (c + a'))) = 2 * (m * (c + a')) := IntWalk.i64_in _ (by omega)
      have Q1 := neq_self (m * (c + a'))
      have Q2 := eq_self' (m * (c + a'))
      have Q3 := eq_self' (2 * (m * (c + a')))
      cases h2 : Mk.one (2 * m, c, a') with
      | false =>
        have HU := Lib.hid (Mk.wv_no h2)
        have H2 := Lib.hid h2; clear h2
        go_wp2_with fail
        refine (IM.out _ _).mono ?_
        rw [HV.out, H1.out]
        rintro e w2 ⟨rfl, hb⟩
        replace K := K.below hb
        clear hb x0 x1 x2
        obtain ⟨x0, x1, x2⟩ := K.s1
        go_wp2_with fail
        refine (SM.out _).mono ?_
        rw [HV.out, H1.out]
        rintro e w3 ⟨rfl, hb⟩
        replace K := K.below hb
        clear hb x0 x1 x2
        obtain ⟨x0, x1, x2⟩ := K.s1
        go_wp2_with fail
        refine (IM.out _ _).mono ?_
        rw [HU.out, H2.out]
        rintro e w4 ⟨rfl, hb⟩
        replace K := K.below hb
        clear hb x0 x1 x2
        obtain ⟨x0, x1, x2⟩ := K.s1
        go_wp2_with fail
        go_ret
        exact ⟨rfl, K.1⟩
      | true =>
        have HU := Lib.hid ((Mk.wv_yes h2).trans (show 2 * m * (c + a') = 2 * (m * (c + a')) from Int.mul_assoc 2 m (c + a')))
        have H2 := Lib.hid h2; clear h2
        go_wp2_with fail
        refine (IM.out _ _).mono ?_
        rw [HV.out, H1.out]
        rintro e w2 ⟨rfl, hb⟩
        replace K := K.below hb
        clear hb x0 x1 x2
        obtain ⟨x0, x1, x2⟩ := K.s1
        go_wp2_with fail
        refine (SM.out _).mono ?_
        rw [HV.out, H1.out]
        rintro e w3 ⟨rfl, hb⟩
        replace K := K.below hb
        clear hb x0 x1 x2
        obtain ⟨x0, x1, x2⟩ := K.s1
        go_wp2_with fail
        refine (IM.out _ _).mono ?_
        rw [HU.out, H2.out]
        rintro e w4 ⟨rfl, hb⟩
        replace K := K.below hb
        clear hb x0 x1 x2
        obtain ⟨x0, x1, x2⟩ := K.s1
        go_wp2_with fail
        go_ret
        exact ⟨rfl, K.1⟩
theorem Gn.sum (m c a n d b x y : Int) : m * (b - a + x) + m * (d - c) + ((n - m) * (d + b) - y) = n * (d + b) - m * (c + a) + m * x - y := by
  simp only [Int.mul_add, Int.mul_sub, Int.sub_mul]
  omega
theorem Kp.s5 {w W : World} {x y z u : Nat × TypeId × Array Value} {l : List (Nat × TypeId × Array Value)} {b : Nat} {T : TypeId} {m c a : Int} (k : Kp w (x :: y :: z :: u :: (b, T, mkA (m, c, a)) :: l) W) : MkS b m c a W := (k.2 (b, T, mkA (m, c, a)) (by simp) : Blk W b T (mkA (m, c, a))).three.1
theorem Kp.s4 {w W : World} {x y z : Nat × TypeId × Array Value} {l : List (Nat × TypeId × Array Value)} {b : Nat} {T : TypeId} {m c a : Int} (k : Kp w (x :: y :: z :: (b, T, mkA (m, c, a)) :: l) W) : MkS b m c a W := (k.2 (b, T, mkA (m, c, a)) (by simp) : Blk W b T (mkA (m, c, a))).three.1
set_option maxRecDepth 8000 in
set_option maxHeartbeats 8000000 in
theorem lawGainBetween (a : Option Addr) (len cap : Nat) (zs : List Int) (w : World) (h : IsRow .u8 w a len cap zs) :
    Calls Try.prog 6 #[.slice a len cap] w fun e w' => e = .returned (.bool true) ∧ Below w.heap.size w w' := by
  have H := Lib.hid h; clear h
  by_cases hl : 1048576 < (len : Int)
  · go_enter Try.func6, Try.ntmps6
    go_wp2_with fail
    go_ret
    exact ⟨rfl, Below.refl _ _⟩
  · have hl' := decide_eq_false hl
    clear hl
    go_enter Try.func6, Try.ntmps6
    go_wp2_with fail
    refine (drawGainB_any _ _ _ _ _ H.out).mono ?_
    rintro e w1 ⟨m, c, a', n, d, b', x, y, rfl, -, ⟨hx0, hx1⟩, ⟨hy0, hy1⟩, hb⟩
    have K := (((Kp.refl w).below hb).new 24 (mkA (m, c, a'))).new 24 (mkA (n, d, b'))
    simp only [World.size_alloc] at K
    clear hb
    obtain ⟨y0, y1, y2⟩ := K.s1
    obtain ⟨x0, x1, x2⟩ := K.s2
    have IM := Lib.hid (fun x y W => gain_any m c a' n d b' x y W)
    have SM := Lib.hid (fun W => sGain_any m c a' n d b' x y W)
    cases h : Gn.ok (m, c, a') (n, d, b') x y with
    | false =>
      have HV := Lib.hid (Gn.gain_no h)
      have H1 := Lib.hid h; clear h
      go_wp2_with fail
      refine (IM.out _ _ _).mono ?_
      rw [HV.out, H1.out]
      rintro e w2 ⟨rfl, hb⟩
      replace K := K.below hb
      clear hb x0 x1 x2 y0 y1 y2
      obtain ⟨y0, y1, y2⟩ := K.s1
      obtain ⟨x0, x1, x2⟩ := K.s2
      go_wp2_with fail
      refine (SM.out _).mono ?_
      rw [HV.out, H1.out]
      rintro e w3 ⟨rfl, hb⟩
      replace K := K.below hb
      clear hb x0 x1 x2 y0 y1 y2
      go_wp2_with fail
      go_ret
      exact ⟨rfl, K.1⟩
    | true =>
      have HV := Lib.hid (Gn.gain_yes h)
      obtain ⟨ha, hb', -, -⟩ := Gn.iff.1 h
      have h0 : Gn.ok (m, c, a') (n, d, b') 0 0 = true := Gn.iff.2 ⟨ha, hb', by decide, by decide⟩
      have HV0 := Lib.hid ((Gn.gain_yes h0).trans (show n * (d + b') - m * (c + a') + m * 0 - 0 = n * (d + b') - m * (c + a') by simp))
      have HA := Lib.hid (Mk.wv_yes ha)
      have HB := Lib.hid (Mk.wv_yes hb')
      have WA := Lib.hid (fun W => worthOf_any m c a' W)
      have WB := Lib.hid (fun W => worthOf_any n d b' W)
      obtain ⟨⟨m0, m1⟩, -, -, -, -, -, ⟨p0, p1⟩, ⟨q0, q1⟩, -, -, -, ⟨e3, e3'⟩, ⟨e4, e4'⟩, e5, e5'⟩ := Gn.bd h
      have H1 := Lib.hid h; have H0 := Lib.hid h0; have G1 := Lib.hid ha; have G2 := Lib.hid hb'
      clear h h0 ha hb'
      generalize hS : m * (c + a') = S at *
      generalize hT : n * (d + b') = T at *
      generalize hM : m * x = M at *
      have RM := Lib.hid hM
      clear hS hT
      have W0 : IntKind.i64.wrap (T - S) = T - S := IntWalk.i64_in _ (by omega)
      have W1 : IntKind.i64.wrap (T - S + M) = T - S + M := IntWalk.i64_in _ (by omega)
      have W2 : IntKind.i64.wrap (T - S + M - y) = T - S + M - y := IntWalk.i64_in _ (by omega)
      have W3 : IntKind.i64.wrap M = M := IntWalk.i64_in _ (by omega)
      have Q1 := neq_self (T - S + M - y)
      have Q2 := eq_self' (T - S + M - y)
      have Q3 := eq_self' (T - S)
      go_wp2_with fail
      refine (IM.out _ _ _).mono ?_
      rw [HV.out, H1.out]
      rintro e w2 ⟨rfl, hb⟩
      replace K := K.below hb
      clear hb x0 x1 x2 y0 y1 y2
      obtain ⟨y0, y1, y2⟩ := K.s1
      obtain ⟨x0, x1, x2⟩ := K.s2
      go_wp2_with fail
      refine (SM.out _).mono ?_
      rw [HV.out, H1.out]
      rintro e w3 ⟨rfl, hb⟩
      replace K := K.below hb
      clear hb x0 x1 x2 y0 y1 y2
      obtain ⟨y0, y1, y2⟩ := K.s1
      obtain ⟨x0, x1, x2⟩ := K.s2
      go_wp2_with fail
      refine (WA.out _).mono ?_
      rw [HA.out, G1.out]
      rintro e w4 ⟨rfl, hb⟩
      replace K := K.below hb
      clear hb x0 x1 x2 y0 y1 y2
      obtain ⟨y0, y1, y2⟩ := K.s1
      obtain ⟨x0, x1, x2⟩ := K.s2
      go_wp2_with fail
      refine (WB.out _).mono ?_
      rw [HB.out, G2.out]
      rintro e w5 ⟨rfl, hb⟩
      replace K := K.below hb
      clear hb x0 x1 x2 y0 y1 y2
      obtain ⟨y0, y1, y2⟩ := K.s1
      obtain ⟨x0, x1, x2⟩ := K.s2
      go_wp2_with fail
      refine (IM.out _ _ _).mono ?_
      rw [HV0.out, H0.out]
      rintro e w6 ⟨rfl, hb⟩
      replace K := K.below hb
      clear hb x0 x1 x2 y0 y1 y2
      obtain ⟨y0, y1, y2⟩ := K.s1
      obtain ⟨x0, x1, x2⟩ := K.s2
      go_wp2_with fail
      go_ret
      exact ⟨rfl, K.1⟩
set_option maxRecDepth 8000 in
set_option maxHeartbeats 8000000 in
theorem lawExplainGain (a : Option Addr) (len cap : Nat) (zs : List Int) (w : World) (h : IsRow .u8 w a len cap zs) :
    Calls Try.prog 4 #[.slice a len cap] w fun e w' => e = .returned (.bool true) ∧ Below w.heap.size w w' := by
  have H := Lib.hid h; clear h
  by_cases hl : 1048576 < (len : Int)
  · go_enter Try.func4, Try.ntmps4
    go_wp2_with fail
    go_ret
    exact ⟨rfl, Below.refl _ _⟩
  · have hl' := decide_eq_false hl
    clear hl
    go_enter Try.func4, Try.ntmps4
    go_wp2_with fail
    refine (drawGain_any _ _ _ _ _ H.out).mono ?_
    rintro e w1 ⟨m, c, a', n, d, b', x, y, rfl, -, ⟨hx0, hx1⟩, ⟨hy0, hy1⟩, hb⟩
    have K := (((Kp.refl w).below hb).new 24 (mkA (m, c, a'))).new 24 (mkA (n, d, b'))
    simp only [World.size_alloc] at K
    clear hb
    obtain ⟨y0, y1, y2⟩ := K.s1
    obtain ⟨x0, x1, x2⟩ := K.s2
    have IM := Lib.hid (fun x y W => explain_any m c a' n d b' x y W)
    have SM := Lib.hid (fun W => sExplain_any m c a' n d b' x y W)
    have GM := Lib.hid (fun W => gain_any m c a' n d b' x y W)
    cases h : Gn.ok (m, c, a') (n, d, b') x y with
    | false =>
      have HV := Lib.hid (Gn.parts_no h)
      have H1 := Lib.hid h; clear h
      go_wp2_with fail
      refine (IM.out _ _ _).mono ?_
      rw [HV.out, H1.out]
      rintro e w2 ⟨rfl, hb⟩
      replace K := K.below hb
      replace K := K.new 32 (mkA (0, 0, 0))
      clear hb x0 x1 x2 y0 y1 y2
      obtain ⟨z0, z1, z2⟩ := K.s1
      obtain ⟨y0, y1, y2⟩ := K.s2
      obtain ⟨x0, x1, x2⟩ := K.s3
      go_wp2_with fail
      refine (SM.out _).mono ?_
      rw [HV.out, H1.out]
      rintro e w3 ⟨rfl, hb⟩
      replace K := K.below hb
      replace K := K.new 32 (mkA (0, 0, 0))
      clear hb x0 x1 x2 y0 y1 y2 z0 z1 z2
      obtain ⟨u0, u1, u2⟩ := K.s1
      obtain ⟨z0, z1, z2⟩ := K.s2
      go_wp2_with fail
      go_ret
      exact ⟨rfl, K.1⟩
    | true =>
      have HV := Lib.hid (Gn.parts_yes h)
      have HG := Lib.hid (Gn.gain_yes h)
      obtain ⟨⟨m0, m1⟩, ⟨c0, c1⟩, ⟨a0, a1⟩, ⟨n0, n1⟩, ⟨d0, d1⟩, ⟨b0, b1⟩, ⟨p0, p1⟩, ⟨q0, q1⟩, ⟨e0, e0'⟩, ⟨e1, e1'⟩, ⟨e2, e2'⟩, ⟨e3, e3'⟩, ⟨e4, e4'⟩, e5, e5'⟩ := Gn.bd h
      have H1 := Lib.hid h; clear h
      have HS := Lib.hid (Gn.sum m c a' n d b' x y)
      generalize hA : m * (b' - a' + x) = A at *
      generalize hB : m * (d - c) = B at *
      generalize hC : (n - m) * (d + b') = C at *
      generalize hD : n * (d + b') - m * (c + a') + m * x - y = G at *
      clear hA hB hC hD
      have W0 : IntKind.i64.wrap (A + B) = A + B := IntWalk.i64_in _ (by omega)
      have W1 : IntKind.i64.wrap (A + B + (C - y)) = A + B + (C - y) := IntWalk.i64_in _ (by omega)
      have Q1 := neq_self A
      have Q2 := neq_self B
      have Q3 := neq_self (C - y)
      have Q4 : (A + B + (C - y) == G) = true := by rw [HS.out]; simp
      go_wp2_with fail
      refine (IM.out _ _ _).mono ?_
      rw [HV.out, H1.out]
      rintro e w2 ⟨rfl, hb⟩
      replace K := K.below hb
      replace K := K.new 32 (mkA (A, B, C - y))
      clear hb x0 x1 x2 y0 y1 y2
      obtain ⟨z0, z1, z2⟩ := K.s1
      obtain ⟨y0, y1, y2⟩ := K.s2
      obtain ⟨x0, x1, x2⟩ := K.s3
      go_wp2_with fail
      refine (SM.out _).mono ?_
      rw [HV.out, H1.out]
      rintro e w3 ⟨rfl, hb⟩
      replace K := K.below hb
      replace K := K.new 32 (mkA (A, B, C - y))
      clear hb x0 x1 x2 y0 y1 y2 z0 z1 z2
      obtain ⟨u0, u1, u2⟩ := K.s1
      obtain ⟨z0, z1, z2⟩ := K.s2
      obtain ⟨y0, y1, y2⟩ := K.s3
      obtain ⟨x0, x1, x2⟩ := K.s4
      go_wp2_with fail
      refine (GM.out _).mono ?_
      rw [HG.out, H1.out]
      rintro e w4 ⟨rfl, hb⟩
      replace K := K.below hb
      clear hb x0 x1 x2 y0 y1 y2 z0 z1 z2 u0 u1 u2
      obtain ⟨u0, u1, u2⟩ := K.s1
      obtain ⟨z0, z1, z2⟩ := K.s2
      obtain ⟨y0, y1, y2⟩ := K.s3
      go_wp2_with fail
      go_ret
      exact ⟨rfl, K.1⟩
set_option maxRecDepth 8000 in
set_option maxHeartbeats 8000000 in
theorem lawExplainGainSame (a : Option Addr) (len cap : Nat) (zs : List Int) (w : World) (h : IsRow .u8 w a len cap zs) :
    Calls Try.prog 5 #[.slice a len cap] w fun e w' => e = .returned (.bool true) ∧ Below w.heap.size w w' := by
  have H := Lib.hid h; clear h
  by_cases hl : 1048576 < (len : Int)
  · go_enter Try.func5, Try.ntmps5
    go_wp2_with fail
    go_ret
    exact ⟨rfl, Below.refl _ _⟩
  · have hl' := decide_eq_false hl
    clear hl
    go_enter Try.func5, Try.ntmps5
    go_wp2_with fail
    refine (drawGain_any _ _ _ _ _ H.out).mono ?_
    rintro e w1 ⟨m, c, a', n, d, b', x, y, rfl, -, ⟨hx0, hx1⟩, ⟨hy0, hy1⟩, hb⟩
    have K := (((Kp.refl w).below hb).new 24 (mkA (m, c, a'))).new 24 (mkA (n, d, b'))
    simp only [World.size_alloc] at K
    clear hb
    obtain ⟨y0, y1, y2⟩ := K.s1
    obtain ⟨x0, x1, x2⟩ := K.s2
    have IM := Lib.hid (fun m c a n d b x y W => explain_any m c a n d b x y W)
    have SM := Lib.hid (fun W => sExplain_any m c a' n d b' x y W)
    cases h : Gn.ok (m, c, a') (n, d, b') x y with
    | false =>
      have HV := Lib.hid (Gn.parts_no h)
      have H1 := Lib.hid h; clear h
      go_wp2_with fail
      refine (IM.out _ _ _ _ _ _ _ _ _).mono ?_
      rw [HV.out, H1.out]
      rintro e w2 ⟨rfl, hb⟩
      replace K := K.below hb
      replace K := K.new 32 (mkA (0, 0, 0))
      clear hb x0 x1 x2 y0 y1 y2
      obtain ⟨z0, z1, z2⟩ := K.s1
      obtain ⟨y0, y1, y2⟩ := K.s2
      obtain ⟨x0, x1, x2⟩ := K.s3
      go_wp2_with fail
      refine (SM.out _).mono ?_
      rw [HV.out, H1.out]
      rintro e w3 ⟨rfl, hb⟩
      replace K := K.below hb
      replace K := K.new 32 (mkA (0, 0, 0))
      clear hb x0 x1 x2 y0 y1 y2 z0 z1 z2
      obtain ⟨u0, u1, u2⟩ := K.s1
      obtain ⟨z0, z1, z2⟩ := K.s2
      go_wp2_with fail
      go_ret
      exact ⟨rfl, K.1⟩
    | true =>
      have HV := Lib.hid (Gn.parts_yes h)
      obtain ⟨ha, hb', hx, -⟩ := Gn.iff.1 h
      have hs : Gn.ok (m, c, a') (m, c, a') 0 0 = true := Gn.iff.2 ⟨ha, ha, by decide, by decide⟩
      have HS := Lib.hid ((Gn.parts_yes hs).trans (show (m * (a' - a' + 0), m * (c - c), (m - m) * (c + a') - 0) = ((0 : Int), (0 : Int), (0 : Int)) by simp))
      have HSk := Lib.hid hs
      have hk : Gn.ok (m, c, a') (m, d, b') x 0 = true := Gn.iff.2 ⟨ha, Mk.one_iff.2 ⟨(Mk.one_iff.1 ha).1, (Mk.one_iff.1 hb').2⟩, hx, by decide⟩
      have HK := Lib.hid ((Gn.parts_yes hk).trans (show (m * (b' - a' + x), m * (d - c), (m - m) * (d + b') - 0) = (m * (b' - a' + x), m * (d - c), (0 : Int)) by simp))
      have HKk := Lib.hid hk
      have H1 := Lib.hid h; clear h ha hb' hx hs hk
      generalize hA : m * (b' - a' + x) = A at *
      generalize hB : m * (d - c) = B at *
      generalize hC : (n - m) * (d + b') = C at *
      clear hA hB hC
      have Q1 := neq_self A
      have Q2 := neq_self B
      have Q3 := neq_self (C - y)
      have Q4 := eq_self' A
      have Q5 := eq_self' B
      go_wp2_with fail
      refine (IM.out _ _ _ _ _ _ _ _ _).mono ?_
      rw [HV.out, H1.out]
      rintro e w2 ⟨rfl, hb⟩
      replace K := K.below hb
      replace K := K.new 32 (mkA (A, B, C - y))
      clear hb x0 x1 x2 y0 y1 y2
      obtain ⟨z0, z1, z2⟩ := K.s1
      obtain ⟨y0, y1, y2⟩ := K.s2
      obtain ⟨x0, x1, x2⟩ := K.s3
      go_wp2_with fail
      refine (SM.out _).mono ?_
      rw [HV.out, H1.out]
      rintro e w3 ⟨rfl, hb⟩
      replace K := K.below hb
      replace K := K.new 32 (mkA (A, B, C - y))
      clear hb x0 x1 x2 y0 y1 y2 z0 z1 z2
      obtain ⟨u0, u1, u2⟩ := K.s1
      obtain ⟨z0, z1, z2⟩ := K.s2
      obtain ⟨y0, y1, y2⟩ := K.s3
      obtain ⟨x0, x1, x2⟩ := K.s4
      go_wp2_with fail
      refine (IM.out _ _ _ _ _ _ _ _ _).mono ?_
      rw [HS.out, HSk.out]
      rintro e w4 ⟨rfl, hb⟩
      replace K := K.below hb
      replace K := K.new 32 (mkA (0, 0, 0))
      clear hb x0 x1 x2 y0 y1 y2 z0 z1 z2 u0 u1 u2
      obtain ⟨v0, v1, v2⟩ := K.s1
      obtain ⟨u0, u1, u2⟩ := K.s2
      obtain ⟨z0, z1, z2⟩ := K.s3
      obtain ⟨y0, y1, y2⟩ := K.s4
      obtain ⟨x0, x1, x2⟩ := K.s5
      go_wp2_with fail
      refine (IM.out _ _ _ _ _ _ _ _ _).mono ?_
      rw [HK.out, HKk.out]
      rintro e w5 ⟨rfl, hb⟩
      replace K := K.below hb
      replace K := K.new 32 (mkA (A, B, 0))
      clear hb x0 x1 x2 y0 y1 y2 z0 z1 z2 u0 u1 u2 v0 v1 v2
      obtain ⟨t0, t1, t2⟩ := K.s1
      obtain ⟨v0, v1, v2⟩ := K.s2
      obtain ⟨u0, u1, u2⟩ := K.s3
      obtain ⟨z0, z1, z2⟩ := K.s4
      go_wp2_with fail
      go_ret
      exact ⟨rfl, K.1⟩
set_option maxHeartbeats 1000000 in
theorem toMark_any (p : Tri) (w : World) :
    Calls Try.prog 26 #[triV p] w fun e w' => e = .returned (triV p) ∧ Below w.heap.size w w' := by
  obtain ⟨s, r, t⟩ := p
  go_enter Try.func26, Try.ntmps26
  go_wp2
  refine bodyPost_ret (v := triV (s, r, t)) (by simp [results, Try.results26, go_sem]) rfl ⟨rfl, ?_⟩
  repeat (refine Below.setCell ?_ (by simp <;> omega) _)
  exact (((Below.refl _ _).alloc (Nat.le_refl _) _).alloc (by simp) _).alloc (by simp; omega) _
set_option maxHeartbeats 1000000 in
theorem exWorthOf (m c a : Int) (w : World) :
    Calls Try.prog 9 #[triV (m, c, a)] w fun e w' => e = .returned (.bool true) ∧ Below w.heap.size w w' := by
  have K := (Kp.refl w).new 38 (mkA (m, c, a))
  obtain ⟨x0, x1, x2⟩ := K.s1
  have TM := Lib.hid (fun W => toMark_any (m, c, a) W)
  have IM := Lib.hid (fun W => worthOf_any m c a W)
  have SM := Lib.hid (fun W => sWorthOf_any m c a W)
  have Q1 := neq_self (Mk.wv (m, c, a))
  have Q2 := bneq_self (Mk.one (m, c, a))
  go_enter Try.func9, Try.ntmps9
  go_wp2_with fail
  refine (TM.out _).mono ?_
  rintro e w1 ⟨rfl, hb⟩
  replace K := K.below hb
  clear hb x0 x1 x2
  obtain ⟨x0, x1, x2⟩ := K.s1
  go_wp2_with fail
  refine (SM.out _).mono ?_
  rintro e w2 ⟨rfl, hb⟩
  replace K := K.below hb
  clear hb x0 x1 x2
  obtain ⟨x0, x1, x2⟩ := K.s1
  go_wp2_with fail
  refine (TM.out _).mono ?_
  rintro e w3 ⟨rfl, hb⟩
  replace K := K.below hb
  clear hb x0 x1 x2
  obtain ⟨x0, x1, x2⟩ := K.s1
  go_wp2_with fail
  refine (IM.out _).mono ?_
  rintro e w4 ⟨rfl, hb⟩
  replace K := K.below hb
  clear hb x0 x1 x2
  obtain ⟨x0, x1, x2⟩ := K.s1
  go_wp2_with fail
  go_ret
  exact ⟨rfl, K.1⟩
end Go.Proofs.Ytoledkecgfhdbaa
