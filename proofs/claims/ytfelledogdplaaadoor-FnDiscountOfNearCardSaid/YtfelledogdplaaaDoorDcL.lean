/- The laws of discounts. -/
import Derived.Test.YtfelledogdplaaaDoorDcM
import Derived.Test.YtfelledogdplaaaDoorDcD
namespace Go.Proofs.YtfelledogdplaaaDoor
open Go.RowKit
theorem Dc.more_any (a : Addr) {y p d n L U : Int} (h : Dc.ok y p d n = true) (hv : (L, U) = Dc.val y p d n) (A : Int) (w : World) (hA : n ≤ A ∧ A ≤ n + 1 ∧ A ≤ 40) (hS : Sen a w) :
    Calls Tryd.prog 8 #[.int .i64 y, .int .i64 p, .int .i64 d, .int .i64 A] w fun e w' => ∃ M N, e = .returned (rV M N) ∧ M ≤ L ∧ N ≤ U ∧ Below w.heap.size w w' := by
  have hL : L = (Dc.val y p d n).1 := by rw [← hv]
  have hU : U = (Dc.val y p d n).2 := by rw [← hv]
  refine (disc_any a y p d A w hS).mono ?_
  rintro e w' ⟨rfl, hb⟩
  refine ⟨_, _, rfl, ?_, ?_, hb⟩
  all_goals
    by_cases c : A = n
    · subst c; omega
    · obtain rfl : A = n + 1 := by omega
      have := Dc.val_up h (by omega)
      omega
theorem Dc.higher_any (a : Addr) {y p d n L U : Int} (h : Dc.ok y p d n = true) (hv : (L, U) = Dc.val y p d n) (z : Int) (w : World) (hz : y ≤ z ∧ z ≤ 100000) (hS : Sen a w) :
    Calls Tryd.prog 8 #[.int .i64 z, .int .i64 p, .int .i64 d, .int .i64 n] w fun e w' => ∃ M N, e = .returned (rV M N) ∧ M ≤ L ∧ N ≤ U ∧ Below w.heap.size w w' := by
  have hL : L = (Dc.val y p d n).1 := by rw [← hv]
  have hU : U = (Dc.val y p d n).2 := by rw [← hv]
  obtain ⟨h1, h2, h3, h4⟩ := Dc.ok_iff.1 h
  have hm := Dc.val_mono h (Dc.ok_iff.2 ⟨(show 0 ≤ z ∧ z ≤ 100000 by omega), h2, h3, h4⟩) hz.1 (Int.le_refl p)
  refine (disc_any a z p d n w hS).mono ?_
  rintro e w' ⟨rfl, hb⟩
  exact ⟨_, _, rfl, by omega, by omega, hb⟩
theorem Dc.near_any (a : Addr) {y p d n L U : Int} (h : Dc.ok y p d n = true) (hv : (L, U) = Dc.val y p d n) (q : Int) (w : World) (hq : p ≤ q ∧ q ≤ d) (hS : Sen a w) :
    Calls Tryd.prog 8 #[.int .i64 y, .int .i64 q, .int .i64 d, .int .i64 n] w fun e w' => ∃ M N, e = .returned (rV M N) ∧ L ≤ M ∧ U ≤ N ∧ Below w.heap.size w w' := by
  have hL : L = (Dc.val y p d n).1 := by rw [← hv]
  have hU : U = (Dc.val y p d n).2 := by rw [← hv]
  obtain ⟨h1, h2, h3, h4⟩ := Dc.ok_iff.1 h
  have hm := Dc.val_mono (Dc.ok_iff.2 ⟨h1, h2, (show 0 ≤ q ∧ q ≤ d by omega), h4⟩) h (Int.le_refl y) hq.1
  refine (disc_any a y q d n w hS).mono ?_
  rintro e w' ⟨rfl, hb⟩
  exact ⟨_, _, rfl, by omega, by omega, hb⟩
theorem Dc.end_any (a : Addr) {y p d n : Int} (h : Dc.ok y p d n = true) (w : World) (hS : Sen a w) :
    Calls Tryd.prog 8 #[.int .i64 y, .int .i64 1, .int .i64 1, .int .i64 n] w fun e w' => e = .returned (rV (Dc.val y d d n).1 (Dc.val y d d n).2) ∧ Below w.heap.size w w' := by
  obtain ⟨h1, h2, h3, h4⟩ := Dc.ok_iff.1 h
  have := disc_any a y 1 1 n w hS
  rw [← Dc.val_end (y := y) (d := d) (n := n) (Dc.ok_iff.2 ⟨h1, h2, (show 0 ≤ d ∧ d ≤ d by omega), h4⟩) (Dc.ok_iff.2 ⟨h1, (show (1 : Int) ≤ 1 ∧ (1 : Int) ≤ 4000 by omega), (show (0 : Int) ≤ 1 ∧ (1 : Int) ≤ 1 by omega), h4⟩)] at this
  exact this
theorem Dc.per_any (a : Addr) {y p d n L U : Int} (h : Dc.ok y p d n = true) (hv : (L, U) = Dc.val y p d n) (w : World) (hn : n < 40) (hS : Sen a w) :
    Calls Tryd.prog 8 #[.int .i64 y, .int .i64 p, .int .i64 d, .int .i64 (n + 1)] w fun e w' => ∃ M N, e = .returned (rV M N) ∧ Rg.mul M N (1000000 + y) (1000000 + y) = (Rg.fl (M * (1000000 + y)), Rg.cl (N * (1000000 + y)), true) ∧ Rg.fl (M * (1000000 + y)) ≤ U ∧ L ≤ Rg.cl (N * (1000000 + y)) ∧ Below w.heap.size w w' := by
  have hL : L = (Dc.val y p d n).1 := by rw [← hv]
  have hU : U = (Dc.val y p d n).2 := by rw [← hv]
  obtain ⟨⟨y0, y1⟩, ⟨d0, d1⟩, ⟨p0, p1⟩, n0, n1⟩ := Dc.ok_iff.1 h
  obtain ⟨m, rfl⟩ : ∃ m : Nat, n = m := ⟨n.toNat, by omega⟩
  have h2 : Dc.ok y p d ((m + 1 : Nat) : Int) = true := Dc.ok_iff.2 ⟨⟨y0, y1⟩, ⟨d0, d1⟩, ⟨p0, p1⟩, by omega, by omega⟩
  rw [Dc.val_is h] at hL hU
  obtain ⟨b0, b1, b2⟩ := Dc.bd40 h (i := m) (by omega)
  obtain ⟨c0, c1, c2⟩ := Dc.bd40 h (i := m + 1) (by omega)
  obtain ⟨e0, e1, e2⟩ := Dc.d_bd c0 c1 c2
  have hF := Dc.factor (c := 1000000 + y) b0 b1 (by omega) c0 (by show 1000000 ≤ Dc.hi y p d (m + 1); omega)
  have hm := (Dc.mul_is (l := Dc.dl (Dc.hi y p d (m + 1))) (h := Dc.dh (Dc.lo y p d (m + 1))) (c := 1000000 + y) (by omega) e1 (by omega) (by omega) (by omega)).1
  have := disc_any a y p d ((m + 1 : Nat) : Int) w hS
  rw [Dc.val_is h2, show (((m + 1 : Nat) : Int)) = (m : Int) + 1 by omega] at this
  refine this.mono ?_
  rintro e w' ⟨rfl, hb⟩
  exact ⟨_, _, rfl, hm, by rw [hU]; exact hF.1, by rw [hL]; exact hF.2, hb⟩
theorem Dc.none_any (a : Addr) {y p d n : Int} (h : Dc.ok y p d n = true) (w : World) (hS : Sen a w) :
    Calls Tryd.prog 8 #[.int .i64 0, .int .i64 p, .int .i64 d, .int .i64 n] w fun e w' => e = .returned (rV 1000000 1000000) ∧ Below w.heap.size w w' := by
  obtain ⟨h1, h2, h3, h4⟩ := Dc.ok_iff.1 h
  have := disc_any a 0 p d n w hS
  rw [Dc.val_zero (Dc.ok_iff.2 ⟨by omega, h2, h3, h4⟩)] at this
  exact this
set_option maxRecDepth 8000 in
set_option maxHeartbeats 8000000 in
theorem lawDiscountOf (a : Option Addr) (len cap : Nat) (zs : List Int) (w : World) (h : IsRow .u8 w a len cap zs) (ea : Addr) (hS : Sen ea w) :
    Calls Tryd.prog 3 #[.slice a len cap] w fun e w' => e = .returned (.bool true) ∧ Below w.heap.size w w' := by
  have H := Lib.hid h; clear h
  by_cases hl : 1048576 < (len : Int)
  · go_enter Tryd.func3, Tryd.ntmps3
    go_wp2_with fail
    go_ret
    exact ⟨rfl, Below.refl _ _⟩
  · have hl' := decide_eq_false hl
    clear hl
    go_enter Tryd.func3, Tryd.ntmps3
    go_wp2_with fail
    refine (drawDc_any _ _ _ _ _ H.out).mono ?_
    rintro e w1 ⟨y, p, d, n, rfl, hy, hp, hd, hn, hb1⟩
    have HB1 := Lib.hid hb1
    have HSe := Lib.hid (fun W (hW : Below w.heap.size w W) => hS.below hW hS.pos)
    have IM := Lib.hid (fun y p d n W hW => disc_any ea y p d n W hW)
    have SP := Lib.hid (fun W y p d n => sdisc_any y p d n W)
    clear hb1 hS
    go_wp2_with fail
    refine (IM.out _ _ _ _ _ (HSe.out _ HB1.out)).mono ?_
    rintro e w2 ⟨rfl, hb2⟩
    have SPn := Lib.hid (fun W => SP.out W y p d n)
    have HB0 := Lib.hid (HB1.out.trans (hb2.mono HB1.out.size))
    clear hb2 SP
    cases hok : Dc.ok y p d n with
    | false =>
      obtain ⟨L, U, hv, hc1⟩ : ∃ L U : Int, Dc.val y p d n = (L, U) ∧ (U == 0) = true := ⟨0, 0, Dc.val_no hok, rfl⟩
      rw [hv] at SPn ⊢
      simp only at SPn ⊢
      have hll : (L != L) = false := by simp
      have huu : (U != U) = false := by simp
      have hle : (L == L) = true := by simp
      have hue : (U == U) = true := by simp
      clear hok hv
      have HB2 := Lib.hid (HB0.out.alloc HB0.out.size (.cells #[.int .i64 L, .int .i64 U] 26))
      have K2 := Lib.hid (Blk.new w2 #[.int .i64 L, .int .i64 U] 26)
      go_wp2_with fail
      first | (go_region_held3 (fun W => W.cell? ⟨w2.heap.size, 0, none⟩ = some (.int .i64 L) ∧ W.cell? ⟨w2.heap.size, 1, none⟩ = some (.int .i64 U)) (first | exact K2.out.twoD | exact (blkDrewD K2.out).twoD | exact K3.out.twoD) (first | (go_at_call 9; (with_reducible refine (SPn.out _).mono ?_); rintro e w3 ⟨rfl, hb3⟩; have K3 := Lib.hid (Blk.below (blkDrewD K2.out) hb3 K2.out.lt); have HB3 := Lib.hid (HB2.out.drew.trans (hb3.mono HB2.out.size)); clear hb3))) | fail "WALK"
      all_goals go_wp2_with fail
      all_goals first | (go_region_held3 (fun W => W.cell? ⟨w2.heap.size, 0, none⟩ = some (.int .i64 L) ∧ W.cell? ⟨w2.heap.size, 1, none⟩ = some (.int .i64 U)) (first | exact K3.out.twoD | exact (blkDrewD K3.out).twoD | exact K4.out.twoD) (first | (go_at_call 9; (with_reducible refine (SPn.out _).mono ?_); rintro e w4 ⟨rfl, hb4⟩; have K4 := Lib.hid (Blk.below (blkDrewD K3.out) hb4 K3.out.lt); have HB4 := Lib.hid (HB3.out.drew.trans (hb4.mono HB3.out.size)); clear hb4))) | fail "WALK"
      all_goals go_wp2_with fail
      all_goals
        go_ret
        exact ⟨rfl, HB4.out⟩
    | true =>
      obtain ⟨l0, lu, u1⟩ := Dc.val_bd hok
      obtain ⟨⟨y0, y1⟩, ⟨d0, d1⟩, ⟨p0, p1⟩, n0, n1⟩ := Dc.ok_iff.1 hok
      have HOk := Lib.hid hok
      have HL := Lib.hid (show ((Dc.val y p d n).1, (Dc.val y p d n).2) = Dc.val y p d n from rfl)
      generalize (Dc.val y p d n).1 = L at *
      generalize (Dc.val y p d n).2 = U at *
      clear hok
      have HB2 := Lib.hid (HB0.out.alloc HB0.out.size (.cells #[.int .i64 L, .int .i64 U] 26))
      have K2 := Lib.hid (Blk.new w2 #[.int .i64 L, .int .i64 U] 26)
      have hc1 : (U == 0) = false := by simp only [beq_eq_false_iff_ne, ne_eq]; omega
      have hll : (L != L) = false := by simp
      have huu : (U != U) = false := by simp
      have hle : (L == L) = true := by simp
      have hue : (U == U) = true := by simp
      have MO := Lib.hid (fun A W (hA : n ≤ A ∧ A ≤ n + 1 ∧ A ≤ 40) hW => Dc.more_any ea (HOk.out) HL.out A W hA hW)
      have HI := Lib.hid (fun z W (hz : y ≤ z ∧ z ≤ 100000) hW => Dc.higher_any ea (HOk.out) HL.out z W hz hW)
      have NO := Lib.hid (fun (_ : Unit) W hW => Dc.none_any ea (HOk.out) W hW)
      clear IM
      go_wp2_with fail
      first | (go_region_held3 (fun W => W.cell? ⟨w2.heap.size, 0, none⟩ = some (.int .i64 L) ∧ W.cell? ⟨w2.heap.size, 1, none⟩ = some (.int .i64 U)) (first | exact K2.out.twoD | exact (blkDrewD K2.out).twoD | exact K3.out.twoD) (first | (go_at_call 9; (with_reducible refine (SPn.out _).mono ?_); rintro e w3 ⟨rfl, hb3⟩; have K3 := Lib.hid (Blk.below (blkDrewD K2.out) hb3 K2.out.lt); have HB3 := Lib.hid (HB2.out.drew.trans (hb3.mono HB2.out.size)); clear hb3))) | fail "WALK"
      all_goals go_wp2_with fail
      all_goals
        refine (MO.out _ _ ?_ (HSe.out _ HB3.out)).mono ?_
        · omega
        rintro e w4 ⟨M, N, rfl, hM, hN, hb4⟩
        have HC4 := Lib.hid (HB3.out.trans (hb4.mono HB3.out.size))
        have HB4 := Lib.hid (HC4.out.alloc HC4.out.size (.cells #[.int .i64 M, .int .i64 N] 26))
        have KM := Lib.hid (Blk.new w4 #[.int .i64 M, .int .i64 N] 26)

        replace K3 := Lib.hid ((K3.out.below hb4 K3.out.lt).alloc (.cells #[.int .i64 M, .int .i64 N] 26))
        clear hb4
        go_wp2_with fail
      all_goals
        refine (HI.out _ _ ?_ (HSe.out _ HB4.out)).mono ?_
        · omega
        rintro e w5 ⟨G, J, rfl, hG, hJ, hb5⟩
        have HC5 := Lib.hid (HB4.out.trans (hb5.mono HB4.out.size))
        have HB5 := Lib.hid (HC5.out.alloc HC5.out.size (.cells #[.int .i64 G, .int .i64 J] 26))
        have KH := Lib.hid (Blk.new w5 #[.int .i64 G, .int .i64 J] 26)

        replace K3 := Lib.hid ((K3.out.below hb5 K3.out.lt).alloc (.cells #[.int .i64 G, .int .i64 J] 26))
        replace KM := Lib.hid ((KM.out.below hb5 KM.out.lt).alloc (.cells #[.int .i64 G, .int .i64 J] 26))
        clear hb5
        go_wp2_with fail
      all_goals
        refine (NO.out () _ (HSe.out _ HB5.out)).mono ?_
        rintro e w6 ⟨rfl, hb6⟩
        have HC6 := Lib.hid (HB5.out.trans (hb6.mono HB5.out.size))
        have HB6 := Lib.hid (HC6.out.alloc HC6.out.size (.cells #[.int .i64 1000000, .int .i64 1000000] 26))
        have KN := Lib.hid (Blk.new w6 #[.int .i64 1000000, .int .i64 1000000] 26)

        replace K3 := Lib.hid ((K3.out.below hb6 K3.out.lt).alloc (.cells #[.int .i64 1000000, .int .i64 1000000] 26))
        replace KM := Lib.hid ((KM.out.below hb6 KM.out.lt).alloc (.cells #[.int .i64 1000000, .int .i64 1000000] 26))
        replace KH := Lib.hid ((KH.out.below hb6 KH.out.lt).alloc (.cells #[.int .i64 1000000, .int .i64 1000000] 26))
        clear hb6
        have e1 := decide_eq_true l0
        have e2 := decide_eq_true lu
        have e3 := decide_eq_true u1
        have e4 := decide_eq_true hM
        have e5 := decide_eq_true hN
        have e6 := decide_eq_true hG
        have e7 := decide_eq_true hJ
        obtain ⟨⟨a0, a1⟩, -, -⟩ := K3.out.two
        obtain ⟨⟨m0, m1⟩, -, -⟩ := KM.out.two
        obtain ⟨⟨i0, i1⟩, -, -⟩ := KH.out.two
        obtain ⟨⟨z0, z1⟩, -, -⟩ := KN.out.two
        go_wp2_with fail
      all_goals
        go_ret
        exact ⟨rfl, HB6.out⟩
set_option maxRecDepth 8000 in
set_option maxHeartbeats 8000000 in
theorem lawDiscountOfNear (a : Option Addr) (len cap : Nat) (zs : List Int) (w : World) (h : IsRow .u8 w a len cap zs) (ea : Addr) (hS : Sen ea w) :
    Calls Tryd.prog 4 #[.slice a len cap] w fun e w' => e = .returned (.bool true) ∧ Below w.heap.size w w' := by
  have H := Lib.hid h; clear h
  by_cases hl : 1048576 < (len : Int)
  · go_enter Tryd.func4, Tryd.ntmps4
    go_wp2_with fail
    go_ret
    exact ⟨rfl, Below.refl _ _⟩
  · have hl' := decide_eq_false hl
    clear hl
    go_enter Tryd.func4, Tryd.ntmps4
    go_wp2_with fail
    refine (drawDc_any _ _ _ _ _ H.out).mono ?_
    rintro e w1 ⟨y, p, d, n, rfl, hy, hp, hd, hn, hb1⟩
    have HB1 := Lib.hid hb1
    have HSe := Lib.hid (fun W (hW : Below w.heap.size w W) => hS.below hW hS.pos)
    have IM := Lib.hid (fun y p d n W hW => disc_any ea y p d n W hW)
    have SP := Lib.hid (fun W y p d n => sdisc_any y p d n W)
    clear hb1 hS
    go_wp2_with fail
    refine (IM.out _ _ _ _ _ (HSe.out _ HB1.out)).mono ?_
    rintro e w2 ⟨rfl, hb2⟩
    have SPn := Lib.hid (fun W => SP.out W y p d n)
    have HB0 := Lib.hid (HB1.out.trans (hb2.mono HB1.out.size))
    clear hb2 SP
    cases hok : Dc.ok y p d n with
    | false =>
      obtain ⟨L, U, hv, hc1⟩ : ∃ L U : Int, Dc.val y p d n = (L, U) ∧ (U == 0) = true := ⟨0, 0, Dc.val_no hok, rfl⟩
      rw [hv] at SPn ⊢
      simp only at SPn ⊢
      have hll : (L != L) = false := by simp
      have huu : (U != U) = false := by simp
      have hle : (L == L) = true := by simp
      have hue : (U == U) = true := by simp
      clear hok hv
      have HB2 := Lib.hid (HB0.out.alloc HB0.out.size (.cells #[.int .i64 L, .int .i64 U] 26))
      have K2 := Lib.hid (Blk.new w2 #[.int .i64 L, .int .i64 U] 26)
      go_wp2_with fail
      refine wp_region_held_drew (S := (fun W => W.cell? ⟨w2.heap.size, 0, none⟩ = some (.int .i64 L) ∧ W.cell? ⟨w2.heap.size, 1, none⟩ = some (.int .i64 U))) (by kernel_rfl) (blkDrewD K2.out).twoD (fun hHeld => ?_)
      refine wpAnyH_take (i := 0) (oi := { dst := some 25, op := Op.load 26 (Operand.tmp 7), type := 26, pos := "laws.go:855", after := #[], guard := none }) (v := ?_) rfl (by kernel_rfl) (by kernel_rfl) (by kernel_rfl) (fun _ _ _ h => h) (Or.inl ⟨by rfl, ?_⟩) hHeld ?_
      rotate_left
      · intro w hSw
        (try dsimp only at hSw)
        go_simp
        try with_reducible rfl
      try simp only [Act.put, List.setIfInBounds_toArray, List.set_cons_zero, List.set_cons_succ]
      refine wpAnyH_take (i := 1) (oi := { dst := some 26, op := Op.move (Operand.tmp 3), type := 3, pos := "laws.go:855", after := #[], guard := none }) (v := ?_) rfl (by kernel_rfl) (by kernel_rfl) (by kernel_rfl) (fun _ _ _ h => h) (Or.inl ⟨by rfl, ?_⟩) hHeld ?_
      rotate_left
      · intro w hSw
        (try dsimp only at hSw)
        go_simp
        try with_reducible rfl
      try simp only [Act.put, List.setIfInBounds_toArray, List.set_cons_zero, List.set_cons_succ]
      refine wpAnyH_take (i := 2) (oi := { dst := some 27, op := Op.move (Operand.tmp 4), type := 3, pos := "laws.go:855", after := #[], guard := none }) (v := ?_) rfl (by kernel_rfl) (by kernel_rfl) (by kernel_rfl) (fun _ _ _ h => h) (Or.inl ⟨by rfl, ?_⟩) hHeld ?_
      rotate_left
      · intro w hSw
        (try dsimp only at hSw)
        go_simp
        try with_reducible rfl
      try simp only [Act.put, List.setIfInBounds_toArray, List.set_cons_zero, List.set_cons_succ]
      refine wpAnyH_take (i := 3) (oi := { dst := some 28, op := Op.move (Operand.tmp 5), type := 3, pos := "laws.go:855", after := #[], guard := none }) (v := ?_) rfl (by kernel_rfl) (by kernel_rfl) (by kernel_rfl) (fun _ _ _ h => h) (Or.inl ⟨by rfl, ?_⟩) hHeld ?_
      rotate_left
      · intro w hSw
        (try dsimp only at hSw)
        go_simp
        try with_reducible rfl
      try simp only [Act.put, List.setIfInBounds_toArray, List.set_cons_zero, List.set_cons_succ]
      refine wpAnyH_take (i := 4) (oi := { dst := some 29, op := Op.move (Operand.tmp 6), type := 3, pos := "laws.go:855", after := #[], guard := none }) (v := ?_) rfl (by kernel_rfl) (by kernel_rfl) (by kernel_rfl) (fun _ _ _ h => h) (Or.inl ⟨by rfl, ?_⟩) hHeld ?_
      rotate_left
      · intro w hSw
        (try dsimp only at hSw)
        go_simp
        try with_reducible rfl
      try simp only [Act.put, List.setIfInBounds_toArray, List.set_cons_zero, List.set_cons_succ]
      refine wpAnyH_ready (rs := [5]) (by kernel_rfl) (by simp) ?_
      refine AllReadyH.cons (o := { dst := some 30, op := Op.call { callee := Callee.value (Operand.func 9), args := #[Operand.tmp 26, Operand.tmp 27, Operand.tmp 28, Operand.tmp 29], argTypes := #[3, 3, 3, 3] }, type := 26, pos := "laws.go:855", after := #[{ on := 1, ground := Ground.data }, { on := 2, ground := Ground.data }, { on := 3, ground := Ground.data }, { on := 4, ground := Ground.data }], guard := none }) rfl (fun K5 hK5 => ?_) AllReadyH.nil
      go_simp
      refine (SPn.out _).mono ?_
      rintro e w3 ⟨rfl, hb3⟩
      have K3 := Lib.hid (Blk.below (blkDrewD K2.out) hb3 K2.out.lt)
      have HB3 := Lib.hid (HB2.out.drew.trans (hb3.mono HB2.out.size))
      refine hK5.out _ _ ?_ (fun hHeld2 => ?_)
      · exact K3.out.twoD
      clear hK5 K5 hb3
      try simp only [Act.put, List.setIfInBounds_toArray, List.set_cons_zero, List.set_cons_succ]
      refine wpAnyH_take (i := 6) (oi := { dst := some 31, op := Op.binOp BinOp.neq 26 (Operand.tmp 25) (Operand.tmp 30) 26, type := 4, pos := "laws.go:855", after := #[{ on := 0, ground := Ground.data }, { on := 5, ground := Ground.data }], guard := none }) (v := ?_) rfl (by kernel_rfl) (by kernel_rfl) (by kernel_rfl) (fun _ _ _ h => h) (Or.inl ⟨by rfl, ?_⟩) hHeld2 ?_
      rotate_left
      · intro w hSw
        (try dsimp only at hSw)
        go_simp
        try with_reducible rfl
      try simp only [Act.put, List.setIfInBounds_toArray, List.set_cons_zero, List.set_cons_succ]
      refine wpAnyH_take (i := 7) (oi := { dst := some 32, op := Op.move (Operand.tmp 31), type := 4, pos := "laws.go:855", after := #[{ on := 6, ground := Ground.data }, { on := 5, ground := Ground.chain }], guard := none }) (v := ?_) rfl (by kernel_rfl) (by kernel_rfl) (by kernel_rfl) (fun _ _ _ h => h) (Or.inl ⟨by rfl, ?_⟩) hHeld2 ?_
      rotate_left
      · intro w hSw
        (try dsimp only at hSw)
        go_simp
        try with_reducible rfl
      try simp only [Act.put, List.setIfInBounds_toArray, List.set_cons_zero, List.set_cons_succ]
      refine wpAnyH_take (i := 8) (oi := { dst := some 33, op := Op.fieldAddr 26 (Operand.tmp 7) 1, type := 0, pos := "laws.go:855", after := #[{ on := 7, ground := Ground.guard }], guard := some (7, false) }) (v := ?_) rfl (by kernel_rfl) (by kernel_rfl) (by kernel_rfl) (fun _ _ _ h => h) (Or.inl ⟨by rfl, ?_⟩) hHeld2 ?_
      rotate_left
      · intro w hSw
        (try dsimp only at hSw)
        go_simp
        try with_reducible rfl
      try simp only [Act.put, List.setIfInBounds_toArray, List.set_cons_zero, List.set_cons_succ]
      refine wpAnyH_take (i := 9) (oi := { dst := some 34, op := Op.load 3 (Operand.tmp 33), type := 3, pos := "laws.go:855", after := #[{ on := 8, ground := Ground.data }, { on := 7, ground := Ground.guard }], guard := some (7, false) }) (v := ?_) rfl (by kernel_rfl) (by kernel_rfl) (by kernel_rfl) (fun _ _ _ h => h) (Or.inl ⟨by rfl, ?_⟩) hHeld2 ?_
      rotate_left
      · intro w hSw
        (try dsimp only at hSw)
        go_simp
        try with_reducible rfl
      try simp only [Act.put, List.setIfInBounds_toArray, List.set_cons_zero, List.set_cons_succ]
      refine wpAnyH_take (i := 10) (oi := { dst := some 35, op := Op.binOp BinOp.eql 3 (Operand.tmp 34) (Operand.const (Value.int IntKind.i64 0)) 3, type := 4, pos := "laws.go:855", after := #[{ on := 9, ground := Ground.data }, { on := 7, ground := Ground.guard }], guard := some (7, false) }) (v := ?_) rfl (by kernel_rfl) (by kernel_rfl) (by kernel_rfl) (fun _ _ _ h => h) (Or.inl ⟨by rfl, ?_⟩) hHeld2 ?_
      rotate_left
      · intro w hSw
        (try dsimp only at hSw)
        go_simp
        try with_reducible rfl
      try simp only [Act.put, List.setIfInBounds_toArray, List.set_cons_zero, List.set_cons_succ]
      refine wpAnyH_take (i := 11) (oi := { dst := some 36, op := Op.pick (Operand.tmp 32) (Operand.const (Value.bool true)) (Operand.tmp 35), type := 4, pos := "laws.go:855", after := #[{ on := 7, ground := Ground.data }, { on := 10, ground := Ground.data }], guard := none }) (v := ?_) rfl (by kernel_rfl) (by kernel_rfl) (by kernel_rfl) (fun _ _ _ h => h) (Or.inl ⟨by rfl, ?_⟩) hHeld2 ?_
      rotate_left
      · intro w hSw
        (try dsimp only at hSw)
        go_simp
        try with_reducible rfl
      try simp only [Act.put, List.setIfInBounds_toArray, List.set_cons_zero, List.set_cons_succ]
      refine wpAnyH_take (i := 12) (oi := { dst := some 37, op := Op.move (Operand.tmp 36), type := 4, pos := "laws.go:855", after := #[{ on := 11, ground := Ground.data }, { on := 7, ground := Ground.chain }], guard := none }) (v := ?_) rfl (by kernel_rfl) (by kernel_rfl) (by kernel_rfl) (fun _ _ _ h => h) (Or.inl ⟨by rfl, ?_⟩) hHeld2 ?_
      rotate_left
      · intro w hSw
        (try dsimp only at hSw)
        go_simp
        try with_reducible rfl
      try simp only [Act.put, List.setIfInBounds_toArray, List.set_cons_zero, List.set_cons_succ]
      refine wpAnyH_take (i := 13) (oi := { dst := some 38, op := Op.move (Operand.tmp 4), type := 3, pos := "laws.go:855", after := #[{ on := 12, ground := Ground.guard }], guard := some (12, false) }) rfl (by kernel_rfl) (by kernel_rfl) (by kernel_rfl) (fun _ _ _ h => h) (Or.inr ⟨by kernel_rfl, rfl⟩) hHeld2 ?_
      try simp only [Act.put, List.setIfInBounds_toArray, List.set_cons_zero, List.set_cons_succ]
      refine wpAnyH_take (i := 14) (oi := { dst := some 39, op := Op.move (Operand.tmp 5), type := 3, pos := "laws.go:855", after := #[{ on := 12, ground := Ground.guard }], guard := some (12, false) }) rfl (by kernel_rfl) (by kernel_rfl) (by kernel_rfl) (fun _ _ _ h => h) (Or.inr ⟨by kernel_rfl, rfl⟩) hHeld2 ?_
      try simp only [Act.put, List.setIfInBounds_toArray, List.set_cons_zero, List.set_cons_succ]
      refine wpAnyH_take (i := 15) (oi := { dst := some 40, op := Op.binOp BinOp.eql 3 (Operand.tmp 38) (Operand.tmp 39) 3, type := 4, pos := "laws.go:855", after := #[{ on := 13, ground := Ground.data }, { on := 14, ground := Ground.data }, { on := 12, ground := Ground.guard }], guard := some (12, false) }) rfl (by kernel_rfl) (by kernel_rfl) (by kernel_rfl) (fun _ _ _ h => h) (Or.inr ⟨by kernel_rfl, rfl⟩) hHeld2 ?_
      try simp only [Act.put, List.setIfInBounds_toArray, List.set_cons_zero, List.set_cons_succ]
      refine wpAnyH_take (i := 16) (oi := { dst := some 41, op := Op.pick (Operand.tmp 37) (Operand.const (Value.bool true)) (Operand.tmp 40), type := 4, pos := "laws.go:855", after := #[{ on := 12, ground := Ground.data }, { on := 15, ground := Ground.data }], guard := none }) (v := ?_) rfl (by kernel_rfl) (by kernel_rfl) (by kernel_rfl) (fun _ _ _ h => h) (Or.inl ⟨by rfl, ?_⟩) hHeld2 ?_
      rotate_left
      · intro w hSw
        (try dsimp only at hSw)
        go_simp
        try with_reducible rfl
      try simp only [Act.put, List.setIfInBounds_toArray, List.set_cons_zero, List.set_cons_succ]
      refine wpAnyH_done (by kernel_rfl) ?_ _
      all_goals go_wp2_with fail
      all_goals first | (go_region_held3 (fun W => W.cell? ⟨w2.heap.size, 0, none⟩ = some (.int .i64 L) ∧ W.cell? ⟨w2.heap.size, 1, none⟩ = some (.int .i64 U)) (first | exact K3.out.twoD | exact (blkDrewD K3.out).twoD | exact K4.out.twoD) (first | (go_at_call 9; (with_reducible refine (SPn.out _).mono ?_); rintro e w4 ⟨rfl, hb4⟩; have K4 := Lib.hid (Blk.below (blkDrewD K3.out) hb4 K3.out.lt); have HB4 := Lib.hid (HB3.out.drew.trans (hb4.mono HB3.out.size)); clear hb4))) | fail "WALK"
      all_goals go_wp2_with fail
      all_goals
        go_ret
        exact ⟨rfl, HB4.out⟩
    | true =>
      obtain ⟨l0, lu, u1⟩ := Dc.val_bd hok
      obtain ⟨⟨y0, y1⟩, ⟨d0, d1⟩, ⟨p0, p1⟩, n0, n1⟩ := Dc.ok_iff.1 hok
      have HOk := Lib.hid hok
      have HL := Lib.hid (show ((Dc.val y p d n).1, (Dc.val y p d n).2) = Dc.val y p d n from rfl)
      generalize (Dc.val y p d n).1 = L at *
      generalize (Dc.val y p d n).2 = U at *
      clear hok
      have HB2 := Lib.hid (HB0.out.alloc HB0.out.size (.cells #[.int .i64 L, .int .i64 U] 26))
      have K2 := Lib.hid (Blk.new w2 #[.int .i64 L, .int .i64 U] 26)
      have hc1 : (U == 0) = false := by simp only [beq_eq_false_iff_ne, ne_eq]; omega
      have hll : (L != L) = false := by simp
      have huu : (U != U) = false := by simp
      have hle : (L == L) = true := by simp
      have hue : (U == U) = true := by simp
      by_cases hpd : p = d
      · have hc2 : (p == d) = true := by simp [hpd]
        clear IM hpd
        go_wp2_with fail
        first | (go_region_held3 (fun W => W.cell? ⟨w2.heap.size, 0, none⟩ = some (.int .i64 L) ∧ W.cell? ⟨w2.heap.size, 1, none⟩ = some (.int .i64 U)) (first | exact K2.out.twoD | exact (blkDrewD K2.out).twoD | exact K3.out.twoD) (first | (go_at_call 9; (with_reducible refine (SPn.out _).mono ?_); rintro e w3 ⟨rfl, hb3⟩; have K3 := Lib.hid (Blk.below (blkDrewD K2.out) hb3 K2.out.lt); have HB3 := Lib.hid (HB2.out.drew.trans (hb3.mono HB2.out.size)); clear hb3))) | fail "WALK"
        all_goals go_wp2_with fail
        all_goals first | (go_region_held3 (fun W => W.cell? ⟨w2.heap.size, 0, none⟩ = some (.int .i64 L) ∧ W.cell? ⟨w2.heap.size, 1, none⟩ = some (.int .i64 U)) (first | exact K3.out.twoD | exact (blkDrewD K3.out).twoD | exact K4.out.twoD) (first | (go_at_call 9; (with_reducible refine (SPn.out _).mono ?_); rintro e w4 ⟨rfl, hb4⟩; have K4 := Lib.hid (Blk.below (blkDrewD K3.out) hb4 K3.out.lt); have HB4 := Lib.hid (HB3.out.drew.trans (hb4.mono HB3.out.size)); clear hb4))) | fail "WALK"
        all_goals go_wp2_with fail
        all_goals
          go_ret
          exact ⟨rfl, HB4.out⟩
      · have hc2 : (p == d) = false := by simp [hpd]
        have NE := Lib.hid (fun (_ : Unit) W hW => Dc.near_any ea HOk.out HL.out (p + 1) W (by omega) hW)
        have EN := Lib.hid (fun (_ : Unit) W hW => disc_any ea y d d n W hW)
        have EO := Lib.hid (fun (_ : Unit) W hW => Dc.end_any ea HOk.out W hW)
        generalize (Dc.val y d d n).1 = E at EN EO
        generalize (Dc.val y d d n).2 = F at EN EO
        have hee : (E == E) = true := by simp
        have hff : (F == F) = true := by simp
        clear IM hpd
        go_wp2_with fail
        first | (go_region_held3 (fun W => W.cell? ⟨w2.heap.size, 0, none⟩ = some (.int .i64 L) ∧ W.cell? ⟨w2.heap.size, 1, none⟩ = some (.int .i64 U)) (first | exact K2.out.twoD | exact (blkDrewD K2.out).twoD | exact K3.out.twoD) (first | (go_at_call 9; (with_reducible refine (SPn.out _).mono ?_); rintro e w3 ⟨rfl, hb3⟩; have K3 := Lib.hid (Blk.below (blkDrewD K2.out) hb3 K2.out.lt); have HB3 := Lib.hid (HB2.out.drew.trans (hb3.mono HB2.out.size)); clear hb3))) | fail "WALK"
        all_goals go_wp2_with fail
        all_goals
          refine (NE.out () _ (HSe.out _ HB3.out)).mono ?_
          rintro e w4 ⟨M, N, rfl, hM, hN, hb4⟩
          have HC4 := Lib.hid (HB3.out.trans (hb4.mono HB3.out.size))
          have HB4 := Lib.hid (HC4.out.alloc HC4.out.size (.cells #[.int .i64 M, .int .i64 N] 26))
          have KM := Lib.hid (Blk.new w4 #[.int .i64 M, .int .i64 N] 26)

          replace K3 := Lib.hid ((K3.out.below hb4 K3.out.lt).alloc (.cells #[.int .i64 M, .int .i64 N] 26))
          clear hb4
          go_wp2_with fail
        all_goals
          refine (EN.out () _ (HSe.out _ HB4.out)).mono ?_
          rintro e w5 ⟨rfl, hb5⟩
          have HC5 := Lib.hid (HB4.out.trans (hb5.mono HB4.out.size))
          have HB5 := Lib.hid (HC5.out.alloc HC5.out.size (.cells #[.int .i64 E, .int .i64 F] 26))
          have KH := Lib.hid (Blk.new w5 #[.int .i64 E, .int .i64 F] 26)

          replace K3 := Lib.hid ((K3.out.below hb5 K3.out.lt).alloc (.cells #[.int .i64 E, .int .i64 F] 26))
          replace KM := Lib.hid ((KM.out.below hb5 KM.out.lt).alloc (.cells #[.int .i64 E, .int .i64 F] 26))
          clear hb5
          have e4 := decide_eq_true hM
          have e5 := decide_eq_true hN
          obtain ⟨⟨a0, a1⟩, -, -⟩ := K3.out.two
          obtain ⟨⟨m0, m1⟩, -, -⟩ := KM.out.two
          obtain ⟨⟨i0, i1⟩, -, -⟩ := KH.out.two
          go_wp2_with fail
        all_goals first | (go_region_held3 (fun W => (W.cell? ⟨w2.heap.size, 0, none⟩ = some (.int .i64 L) ∧ W.cell? ⟨w2.heap.size, 1, none⟩ = some (.int .i64 U)) ∧ (W.cell? ⟨w4.heap.size, 0, none⟩ = some (.int .i64 M) ∧ W.cell? ⟨w4.heap.size, 1, none⟩ = some (.int .i64 N)) ∧ (W.cell? ⟨w5.heap.size, 0, none⟩ = some (.int .i64 E) ∧ W.cell? ⟨w5.heap.size, 1, none⟩ = some (.int .i64 F))) (first | exact ⟨K3.out.twoD, KM.out.twoD, KH.out.twoD⟩ | exact ⟨(blkDrewD K3.out).twoD, (blkDrewD KM.out).twoD, (blkDrewD KH.out).twoD⟩ | exact K6) (first | (go_at_call 8; (with_reducible refine (EO.out () _ (HSe.out _ HB5.out.drew)).mono ?_); rintro e w6 ⟨rfl, hb6⟩; have K6 := And.intro (Blk.below (blkDrewD K3.out) hb6 K3.out.lt).twoD (And.intro (Blk.below (blkDrewD KM.out) hb6 KM.out.lt).twoD (Blk.below (blkDrewD KH.out) hb6 KH.out.lt).twoD); have HB6 := Lib.hid (HB5.out.drew.trans (hb6.mono HB5.out.size)); clear hb6))) | fail "WALK"
        all_goals go_wp2_with fail
        all_goals
          go_ret
          exact ⟨rfl, HB6.out⟩
set_option maxRecDepth 8000 in
set_option maxHeartbeats 8000000 in
theorem lawDiscountOfPeriods (a : Option Addr) (len cap : Nat) (zs : List Int) (w : World) (h : IsRow .u8 w a len cap zs) (ea : Addr) (hS : Sen ea w) :
    Calls Tryd.prog 5 #[.slice a len cap] w fun e w' => e = .returned (.bool true) ∧ Below w.heap.size w w' := by
  have H := Lib.hid h; clear h
  by_cases hl : 1048576 < (len : Int)
  · go_enter Tryd.func5, Tryd.ntmps5
    go_wp2_with fail
    go_ret
    exact ⟨rfl, Below.refl _ _⟩
  · have hl' := decide_eq_false hl
    clear hl
    go_enter Tryd.func5, Tryd.ntmps5
    go_wp2_with fail
    refine (drawDc_any _ _ _ _ _ H.out).mono ?_
    rintro e w1 ⟨y, p, d, n, rfl, hy, hp, hd, hn, hb1⟩
    have HB1 := Lib.hid hb1
    have HSe := Lib.hid (fun W (hW : Below w.heap.size w W) => hS.below hW hS.pos)
    have IM := Lib.hid (fun y p d n W hW => disc_any ea y p d n W hW)
    have SP := Lib.hid (fun W y p d n => sdisc_any y p d n W)
    clear hb1 hS
    go_wp2_with fail
    refine (IM.out _ _ _ _ _ (HSe.out _ HB1.out)).mono ?_
    rintro e w2 ⟨rfl, hb2⟩
    have SPn := Lib.hid (fun W => SP.out W y p d n)
    have HB0 := Lib.hid (HB1.out.trans (hb2.mono HB1.out.size))
    clear hb2 SP
    cases hok : Dc.ok y p d n with
    | false =>
      obtain ⟨L, U, hv, hc1⟩ : ∃ L U : Int, Dc.val y p d n = (L, U) ∧ (U == 0) = true := ⟨0, 0, Dc.val_no hok, rfl⟩
      rw [hv] at SPn ⊢
      simp only at SPn ⊢
      have hll : (L != L) = false := by simp
      have huu : (U != U) = false := by simp
      have hle : (L == L) = true := by simp
      have hue : (U == U) = true := by simp
      clear hok hv
      have HB2 := Lib.hid (HB0.out.alloc HB0.out.size (.cells #[.int .i64 L, .int .i64 U] 26))
      have K2 := Lib.hid (Blk.new w2 #[.int .i64 L, .int .i64 U] 26)
      go_wp2_with fail
      refine wp_region_held_drew (S := (fun W => W.cell? ⟨w2.heap.size, 0, none⟩ = some (.int .i64 L) ∧ W.cell? ⟨w2.heap.size, 1, none⟩ = some (.int .i64 U))) (by kernel_rfl) (blkDrewD K2.out).twoD (fun hHeld => ?_)
      refine wpAnyH_take (i := 0) (oi := { dst := some 26, op := Op.load 26 (Operand.tmp 7), type := 26, pos := "laws.go:2435", after := #[], guard := none }) (v := ?_) rfl (by kernel_rfl) (by kernel_rfl) (by kernel_rfl) (fun _ _ _ h => h) (Or.inl ⟨by rfl, ?_⟩) hHeld ?_
      rotate_left
      · intro w hSw
        (try dsimp only at hSw)
        go_simp
        try with_reducible rfl
      try simp only [Act.put, List.setIfInBounds_toArray, List.set_cons_zero, List.set_cons_succ]
      refine wpAnyH_take (i := 1) (oi := { dst := some 27, op := Op.move (Operand.tmp 3), type := 3, pos := "laws.go:2435", after := #[], guard := none }) (v := ?_) rfl (by kernel_rfl) (by kernel_rfl) (by kernel_rfl) (fun _ _ _ h => h) (Or.inl ⟨by rfl, ?_⟩) hHeld ?_
      rotate_left
      · intro w hSw
        (try dsimp only at hSw)
        go_simp
        try with_reducible rfl
      try simp only [Act.put, List.setIfInBounds_toArray, List.set_cons_zero, List.set_cons_succ]
      refine wpAnyH_take (i := 2) (oi := { dst := some 28, op := Op.move (Operand.tmp 4), type := 3, pos := "laws.go:2435", after := #[], guard := none }) (v := ?_) rfl (by kernel_rfl) (by kernel_rfl) (by kernel_rfl) (fun _ _ _ h => h) (Or.inl ⟨by rfl, ?_⟩) hHeld ?_
      rotate_left
      · intro w hSw
        (try dsimp only at hSw)
        go_simp
        try with_reducible rfl
      try simp only [Act.put, List.setIfInBounds_toArray, List.set_cons_zero, List.set_cons_succ]
      refine wpAnyH_take (i := 3) (oi := { dst := some 29, op := Op.move (Operand.tmp 5), type := 3, pos := "laws.go:2435", after := #[], guard := none }) (v := ?_) rfl (by kernel_rfl) (by kernel_rfl) (by kernel_rfl) (fun _ _ _ h => h) (Or.inl ⟨by rfl, ?_⟩) hHeld ?_
      rotate_left
      · intro w hSw
        (try dsimp only at hSw)
        go_simp
        try with_reducible rfl
      try simp only [Act.put, List.setIfInBounds_toArray, List.set_cons_zero, List.set_cons_succ]
      refine wpAnyH_take (i := 4) (oi := { dst := some 30, op := Op.move (Operand.tmp 6), type := 3, pos := "laws.go:2435", after := #[], guard := none }) (v := ?_) rfl (by kernel_rfl) (by kernel_rfl) (by kernel_rfl) (fun _ _ _ h => h) (Or.inl ⟨by rfl, ?_⟩) hHeld ?_
      rotate_left
      · intro w hSw
        (try dsimp only at hSw)
        go_simp
        try with_reducible rfl
      try simp only [Act.put, List.setIfInBounds_toArray, List.set_cons_zero, List.set_cons_succ]
      refine wpAnyH_ready (rs := [5]) (by kernel_rfl) (by simp) ?_
      refine AllReadyH.cons (o := { dst := some 31, op := Op.call { callee := Callee.value (Operand.func 9), args := #[Operand.tmp 27, Operand.tmp 28, Operand.tmp 29, Operand.tmp 30], argTypes := #[3, 3, 3, 3] }, type := 26, pos := "laws.go:2435", after := #[{ on := 1, ground := Ground.data }, { on := 2, ground := Ground.data }, { on := 3, ground := Ground.data }, { on := 4, ground := Ground.data }], guard := none }) rfl (fun K5 hK5 => ?_) AllReadyH.nil
      go_simp
      refine (SPn.out _).mono ?_
      rintro e w3 ⟨rfl, hb3⟩
      have K3 := Lib.hid (Blk.below (blkDrewD K2.out) hb3 K2.out.lt)
      have HB3 := Lib.hid (HB2.out.drew.trans (hb3.mono HB2.out.size))
      refine hK5.out _ _ ?_ (fun hHeld2 => ?_)
      · exact K3.out.twoD
      clear hK5 K5 hb3
      try simp only [Act.put, List.setIfInBounds_toArray, List.set_cons_zero, List.set_cons_succ]
      refine wpAnyH_take (i := 6) (oi := { dst := some 32, op := Op.binOp BinOp.neq 26 (Operand.tmp 26) (Operand.tmp 31) 26, type := 4, pos := "laws.go:2435", after := #[{ on := 0, ground := Ground.data }, { on := 5, ground := Ground.data }], guard := none }) (v := ?_) rfl (by kernel_rfl) (by kernel_rfl) (by kernel_rfl) (fun _ _ _ h => h) (Or.inl ⟨by rfl, ?_⟩) hHeld2 ?_
      rotate_left
      · intro w hSw
        (try dsimp only at hSw)
        go_simp
        try with_reducible rfl
      try simp only [Act.put, List.setIfInBounds_toArray, List.set_cons_zero, List.set_cons_succ]
      refine wpAnyH_take (i := 7) (oi := { dst := some 33, op := Op.move (Operand.tmp 32), type := 4, pos := "laws.go:2435", after := #[{ on := 6, ground := Ground.data }, { on := 5, ground := Ground.chain }], guard := none }) (v := ?_) rfl (by kernel_rfl) (by kernel_rfl) (by kernel_rfl) (fun _ _ _ h => h) (Or.inl ⟨by rfl, ?_⟩) hHeld2 ?_
      rotate_left
      · intro w hSw
        (try dsimp only at hSw)
        go_simp
        try with_reducible rfl
      try simp only [Act.put, List.setIfInBounds_toArray, List.set_cons_zero, List.set_cons_succ]
      refine wpAnyH_take (i := 8) (oi := { dst := some 34, op := Op.fieldAddr 26 (Operand.tmp 7) 1, type := 0, pos := "laws.go:2435", after := #[{ on := 7, ground := Ground.guard }], guard := some (7, false) }) (v := ?_) rfl (by kernel_rfl) (by kernel_rfl) (by kernel_rfl) (fun _ _ _ h => h) (Or.inl ⟨by rfl, ?_⟩) hHeld2 ?_
      rotate_left
      · intro w hSw
        (try dsimp only at hSw)
        go_simp
        try with_reducible rfl
      try simp only [Act.put, List.setIfInBounds_toArray, List.set_cons_zero, List.set_cons_succ]
      refine wpAnyH_take (i := 9) (oi := { dst := some 35, op := Op.load 3 (Operand.tmp 34), type := 3, pos := "laws.go:2435", after := #[{ on := 8, ground := Ground.data }, { on := 7, ground := Ground.guard }], guard := some (7, false) }) (v := ?_) rfl (by kernel_rfl) (by kernel_rfl) (by kernel_rfl) (fun _ _ _ h => h) (Or.inl ⟨by rfl, ?_⟩) hHeld2 ?_
      rotate_left
      · intro w hSw
        (try dsimp only at hSw)
        go_simp
        try with_reducible rfl
      try simp only [Act.put, List.setIfInBounds_toArray, List.set_cons_zero, List.set_cons_succ]
      refine wpAnyH_take (i := 10) (oi := { dst := some 36, op := Op.binOp BinOp.eql 3 (Operand.tmp 35) (Operand.const (Value.int IntKind.i64 0)) 3, type := 4, pos := "laws.go:2435", after := #[{ on := 9, ground := Ground.data }, { on := 7, ground := Ground.guard }], guard := some (7, false) }) (v := ?_) rfl (by kernel_rfl) (by kernel_rfl) (by kernel_rfl) (fun _ _ _ h => h) (Or.inl ⟨by rfl, ?_⟩) hHeld2 ?_
      rotate_left
      · intro w hSw
        (try dsimp only at hSw)
        go_simp
        try with_reducible rfl
      try simp only [Act.put, List.setIfInBounds_toArray, List.set_cons_zero, List.set_cons_succ]
      refine wpAnyH_take (i := 11) (oi := { dst := some 37, op := Op.pick (Operand.tmp 33) (Operand.const (Value.bool true)) (Operand.tmp 36), type := 4, pos := "laws.go:2435", after := #[{ on := 7, ground := Ground.data }, { on := 10, ground := Ground.data }], guard := none }) (v := ?_) rfl (by kernel_rfl) (by kernel_rfl) (by kernel_rfl) (fun _ _ _ h => h) (Or.inl ⟨by rfl, ?_⟩) hHeld2 ?_
      rotate_left
      · intro w hSw
        (try dsimp only at hSw)
        go_simp
        try with_reducible rfl
      try simp only [Act.put, List.setIfInBounds_toArray, List.set_cons_zero, List.set_cons_succ]
      refine wpAnyH_take (i := 12) (oi := { dst := some 38, op := Op.move (Operand.tmp 37), type := 4, pos := "laws.go:2435", after := #[{ on := 11, ground := Ground.data }, { on := 7, ground := Ground.chain }], guard := none }) (v := ?_) rfl (by kernel_rfl) (by kernel_rfl) (by kernel_rfl) (fun _ _ _ h => h) (Or.inl ⟨by rfl, ?_⟩) hHeld2 ?_
      rotate_left
      · intro w hSw
        (try dsimp only at hSw)
        go_simp
        try with_reducible rfl
      try simp only [Act.put, List.setIfInBounds_toArray, List.set_cons_zero, List.set_cons_succ]
      refine wpAnyH_take (i := 13) (oi := { dst := some 39, op := Op.move (Operand.tmp 6), type := 3, pos := "laws.go:2435", after := #[{ on := 12, ground := Ground.guard }], guard := some (12, false) }) rfl (by kernel_rfl) (by kernel_rfl) (by kernel_rfl) (fun _ _ _ h => h) (Or.inr ⟨by kernel_rfl, rfl⟩) hHeld2 ?_
      try simp only [Act.put, List.setIfInBounds_toArray, List.set_cons_zero, List.set_cons_succ]
      refine wpAnyH_take (i := 14) (oi := { dst := some 40, op := Op.binOp BinOp.eql 3 (Operand.tmp 39) (Operand.const (Value.int IntKind.i64 40)) 3, type := 4, pos := "laws.go:2435", after := #[{ on := 13, ground := Ground.data }, { on := 12, ground := Ground.guard }], guard := some (12, false) }) rfl (by kernel_rfl) (by kernel_rfl) (by kernel_rfl) (fun _ _ _ h => h) (Or.inr ⟨by kernel_rfl, rfl⟩) hHeld2 ?_
      try simp only [Act.put, List.setIfInBounds_toArray, List.set_cons_zero, List.set_cons_succ]
      refine wpAnyH_take (i := 15) (oi := { dst := some 41, op := Op.pick (Operand.tmp 38) (Operand.const (Value.bool true)) (Operand.tmp 40), type := 4, pos := "laws.go:2435", after := #[{ on := 12, ground := Ground.data }, { on := 14, ground := Ground.data }], guard := none }) (v := ?_) rfl (by kernel_rfl) (by kernel_rfl) (by kernel_rfl) (fun _ _ _ h => h) (Or.inl ⟨by rfl, ?_⟩) hHeld2 ?_
      rotate_left
      · intro w hSw
        (try dsimp only at hSw)
        go_simp
        try with_reducible rfl
      try simp only [Act.put, List.setIfInBounds_toArray, List.set_cons_zero, List.set_cons_succ]
      refine wpAnyH_done (by kernel_rfl) ?_ _
      all_goals go_wp2_with fail
      all_goals first | (go_region_held3 (fun W => W.cell? ⟨w2.heap.size, 0, none⟩ = some (.int .i64 L) ∧ W.cell? ⟨w2.heap.size, 1, none⟩ = some (.int .i64 U)) (first | exact K3.out.twoD | exact (blkDrewD K3.out).twoD | exact K4.out.twoD) (first | (go_at_call 9; (with_reducible refine (SPn.out _).mono ?_); rintro e w4 ⟨rfl, hb4⟩; have K4 := Lib.hid (Blk.below (blkDrewD K3.out) hb4 K3.out.lt); have HB4 := Lib.hid (HB3.out.drew.trans (hb4.mono HB3.out.size)); clear hb4))) | fail "WALK"
      all_goals go_wp2_with fail
      all_goals
        go_ret
        exact ⟨rfl, HB4.out⟩
    | true =>
      obtain ⟨l0, lu, u1⟩ := Dc.val_bd hok
      obtain ⟨⟨y0, y1⟩, ⟨d0, d1⟩, ⟨p0, p1⟩, n0, n1⟩ := Dc.ok_iff.1 hok
      have HOk := Lib.hid hok
      have HL := Lib.hid (show ((Dc.val y p d n).1, (Dc.val y p d n).2) = Dc.val y p d n from rfl)
      generalize (Dc.val y p d n).1 = L at *
      generalize (Dc.val y p d n).2 = U at *
      clear hok
      have HB2 := Lib.hid (HB0.out.alloc HB0.out.size (.cells #[.int .i64 L, .int .i64 U] 26))
      have K2 := Lib.hid (Blk.new w2 #[.int .i64 L, .int .i64 U] 26)
      have hc1 : (U == 0) = false := by simp only [beq_eq_false_iff_ne, ne_eq]; omega
      have hll : (L != L) = false := by simp
      have huu : (U != U) = false := by simp
      have hle : (L == L) = true := by simp
      have hue : (U == U) = true := by simp
      by_cases hpd : n = 40
      · have hc2 : (n == 40) = true := by simp [hpd]
        clear IM hpd
        go_wp2_with fail
        first | (go_region_held3 (fun W => W.cell? ⟨w2.heap.size, 0, none⟩ = some (.int .i64 L) ∧ W.cell? ⟨w2.heap.size, 1, none⟩ = some (.int .i64 U)) (first | exact K2.out.twoD | exact (blkDrewD K2.out).twoD | exact K3.out.twoD) (first | (go_at_call 9; (with_reducible refine (SPn.out _).mono ?_); rintro e w3 ⟨rfl, hb3⟩; have K3 := Lib.hid (Blk.below (blkDrewD K2.out) hb3 K2.out.lt); have HB3 := Lib.hid (HB2.out.drew.trans (hb3.mono HB2.out.size)); clear hb3))) | fail "WALK"
        all_goals go_wp2_with fail
        all_goals first | (go_region_held3 (fun W => W.cell? ⟨w2.heap.size, 0, none⟩ = some (.int .i64 L) ∧ W.cell? ⟨w2.heap.size, 1, none⟩ = some (.int .i64 U)) (first | exact K3.out.twoD | exact (blkDrewD K3.out).twoD | exact K4.out.twoD) (first | (go_at_call 9; (with_reducible refine (SPn.out _).mono ?_); rintro e w4 ⟨rfl, hb4⟩; have K4 := Lib.hid (Blk.below (blkDrewD K3.out) hb4 K3.out.lt); have HB4 := Lib.hid (HB3.out.drew.trans (hb4.mono HB3.out.size)); clear hb4))) | fail "WALK"
        all_goals go_wp2_with fail
        all_goals
          go_ret
          exact ⟨rfl, HB4.out⟩
      · have hc2 : (n == 40) = false := by simp [hpd]
        have PE := Lib.hid (fun (_ : Unit) W hW => Dc.per_any ea HOk.out HL.out W (by omega) hW)
        have MU := Lib.hid (fun M N W hW => mulRange_any ea M N (1000000 + y) (1000000 + y) W hW)
        have hwy : IntKind.i64.wrap (1000000 + y) = 1000000 + y := IntWalk.i64_in _ (by omega)
        clear IM hpd
        go_wp2_with fail
        first | (go_region_held3 (fun W => W.cell? ⟨w2.heap.size, 0, none⟩ = some (.int .i64 L) ∧ W.cell? ⟨w2.heap.size, 1, none⟩ = some (.int .i64 U)) (first | exact K2.out.twoD | exact (blkDrewD K2.out).twoD | exact K3.out.twoD) (first | (go_at_call 9; (with_reducible refine (SPn.out _).mono ?_); rintro e w3 ⟨rfl, hb3⟩; have K3 := Lib.hid (Blk.below (blkDrewD K2.out) hb3 K2.out.lt); have HB3 := Lib.hid (HB2.out.drew.trans (hb3.mono HB2.out.size)); clear hb3))) | fail "WALK"
        all_goals go_wp2_with fail
        all_goals
          refine (PE.out () _ (HSe.out _ HB3.out)).mono ?_
          rintro e w4 ⟨M, N, rfl, hmul, hM, hN, hb4⟩
          have HC4 := Lib.hid (HB3.out.trans (hb4.mono HB3.out.size))
          have HB4 := Lib.hid (HC4.out.alloc HC4.out.size (.cells #[.int .i64 M, .int .i64 N] 26))
          have KM := Lib.hid (Blk.new w4 #[.int .i64 M, .int .i64 N] 26)

          replace K3 := Lib.hid ((K3.out.below hb4 K3.out.lt).alloc (.cells #[.int .i64 M, .int .i64 N] 26))
          clear hb4
          obtain ⟨⟨a0, a1⟩, -, -⟩ := K3.out.two
          obtain ⟨⟨m0, m1⟩, -, -⟩ := KM.out.two
          go_wp2_with fail
        all_goals
          refine (MU.out M N _ (HSe.out _ HB4.out)).mono ?_
          rw [hmul]
          rintro e w5 ⟨rfl, hb5⟩
          generalize Rg.fl (M * (1000000 + y)) = P at hM ⊢
          generalize Rg.cl (N * (1000000 + y)) = Q at hN ⊢
          have e1 := decide_eq_true hM
          have e2 := decide_eq_true hN
          have HC5 := Lib.hid (HB4.out.trans (hb5.mono HB4.out.size))
          have HB5 := Lib.hid (HC5.out.alloc HC5.out.size (.cells #[.int .i64 P, .int .i64 Q] 26))
          replace K3 := Lib.hid (K3.out.below hb5 K3.out.lt)
          have hk3 := K3.out.lt
          clear hb5 a0 a1 m0 m1
          obtain ⟨⟨a0, a1⟩, -, -⟩ := K3.out.two
          obtain ⟨⟨b0, b1⟩, -, -⟩ := (K3.out.alloc (.cells #[.int .i64 P, .int .i64 Q] 26)).two
          obtain ⟨⟨q0, q1⟩, -, -⟩ := (Blk.new w5 #[.int .i64 P, .int .i64 Q] 26).two
          go_wp2_with fail
          go_ret
          exact ⟨rfl, HB5.out⟩
end Go.Proofs.YtfelledogdplaaaDoor
