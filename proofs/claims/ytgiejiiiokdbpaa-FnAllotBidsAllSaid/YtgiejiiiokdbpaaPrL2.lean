/- The laws of shares and of draws: order, equal weights, draws. -/
import Derived.Test.YtgiejiiiokdbpaaPrL
namespace Go.Proofs.Ytgiejiiiokdbpaa
open Go.RowKit
theorem Pr.val_ord {n : Int} {xs : List Int} (h : (Pr.val n xs).length = xs.length) {i j : Nat} (hi : i < xs.length) (hj : j < xs.length) (hw : xs.getD j 0 < xs.getD i 0) : (Pr.val n xs).getD j 0 ≤ (Pr.val n xs).getD i 0 := by
  cases hb : Pr.okB n xs with
  | false => rw [Pr.val_no hb] at h; simp at h; omega
  | true => rw [Pr.val_yes hb]; exact Pr.order (Pr.okB_ok hb).2.2 hi hj hw
theorem proRate_yes (w : World) (n : Int) (v : Value) (xs : List Int) (hv : R1o w v xs) (hm : xs.length ≤ 9223372036854775807) (hok : Pr.okB n xs = true) : Calls Try.prog 18 #[.int .i64 n, v] w (HandsI (Pr.out n xs) w) := by
  have h := proRate_any w n v xs hv hm
  rw [Pr.val_yes hok] at h
  exact h
theorem rep_at {k i : Nat} (hi : i < k) : (List.replicate k (7 : Int)).getD i 0 = 7 := by
  rw [List.getD_eq_getElem?_getD, List.getElem?_replicate, if_pos hi]; rfl
theorem rep_sum (k : Nat) : (List.replicate k (7 : Int)).sum = k * 7 := by
  induction k with
  | zero => rfl
  | succ k ih => rw [List.replicate_succ, List.sum_cons, ih]; omega
theorem rep_ok {n : Int} {k : Nat} (n0 : 0 ≤ n) (n1 : n ≤ 1000000000) (k0 : 1 ≤ k) (k1 : k ≤ 8) : Pr.okB n (List.replicate k 7) = true := by
  unfold Pr.okB Ho.ok
  rw [btw_t n0 n1, List.length_replicate, btw_t (by omega) (by omega), rep_sum]
  have : (List.replicate k (7 : Int)).all holdB = true := List.all_eq_true.2 fun x hx => by rw [List.eq_of_mem_replicate hx]; decide
  rw [this]
  have h : ((k : Int) * 7 != 0) = true := by simp; omega
  rw [h]; rfl

set_option maxRecDepth 8000 in
set_option maxHeartbeats 8000000 in
theorem lawProRateOrder (a : Option Addr) (len cap : Nat) (zs : List Int) (w : World) (h : IsRow .u8 w a len cap zs) :
    Calls Try.prog 4 #[.slice a len cap] w fun e w' => e = .returned (.bool true) ∧ Below w.heap.size w w' := by
  have H := Lib.hid h; clear h
  by_cases hl : 1048576 < (len : Int)
  · go_enter Try.func4, Try.ntmps4
    go_wp2_with fail
    go_ret
    exact ⟨rfl, Below.refl _ _⟩
  · have hl' := decide_eq_false hl
    clear hl
    go_enter Try.func4, Try.ntmps4
    go_wp2_with fail
    refine (drawPR_any _ _ _ _ _ H.out).mono ?_
    rintro e w1 ⟨n, a1, c1, xs, rfl, hR, hlen, ⟨n0, n1⟩, hb1⟩
    have R1 := Lib.hid hR; clear hR
    have hm : xs.length ≤ 9223372036854775807 := by omega
    have hxl := Pr.val_le (A := n) (xs := xs)
    go_wp2_with fail
    refine (proRate_any _ _ _ _ R1.out hm).mono ?_
    rintro e w2 ⟨v2, rfl, h2, hb2⟩
    have R2 := Lib.hid (R1.out.below hb2 (Nat.le_refl _))
    have HB2 := Lib.hid (hb1.trans (hb2.mono hb1.size))
    obtain ⟨a2, c2, rfl⟩ := h2.slice
    have X2 := Lib.hid h2
    clear h2 hb2 R1
    go_wp2_with fail
    refine (sproRate_any _ _ _ _ R2.out hm).mono ?_
    rintro e w3 ⟨v3, rfl, h3, hb3⟩
    have R3' := Lib.hid (R2.out.below hb3 (Nat.le_refl _))
    have HB3 := Lib.hid (HB2.out.trans (hb3.mono HB2.out.size))
    have X3 := Lib.hid (X2.out.below hb3 (Nat.le_refl _))
    have Y3 := Lib.hid h3.r1
    clear h3 hb3 X2 R2
    go_wp2_with fail
    refine (equ_same _ _ _ _ X3.out.r1 Y3.out (by omega)).mono ?_
    rintro e w4 ⟨rfl, hb4⟩
    have R4 := Lib.hid (R3'.out.below hb4 (Nat.le_refl _))
    have HB4 := Lib.hid (HB3.out.trans (hb4.mono HB3.out.size))
    have X4 := Lib.hid (X3.out.below hb4 (Nat.le_refl _))
    clear hb4 X3 R3' Y3
    by_cases h0 : (Pr.val n xs).length ≠ xs.length
    · have hz : (((Pr.val n xs).length : Int) != (xs.length : Int)) = true := by simp only [bne_iff_ne, ne_eq]; omega
      clear h0
      go_wp2_with fail
      refine (sproRate_any _ _ _ _ R4.out hm).mono ?_
      rintro e w5 ⟨v5, rfl, h5, hb5⟩
      have X5 := Lib.hid (X4.out.below hb5 (Nat.le_refl _))
      have HB5 := Lib.hid (HB4.out.trans (hb5.mono HB4.out.size))
      have Y5 := Lib.hid h5.r1
      clear h5 hb5 hz
      go_wp2_with fail
      refine (equ_same _ _ _ _ X5.out.r1 Y5.out (by omega)).mono ?_
      rintro e w6 ⟨rfl, hb6⟩
      go_wp2_with fail
      go_ret
      exact ⟨rfl, HB5.out.trans (hb6.mono HB5.out.size)⟩
    · have hz : (((Pr.val n xs).length : Int) != (xs.length : Int)) = false := by simp only [bne_eq_false_iff_eq]; omega
      have hle : (Pr.val n xs).length = xs.length := by omega
      have HOrd := Lib.hid (fun i j (hi : i < xs.length) (hj : j < xs.length) => Pr.val_ord hle hi hj)
      clear h0
      generalize Pr.val n xs = ys at *
      rw [hle] at X4 hz hxl ⊢
      obtain ⟨k, hk⟩ : ∃ k, k = xs.length := ⟨_, rfl⟩
      rw [← hk] at hle HOrd X4 hz R4 hxl ⊢
      have HN := Lib.hid hk; clear hk
      have HL := Lib.hid hle; clear hle
      have X4r := Lib.hid (X4.out.r1)
      go_wp2_with fail
      clear hz
      go_loopw [6] (fun x wr => ∃ i : Nat, i ≤ k ∧ x = .int .i64 i ∧ ∃ m, wr = w4.drewN m) (fun x _ => k - (intOf x).toNat)
      case atStart => exact ⟨0, Nat.zero_le _, rfl, 0, rfl⟩
      case round =>
        obtain ⟨i, hi, rfl, m, rfl⟩ := hrel
        by_cases hlt : i < k
        · have hi1 : (i : Int) < k := by omega
          have hi0 : (0 : Int) ≤ i := by omega
          go_wp2_with fail
          go_loopw [7] (fun y wr => ∃ j : Nat, j ≤ k ∧ y = .int .i64 j ∧ ∃ q, wr = w4.drewN q) (fun y _ => k - (intOf y).toNat)
          case atStart => exact ⟨0, Nat.zero_le _, rfl, m, rfl⟩
          case round =>
            obtain ⟨j, hj, rfl, q, rfl⟩ := hrel
            by_cases hjl : j < k
            · have hj1 : (j : Int) < k := by omega
              have hj0 : (0 : Int) ≤ j := by omega
              obtain ⟨b, off, c, e, _, hc⟩ := R4.out.2 (by rw [← HN.out]; omega)
              rw [← HN.out] at e
              simp only [Value.slice.injEq, true_and] at e
              obtain ⟨rfl, rfl⟩ := e
              obtain ⟨b2, off2, c3, e2, _, hc2⟩ := X4r.out.2 (by rw [HL.out]; omega)
              rw [HL.out] at e2
              simp only [Value.slice.injEq, true_and] at e2
              obtain ⟨rfl, rfl⟩ := e2
              have d0 := hc i (by rw [← HN.out]; exact hlt)
              have d1 := hc j (by rw [← HN.out]; exact hjl)
              have e0 := hc2 i (by rw [HL.out]; exact hlt)
              have e1 := hc2 j (by rw [HL.out]; exact hjl)
              clear hc hc2
              have hord := HOrd.out i j hlt hjl
              generalize xs.getD i 0 = xi at d0 hord
              generalize xs.getD j 0 = xj at d1 hord
              generalize ys.getD i 0 = yi at e0 hord
              generalize ys.getD j 0 = yj at e1 hord
              by_cases hx : xj < xi
              · have hy : ¬ yi < yj := by have := hord hx; omega
                clear hord
                go_wp2_with fail
                go_quiet (fail)
                go_wp2_with fail
                go_roundw
                case rel => exact ⟨j + 1, by omega, by go_num, _, (by first | exact World.drewN_drewN _ _ _ | rfl)⟩
                case measure => simp [intOf]; omega
              · have hxd := decide_eq_false hx
                have hxe : decide (xi > xj) = false := hxd
                clear hord
                go_wp2_with fail
                go_quiet (fail)
                go_wp2_with fail
                go_roundw
                case rel => exact ⟨j + 1, by omega, by go_num, _, (by first | exact World.drewN_drewN _ _ _ | rfl)⟩
                case measure => simp [intOf]; omega
            · obtain rfl : j = k := by omega
              go_wp2_with fail
              go_roundw
              case rel => exact ⟨i + 1, by omega, by go_num, q, rfl⟩
              case measure => simp [intOf]; omega
        · obtain rfl : i = k := by omega
          go_wp2_with fail
          go_ret
          exact ⟨rfl, belowD HB4.out _⟩
set_option maxRecDepth 8000 in
set_option maxHeartbeats 8000000 in
theorem lawProRateEqual (a : Option Addr) (len cap : Nat) (zs : List Int) (w : World) (h : IsRow .u8 w a len cap zs) :
    Calls Try.prog 5 #[.slice a len cap] w fun e w' => e = .returned (.bool true) ∧ Below w.heap.size w w' := by
  have H := Lib.hid h; clear h
  by_cases hl : 1048576 < (len : Int)
  · go_enter Try.func5, Try.ntmps5
    go_wp2_with fail
    go_ret
    exact ⟨rfl, Below.refl _ _⟩
  · have hl' := decide_eq_false hl
    clear hl
    go_enter Try.func5, Try.ntmps5
    go_wp2_with fail
    refine (drawPR_any _ _ _ _ _ H.out).mono ?_
    rintro e w1 ⟨n, a1, c1, xs, rfl, hR, hlen, ⟨n0, n1⟩, hb1⟩
    have R1 := Lib.hid hR; clear hR
    have hm : xs.length ≤ 9223372036854775807 := by omega
    have hxl := Pr.val_le (A := n) (xs := xs)
    go_wp2_with fail
    refine (proRate_any _ _ _ _ R1.out hm).mono ?_
    rintro e w2 ⟨v2, rfl, h2, hb2⟩
    have R2 := Lib.hid (R1.out.below hb2 (Nat.le_refl _))
    have HB2 := Lib.hid (hb1.trans (hb2.mono hb1.size))
    obtain ⟨a2, c2, rfl⟩ := h2.slice
    have X2 := Lib.hid h2
    clear h2 hb2 R1
    go_wp2_with fail
    refine (sproRate_any _ _ _ _ R2.out hm).mono ?_
    rintro e w3 ⟨v3, rfl, h3, hb3⟩
    have R3' := Lib.hid (R2.out.below hb3 (Nat.le_refl _))
    have HB3 := Lib.hid (HB2.out.trans (hb3.mono HB2.out.size))
    have X3 := Lib.hid (X2.out.below hb3 (Nat.le_refl _))
    have Y3 := Lib.hid h3.r1
    clear h3 hb3 X2 R2
    go_wp2_with fail
    refine (equ_same _ _ _ _ X3.out.r1 Y3.out (by omega)).mono ?_
    rintro e w4 ⟨rfl, hb4⟩
    have R4 := Lib.hid (R3'.out.below hb4 (Nat.le_refl _))
    have HB4 := Lib.hid (HB3.out.trans (hb4.mono HB3.out.size))
    have X4 := Lib.hid (X3.out.below hb4 (Nat.le_refl _))
    clear hb4 X3 R3' Y3
    by_cases h0 : (Pr.val n xs).length = 0
    · have hz : (((Pr.val n xs).length : Int) == 0) = true := by rw [h0]; rfl
      clear h0
      go_wp2_with fail
      refine (sproRate_any _ _ _ _ R4.out hm).mono ?_
      rintro e w5 ⟨v5, rfl, h5, hb5⟩
      have X5 := Lib.hid (X4.out.below hb5 (Nat.le_refl _))
      have HB5 := Lib.hid (HB4.out.trans (hb5.mono HB4.out.size))
      have Y5 := Lib.hid h5.r1
      clear h5 hb5 hz
      go_wp2_with fail
      refine (equ_same _ _ _ _ X5.out.r1 Y5.out (by omega)).mono ?_
      rintro e w6 ⟨rfl, hb6⟩
      go_wp2_with fail
      go_ret
      exact ⟨rfl, HB5.out.trans (hb6.mono HB5.out.size)⟩
    · have hz : (((Pr.val n xs).length : Int) == 0) = false := by rw [beq_eq_false_iff_ne]; omega
      have hok := Pr.val_ne h0
      obtain ⟨⟨A0, A1⟩, ⟨l0, l1, hall⟩, ok⟩ := Pr.okB_ok hok
      have HW := Lib.hid (Pr.val_yes hok)
      obtain ⟨t1, t2⟩ := Ho.sum_bd hall l1
      have hT := ok.t0
      clear hok h0
      rw [HW.out] at X4 hz
      rw [HW.out]
      have hwl := Pr.out_len n xs
      rw [hwl] at hz X4 ⊢
      have HOk := Lib.hid (rep_ok A0 A1 l0 l1)
      obtain ⟨k, hk⟩ : ∃ k, k = xs.length := ⟨_, rfl⟩
      rw [← hk] at hwl hz X4 R4 l0 l1 HOk ⊢
      have HN := Lib.hid hk; clear hk
      clear ok hall X4 HW hwl
      have HA4 := Lib.hid (HB4.out.alloc HB4.out.size (.cells #[] 3))
      have HO4 := Lib.hid (own_new w4)
      have hsz4 : w.heap.size ≤ w4.heap.size := HB4.out.size
      go_wp2_with fail
      clear hz
      go_loopw [6, 7] (fun o x wr => ∃ i : Nat, i ≤ k ∧ x = .int .i64 i ∧ Hid (Own wr w4.heap.size o (List.replicate i 7)) ∧ Hid (Below w.heap.size w wr)) (fun _ x _ => k - (intOf x).toNat)
      case atStart => exact ⟨0, Nat.zero_le _, rfl, HO4, HA4⟩
      case round =>
        obtain ⟨i, hi, rfl, HO, HB⟩ := hrel
        obtain ⟨b6, c6, e6, hb6, -⟩ := HO.out.form
        rw [List.length_replicate] at e6
        subst e6
        by_cases hlt : i < k
        · have hKN := (Blk.new wr #[.int .i64 7] 3).one0
          have hszr := HB.out.size
          have hsz5 := (World.ownsRow.lt HO.out.1 b6 rfl).2
          go_wp2_with (at_builtin; refine wpList_push _ rfl _ _ rfl w4.heap.size _ (List.replicate i 7) rfl (HO.out.alloc _) wr.heap.size _ 7 rfl hKN (by rw [List.length_replicate]; omega) (by simp; omega) ?_; intro v6 w6 hown6 hg6)
          have HO6 := Lib.hid hown6
          have HB6 := Lib.hid ((HB.out.alloc hszr (.cells #[.int .i64 7] 3)).grown hg6 (by simp; omega) (fun j hj => by have hj2 : some b6 = some j := hj; injection hj2 with hj2; omega))
          clear hown6 hg6 hKN
          go_roundw
          case rel => exact ⟨i + 1, by omega, by go_num, Lib.hid (by rw [List.replicate_succ']; exact HO6.out), HB6⟩
          case measure => simp [intOf]; omega
        · obtain rfl : i = k := by omega
          obtain ⟨⟨-, -⟩, -, ok⟩ := Pr.okB_ok HOk.out
          have HEq := Lib.hid (fun p q (hpq : p < q) (hq : q < i) => Pr.equal ok hpq (by rw [List.length_replicate]; exact hq) (by rw [rep_at hq, rep_at (Nat.lt_trans hpq hq)]))
          have HOb := Lib.hid (fun p (hp : p < i) => And.intro (Pr.out_nn ok (i := p) (by rw [List.length_replicate]; exact hp)) (Pr.out_le ok (i := p) (by rw [List.length_replicate]; exact hp)))
          have HSum := Lib.hid (Pr.out_sum ok)
          have HSm := Lib.hid (Pr.small_out ok A1)
          have HLn := Lib.hid ((Pr.out_len n (List.replicate i 7)).trans List.length_replicate)
          have hr := HO.out.irow.r1
          have PR := Lib.hid (proRate_yes _ n _ _ hr (by rw [List.length_replicate]; omega) HOk.out)
          have hszr := HB.out.size
          have heq : (n == n) = true := by simp
          clear ok hr
          go_wp2_with fail
          refine PR.out.mono ?_
          rintro e w7 ⟨v7, rfl, h7, hb7⟩
          have HB7 := Lib.hid (HB.out.trans (hb7.mono hszr))
          clear PR HOk
          generalize Pr.out n (List.replicate i 7) = ys at *
          obtain ⟨a7, c7, rfl⟩ := h7.slice
          have hyl : ys.length = i := HLn.out
          rw [hyl] at h7 ⊢
          have X7 := Lib.hid h7.r1
          have LO := Lib.hid (fun m => lsum_any (w7.drewN m) _ ys (X7.out.drewN m) (by omega) (small_big HSm.out))
          rw [HSum.out] at LO
          clear h7 hb7 hyl
          go_wp2_with fail
          go_loopw [9] (fun x wr => ∃ p : Nat, p + 1 ≤ i ∧ x = .int .i64 ((p : Int) + 1) ∧ ∃ m, wr = w7.drewN m) (fun x _ => i - (intOf x).toNat)
          case atStart => exact ⟨0, by omega, by go_num, 0, rfl⟩
          case round =>
            obtain ⟨p, hp, rfl, m, rfl⟩ := hrel
            by_cases hpl : p + 1 < i
            · obtain ⟨b2, off2, c3, e2, _, hc2⟩ := X7.out.2 (by rw [HLn.out]; omega)
              rw [HLn.out] at e2
              simp only [Value.slice.injEq, true_and] at e2
              obtain ⟨rfl, rfl⟩ := e2
              have d0 := hc2 (p + 1) (by rw [HLn.out]; exact hpl)
              have d1 := hc2 p (by rw [HLn.out]; omega)
              have d2 := hc2 0 (by rw [HLn.out]; omega)
              clear hc2
              obtain ⟨g1, g2⟩ := HEq.out p (p + 1) (by omega) hpl
              obtain ⟨g3, g4⟩ := HEq.out 0 (p + 1) (by omega) hpl
              obtain ⟨y0, y1⟩ := HOb.out (p + 1) hpl
              obtain ⟨y2, y3⟩ := HOb.out 0 (by omega)
              simp only [Nat.add_zero] at d2
              generalize ys.getD (p + 1) 0 = u at d0 g1 g2 g3 g4 y0 y1
              generalize ys.getD p 0 = v at d1 g1 g2
              generalize ys.getD 0 0 = z at d2 g3 g4 y2 y3
              have hp1 : (p : Int) + 1 < i := by omega
              have hp0 : (0 : Int) ≤ (p : Int) + 1 := by omega
              have hp2 : (p : Int) < i := by omega
              have hp3 : (0 : Int) ≤ (p : Int) := by omega
              have hi0 : (0 : Int) < i := by omega
              have hi1 : 0 < i := by omega
              have hp4 : p < i := by omega
              have W1 : IntKind.i64.wrap (p : Int) = p := IntWalk.i64_in _ (by omega)
              have W2 : IntKind.i64.wrap ((p : Int) + 1 - 1) = p := by rw [show (p : Int) + 1 - 1 = p by omega]; exact W1
              have f1 : ¬ v < u := by omega
              have f2 : ¬ 1 < z - u := by omega
              have f3 := decide_eq_false f1
              have f4 := decide_eq_false f2
              have W3 : IntKind.i64.wrap (z - u) = z - u := IntWalk.i64_in _ (by omega)
              go_wp2_with fail
              go_quiet (fail)
              go_wp2_with fail
              exact ⟨⟨p + 1, by omega, by go_num, _, rfl⟩, by simp only [intOf]; omega⟩
            · obtain rfl : i = p + 1 := by omega
              have hnl : ¬ (p : Int) + 1 < ((p + 1 : Nat) : Int) := by omega
              have hnl2 : ¬ (p : Int) + 1 < (p : Int) + 1 := by omega
              go_wp2_with (first | (go_at_call 21; (with_reducible refine (LO.out _).mono ?_); rintro e w6 ⟨rfl, rfl⟩))
              go_ret
              exact ⟨rfl, belowD HB7.out _⟩
set_option maxRecDepth 8000 in
set_option maxHeartbeats 8000000 in
theorem lawDrawLots (a : Option Addr) (len cap : Nat) (zs : List Int) (w : World) (h : IsRow .u8 w a len cap zs) :
    Calls Try.prog 7 #[.slice a len cap] w fun e w' => e = .returned (.bool true) ∧ Below w.heap.size w w' := by
  have H := Lib.hid h; clear h
  by_cases hl : 1048576 < (len : Int)
  · go_enter Try.func7, Try.ntmps7
    go_wp2_with fail
    go_ret
    exact ⟨rfl, Below.refl _ _⟩
  · have hl' := decide_eq_false hl
    clear hl
    go_enter Try.func7, Try.ntmps7
    go_wp2_with fail
    refine (drawDL_any _ _ _ _ _ H.out).mono ?_
    rintro e w1 ⟨n, a1, c1, xs, rfl, hR, hlen, ⟨n0, n1⟩, hb1⟩
    have R1 := Lib.hid hR; clear hR
    have hm : xs.length ≤ 9223372036854775807 := by omega
    have hxl := Dl.val_le (n := n) (xs := xs)
    go_wp2_with fail
    refine (drawLots_any _ _ _ _ R1.out hm).mono ?_
    rintro e w2 ⟨v2, rfl, h2, hb2⟩
    have R2 := Lib.hid (R1.out.below hb2 (Nat.le_refl _))
    have HB2 := Lib.hid (hb1.trans (hb2.mono hb1.size))
    obtain ⟨a2, c2, rfl⟩ := h2.slice
    have X2 := Lib.hid h2
    clear h2 hb2 R1
    go_wp2_with fail
    refine (sdrawLots_any _ _ _ _ R2.out hm).mono ?_
    rintro e w3 ⟨v3, rfl, h3, hb3⟩
    have R3' := Lib.hid (R2.out.below hb3 (Nat.le_refl _))
    have HB3 := Lib.hid (HB2.out.trans (hb3.mono HB2.out.size))
    have X3 := Lib.hid (X2.out.below hb3 (Nat.le_refl _))
    have Y3 := Lib.hid h3.r1
    clear h3 hb3 X2 R2
    go_wp2_with fail
    refine (equ_same _ _ _ _ X3.out.r1 Y3.out (by omega)).mono ?_
    rintro e w4 ⟨rfl, hb4⟩
    have R4 := Lib.hid (R3'.out.below hb4 (Nat.le_refl _))
    have HB4 := Lib.hid (HB3.out.trans (hb4.mono HB3.out.size))
    have X4 := Lib.hid (X3.out.below hb4 (Nat.le_refl _))
    clear hb4 X3 R3' Y3
    by_cases h0 : (Dl.val n xs).length = 0
    · have hz : (((Dl.val n xs).length : Int) == 0) = true := by rw [h0]; rfl
      clear h0
      go_wp2_with fail
      refine (sdrawLots_any _ _ _ _ R4.out hm).mono ?_
      rintro e w5 ⟨v5, rfl, h5, hb5⟩
      have X5 := Lib.hid (X4.out.below hb5 (Nat.le_refl _))
      have HB5 := Lib.hid (HB4.out.trans (hb5.mono HB4.out.size))
      have Y5 := Lib.hid h5.r1
      clear h5 hb5 hz
      go_wp2_with fail
      refine (equ_same _ _ _ _ X5.out.r1 Y5.out (by omega)).mono ?_
      rintro e w6 ⟨rfl, hb6⟩
      go_wp2_with fail
      go_ret
      exact ⟨rfl, HB5.out.trans (hb6.mono HB5.out.size)⟩
    · have hz : (((Dl.val n xs).length : Int) == 0) = false := by rw [beq_eq_false_iff_ne]; omega
      have hok := Dl.val_ne h0
      obtain ⟨⟨A0, A1⟩, ⟨l0, l1, hall⟩, ok⟩ := Dl.okB_ok hok
      have HW := Lib.hid (Dl.val_yes hok)
      obtain ⟨t1, t2⟩ := Ho.sum_bd hall l1
      have hT := ok.t0
      clear hok h0
      rw [HW.out] at X4 hz
      rw [HW.out]
      have hwl := Pr.out_len n xs
      rw [hwl] at hz X4 ⊢
      have HW2 := Lib.hid (fun i (hi : i < xs.length) => And.intro (Pr.out_nn ok hi) (Pr.out_w ok A1 hi))
      have okT : Pr.Ok xs.sum xs := ⟨Int.le_of_lt ok.t0, ok.w0, ok.t0⟩
      have HDT := Lib.hid (show Dl.val xs.sum xs = xs by rw [Dl.val_yes (by unfold Dl.okB Ho.ok; rw [btw_t (by omega) (by omega), hall, btw_t (Int.le_of_lt ok.t0) (Int.le_refl _)]; simp; omega), Pr.out_all okT])
      have LS := Lib.hid (fun m => lsum_any (w4.drewN m) _ xs (R4.out.drewN m) (by omega) (small_big (small_hold hall)))
      have LO := Lib.hid (fun m => lsum_any (w4.drewN m) _ (Pr.out n xs) (show R1o (w4.drewN m) (.slice a2 xs.length c2) (Pr.out n xs) by have h := X4.out.r1; rw [hwl] at *; exact h.drewN m) (by rw [hwl]; omega) (small_big (Pr.small_out ok (by omega))))
      rw [Pr.out_sum ok] at LO
      have DT := Lib.hid (fun m => drawLots_any (w4.drewN m) xs.sum _ xs (R4.out.drewN m) hm)
      rw [HDT.out] at DT
      have X4r := Lib.hid (show R1o w4 (.slice a2 xs.length c2) (Pr.out n xs) by have h := X4.out.r1; rw [hwl] at *; exact h)
      have heq : (n == n) = true := by simp
      clear ok okT hall X4 HDT HW
      generalize Pr.out n xs = ys at *
      generalize xs.sum = T at *
      obtain ⟨k, hk⟩ : ∃ k, k = xs.length := ⟨_, rfl⟩
      rw [← hk] at HW2 LS LO DT X4r hz hwl l0 l1 R4 ⊢
      have HN := Lib.hid hk; clear hk
      have HL := Lib.hid hwl; clear hwl
      go_wp2_with fail
      clear hz
      go_loopw [6] (fun x wr => ∃ i : Nat, i ≤ k ∧ x = .int .i64 i ∧ ∃ m, wr = w4.drewN m) (fun x _ => k - (intOf x).toNat)
      case atStart => exact ⟨0, Nat.zero_le _, rfl, 0, rfl⟩
      case round =>
        obtain ⟨i, hi, rfl, m, rfl⟩ := hrel
        by_cases hlt : i < k
        · obtain ⟨b, off, c, e, _, hc⟩ := R4.out.2 (by rw [← HN.out]; omega)
          rw [← HN.out] at e
          simp only [Value.slice.injEq, true_and] at e
          obtain ⟨rfl, rfl⟩ := e
          obtain ⟨b2, off2, c3, e2, _, hc2⟩ := X4r.out.2 (by rw [HL.out]; omega)
          rw [HL.out] at e2
          simp only [Value.slice.injEq, true_and] at e2
          obtain ⟨rfl, rfl⟩ := e2
          have d0 := hc i (by rw [← HN.out]; exact hlt)
          have d1 := hc2 i (by rw [HL.out]; exact hlt)
          clear hc hc2
          obtain ⟨y0, y1⟩ := HW2.out i hlt
          generalize xs.getD i 0 = x at d0 y0 y1
          generalize ys.getD i 0 = y at d1 y0 y1
          have hi1 : (i : Int) < k := by omega
          have hi0 : (0 : Int) ≤ i := by omega
          have f1 : ¬ y < 0 := by omega
          have f2 : ¬ x < y := by omega
          go_wp2_with fail
          go_quiet (fail)
          go_wp2_with fail
          go_roundw
          case rel => exact ⟨i + 1, by omega, by go_num, _, (by first | exact World.drewN_drewN _ _ _ | rfl)⟩
          case measure => simp [intOf]; omega
        · obtain rfl : i = k := by omega
          have HBm := Lib.hid (belowD HB4.out m)
          go_wp2_with (first | (go_at_call 21; first | ((with_reducible refine (LO.out _).mono ?_); rintro e w6 ⟨rfl, rfl⟩) | ((with_reducible refine (LS.out _).mono ?_); rintro e w6 ⟨rfl, rfl⟩)))
          refine (DT.out m).mono ?_
          rintro e w7 ⟨v7, rfl, h7, hb7⟩
          have R7 := Lib.hid ((R4.out.drewN m).below hb7 (Nat.le_refl _))
          have HB7 := Lib.hid (HBm.out.trans (hb7.mono HBm.out.size))
          have Y7 := Lib.hid h7.r1
          clear h7 hb7
          go_wp2_with fail
          refine (equ_same _ _ _ _ Y7.out R7.out (by rw [← HN.out]; omega)).mono ?_
          rintro e w8 ⟨rfl, hb8⟩
          go_wp2_with fail
          go_ret
          exact ⟨rfl, HB7.out.trans (hb8.mono HB7.out.size)⟩
end Go.Proofs.Ytgiejiiiokdbpaa
