/- The laws of bids: draws, order. -/
import Derived.Test.YtgiejiiiokdbpaaAl3
import Derived.Test.YtgiejiiiokdbpaaBdD
import Derived.Test.YtgiejiiiokdbpaaPrL2
namespace Go.Proofs.Ytgiejiiiokdbpaa
open Go.RowKit
theorem Al.val_ord {ps : List Pr} {n : Int} (h : (Al.val ps n).length = ps.length) {i k : Nat} (hi : i < ps.length) (hk : k < ps.length) (h1 : (Al.val ps n).getD i 0 < (ps.getD i pr0).2) (h2 : (ps.getD i pr0).1 < (ps.getD k pr0).1) : (Al.val ps n).getD k 0 = 0 := by
  cases hb : Bd.auc ps n with
  | false => rw [Al.val_no hb] at h; simp at h; omega
  | true => rw [Al.val_yes hb] at h1 ⊢; exact Al.res_order hb hi hk h1 h2
theorem Al.val_le {ps : List Pr} {n : Int} : (Al.val ps n).length ≤ ps.length := by
  cases hb : Bd.auc ps n with
  | false => rw [Al.val_no hb]; simp
  | true => rw [Al.val_yes hb, Al.res_len hb]; exact Nat.le_refl _
set_option maxHeartbeats 1000000 in
theorem drawAB_any (w : World) (a : Option Addr) (len cap : Nat) (zs : List Int) (h : IsRow .u8 w a len cap zs) :
    Calls Try.prog 32 #[.slice a len cap] w (DBdN w) := by
  have H := Lib.hid h; clear h
  go_enter Try.func32, Try.ntmps32
  go_wp2_with fail
  refine (drawSY_any _ _ _ _ _ H.out).mono ?_
  rintro e w1 ⟨ps, b, c, n, rfl, hR, hlen, ⟨n0, n1⟩, hb1⟩
  go_wp2_with fail
  refine bodyPost_ret (v := .tuple #[.slice (some ⟨b, 0, none⟩) ps.length c, .int .i64 n]) (by simp [results, Try.results32, go_sem]) rfl ⟨ps, _, _, n, rfl, hR, hlen, ⟨n0, n1⟩, hb1⟩
set_option maxRecDepth 8000 in
set_option maxHeartbeats 8000000 in
theorem lawAllotBidsOrder (a : Option Addr) (len cap : Nat) (zs : List Int) (w : World) (h : IsRow .u8 w a len cap zs) :
    Calls Try.prog 14 #[.slice a len cap] w fun e w' => e = .returned (.bool true) ∧ Below w.heap.size w w' := by
  have H := Lib.hid h; clear h
  by_cases hl : 1048576 < (len : Int)
  · go_enter Try.func14, Try.ntmps14
    go_wp2_with fail
    go_ret
    exact ⟨rfl, Below.refl _ _⟩
  · have hl' := decide_eq_false hl
    clear hl
    go_enter Try.func14, Try.ntmps14
    go_wp2_with fail
    refine (drawAB_any _ _ _ _ _ H.out).mono ?_
    rintro e w1 ⟨xs, ob, oc, n, rfl, hR, hlen, ⟨n0, n1⟩, hb1⟩
    have R1 := Lib.hid hR; clear hR
    have hm : xs.length ≤ 9223372036854775807 := by omega
    have hl9 := hlen
    have hxl := Al.val_le (ps := xs) (n := n)
    go_wp2_with fail
    refine (allot_any _ _ _ _ R1.out hm).mono ?_
    rintro e w2 ⟨v2, rfl, h2, hb2⟩
    have R2 := Lib.hid (R1.out.below hb2 (Nat.le_refl _))
    have HB2 := Lib.hid (hb1.trans (hb2.mono hb1.size))
    obtain ⟨a2, c2, rfl⟩ := h2.slice
    have X2 := Lib.hid h2
    clear h2 hb2 R1
    go_wp2_with fail
    refine (sallot_any _ _ _ _ R2.out hm).mono ?_
    rintro e w3 ⟨v3, rfl, h3, hb3⟩
    have R3' := Lib.hid (R2.out.below hb3 (Nat.le_refl _))
    have HB3 := Lib.hid (HB2.out.trans (hb3.mono HB2.out.size))
    have X3 := Lib.hid (X2.out.below hb3 (Nat.le_refl _))
    have Y3 := Lib.hid h3.r1
    clear h3 hb3 X2 R2
    go_wp2_with fail
    refine (equ_same _ _ _ _ X3.out.r1 Y3.out (by omega)).mono ?_
    rintro e w4 ⟨rfl, hb4⟩
    have R4 := Lib.hid (R3'.out.below hb4 (Nat.le_refl _))
    have HB4 := Lib.hid (HB3.out.trans (hb4.mono HB3.out.size))
    have X4 := Lib.hid (X3.out.below hb4 (Nat.le_refl _))
    clear hb4 X3 R3' Y3
    by_cases h0 : (Al.val xs n).length ≠ xs.length
    · have hz : (((Al.val xs n).length : Int) != (xs.length : Int)) = true := by simp only [bne_iff_ne, ne_eq]; omega
      clear h0
      go_wp2_with fail
      refine (sallot_any _ _ _ _ R4.out hm).mono ?_
      rintro e w5 ⟨v5, rfl, h5, hb5⟩
      have X5 := Lib.hid (X4.out.below hb5 (Nat.le_refl _))
      have HB5 := Lib.hid (HB4.out.trans (hb5.mono HB4.out.size))
      have Y5 := Lib.hid h5.r1
      clear h5 hb5 hz
      go_wp2_with fail
      refine (equ_same _ _ _ _ X5.out.r1 Y5.out (by omega)).mono ?_
      rintro e w6 ⟨rfl, hb6⟩
      go_wp2_with fail
      go_ret
      exact ⟨rfl, HB5.out.trans (hb6.mono HB5.out.size)⟩
    · have hz : (((Al.val xs n).length : Int) != (xs.length : Int)) = false := by simp only [bne_eq_false_iff_eq]; omega
      have hle : (Al.val xs n).length = xs.length := by omega
      have HOrd := Lib.hid (fun i j (hi : i < xs.length) (hj : j < xs.length) => Al.val_ord hle hi hj)
      clear h0
      generalize Al.val xs n = ys at *
      rw [hle] at X4 hz hxl ⊢
      obtain ⟨k, hk⟩ : ∃ k, k = xs.length := ⟨_, rfl⟩
      rw [← hk] at hle HOrd X4 hz R4 hl9 ⊢
      have HN := Lib.hid hk; clear hk
      have HL := Lib.hid hle; clear hle
      have X4r := Lib.hid (X4.out.r1)
      go_wp2_with fail
      clear hz
      go_loopw [6] (fun x wr => ∃ i : Nat, i ≤ k ∧ x = .int .i64 i ∧ ∃ m, wr = w4.drewN m) (fun x _ => k - (intOf x).toNat)
      case atStart => exact ⟨0, Nat.zero_le _, rfl, 0, rfl⟩
      case round =>
        obtain ⟨i, hi, rfl, m, rfl⟩ := hrel
        by_cases hlt : i < k
        · have hi1 : (i : Int) < k := by omega
          have hi0 : (0 : Int) ≤ i := by omega
          go_wp2_with fail
          go_loopw [7] (fun y wr => ∃ j : Nat, j ≤ k ∧ y = .int .i64 j ∧ ∃ q, wr = w4.drewN q) (fun y _ => k - (intOf y).toNat)
          case atStart => exact ⟨0, Nat.zero_le _, rfl, m, rfl⟩
          case round =>
            obtain ⟨j, hj, rfl, q, rfl⟩ := hrel
            by_cases hjl : j < k
            · have hj1 : (j : Int) < k := by omega
              have hj0 : (0 : Int) ≤ j := by omega
              obtain ⟨b, off, c, e, _, hc⟩ := R4.out.2 (by rw [← HN.out]; omega)
              rw [← HN.out] at e
              simp only [Value.slice.injEq, Option.some.injEq, Addr.mk.injEq, and_true, true_and] at e
              obtain ⟨⟨rfl, rfl⟩, rfl⟩ := e
              obtain ⟨b2, off2, c3, e2, _, hc2⟩ := X4r.out.2 (by rw [HL.out]; omega)
              rw [HL.out] at e2
              simp only [Value.slice.injEq, true_and] at e2
              obtain ⟨rfl, rfl⟩ := e2
              obtain ⟨d0, d1⟩ := hc i (by rw [← HN.out]; exact hlt)
              obtain ⟨d2, d3⟩ := hc j (by rw [← HN.out]; exact hjl)
              have e0 := hc2 i (by rw [HL.out]; exact hlt)
              have e1 := hc2 j (by rw [HL.out]; exact hjl)
              clear hc hc2
              have hord := HOrd.out i j hlt hjl
              have hpi : xs.getD i (0, 0) = xs.getD i pr0 := rfl
              have hpj : xs.getD j (0, 0) = xs.getD j pr0 := rfl
              rw [hpi] at d0 d1
              rw [hpj] at d2 d3
              clear hpi hpj
              simp only [Nat.zero_add] at d0 d1 d2 d3
              generalize xs.getD i pr0 = pi at d0 d1 hord
              generalize xs.getD j pr0 = pj at d2 d3 hord
              obtain ⟨xi, mi⟩ := pi
              obtain ⟨xj, mj⟩ := pj
              simp only at d0 d1 d2 d3 hord
              generalize ys.getD i 0 = yi at e0 hord
              generalize ys.getD j 0 = yj at e1 hord
              by_cases hx : yi < mi
              · by_cases hx2 : xi < xj
                · have hy : yj = 0 := hord hx hx2
                  have hyd : ¬ (0 : Int) < 0 := by omega
                  subst hy
                  clear hord
                  have hxa := decide_eq_true hx
                  have hxb := decide_eq_true hx2
                  go_wp2_with fail
                  go_quiet (fail)
                  go_wp2_with fail
                  go_roundw
                  case rel => exact ⟨j + 1, by omega, by go_num, _, (by first | exact World.drewN_drewN _ _ _ | rfl)⟩
                  case measure => simp [intOf]; omega
                · have hxa := decide_eq_true hx
                  have hxb := decide_eq_false hx2
                  clear hord
                  go_wp2_with fail
                  go_quiet (fail)
                  go_wp2_with fail
                  go_roundw
                  case rel => exact ⟨j + 1, by omega, by go_num, _, (by first | exact World.drewN_drewN _ _ _ | rfl)⟩
                  case measure => simp [intOf]; omega
              · have hxa := decide_eq_false hx
                clear hord
                go_wp2_with fail
                go_quiet (fail)
                go_wp2_with fail
                go_roundw
                case rel => exact ⟨j + 1, by omega, by go_num, _, (by first | exact World.drewN_drewN _ _ _ | rfl)⟩
                case measure => simp [intOf]; omega
            · obtain rfl : j = k := by omega
              go_wp2_with fail
              go_roundw
              case rel => exact ⟨i + 1, by omega, by go_num, q, rfl⟩
              case measure => simp [intOf]; omega
        · obtain rfl : i = k := by omega
          go_wp2_with fail
          go_ret
          exact ⟨rfl, belowD HB4.out _⟩
end Go.Proofs.Ytgiejiiiokdbpaa
