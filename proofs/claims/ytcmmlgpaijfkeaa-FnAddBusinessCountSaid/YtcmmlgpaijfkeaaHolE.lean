/- The laws of business days. -/
import Derived.Test.YtcmmlgpaijfkeaaHolD
namespace Go.Proofs.Ytcmmlgpaijfkeaa
open Go.RowKit
theorem sIsBiz_b (w : World) (B : Nat) (a : Option Addr) (cap : Nat) (xs : List Int) (n : Int) (h : Ints w B a xs) (hl : xs.length ≤ 1048576) :
    Calls Try.prog 13 #[.slice a xs.length cap, .int .i64 n] w fun e w' => e = .returned (.bool (isBizV xs n)) ∧ Below w.heap.size w w' :=
  (sIsBiz_any w B a cap xs n h hl).mono fun _ _ ⟨he, m, hm⟩ => ⟨he, by rw [hm]; exact below_drewN' (Below.refl _ _) m⟩
theorem sAddB_b (w : World) (B : Nat) (a : Option Addr) (cap : Nat) (xs : List Int) (n m : Int) (h : Ints w B a xs) (hl : xs.length ≤ 1048576) :
    Calls Try.prog 18 #[.slice a xs.length cap, .int .i64 n, .int .i64 m] w fun e w' => e = .returned (.int .i64 (addBV xs n m)) ∧ Below w.heap.size w w' :=
  (sAddB_any w B a cap xs n m h hl).mono fun _ _ ⟨he, m, hm⟩ => ⟨he, by rw [hm]; exact below_drewN' (Below.refl _ _) m⟩
theorem sCnt_b (w : World) (B : Nat) (a : Option Addr) (cap : Nat) (xs : List Int) (x y : Int) (h : Ints w B a xs) (hl : xs.length ≤ 1048576) :
    Calls Try.prog 21 #[.slice a xs.length cap, .int .i64 x, .int .i64 y] w fun e w' => e = .returned (.int .i64 (cntV xs x y)) ∧ Below w.heap.size w w' :=
  (sCnt_any w B a cap xs x y h hl).mono fun _ _ ⟨he, m, hm⟩ => ⟨he, by rw [hm]; exact below_drewN' (Below.refl _ _) m⟩
theorem cntV_parts {xs : List Int} {x y : Int} (h : ¬ cntV xs x y < 0) : Biz.holB xs = true ∧ Span x y ∧ cntV xs x y = Biz.cnt xs x (y - x).toNat := by
  cases h1 : Biz.holB xs with
  | false => exfalso; rw [cntV_f (.inl h1)] at h; omega
  | true =>
    cases h2 : spanB x y with
    | false => exfalso; rw [cntV_f (.inr h2)] at h; omega
    | true => exact ⟨rfl, spanB_iff.1 h2, cntV_t h1 h2⟩
theorem addBV_parts {xs : List Int} {n m : Int} (h : ¬ addBV xs n m < 0) : Biz.holB xs = true ∧ (0 ≤ n ∧ n ≤ 36524) ∧ (0 ≤ m ∧ m ≤ 30) ∧ addBV xs n m = Biz.add xs n m.toNat := by
  cases h1 : Biz.holB xs with
  | false => exfalso; rw [addBV_f (.inl h1)] at h; omega
  | true =>
    cases h2 : btw n 0 36524 with
    | false => exfalso; rw [addBV_f (.inr (.inl h2))] at h; omega
    | true =>
      cases h3 : btw m 0 30 with
      | false => exfalso; rw [addBV_f (.inr (.inr h3))] at h; omega
      | true => exact ⟨rfl, btw_iff.1 h2, btw_iff.1 h3, addBV_t h1 h2 h3⟩
theorem cntV_val {xs : List Int} {x y : Int} (h1 : Biz.holB xs = true) (h2 : Span x y) : cntV xs x y = Biz.cnt xs x (y - x).toNat := cntV_t h1 (spanB_iff.2 h2)
theorem cntV_sum {xs : List Int} {x y : Int} (h : ¬ cntV xs x y < 0) :
    (0 ≤ x ∧ x ≤ y ∧ y ≤ 36524) ∧ (0 ≤ cntV xs x ((x + y) / 2) ∧ cntV xs x ((x + y) / 2) ≤ 4000) ∧ (0 ≤ cntV xs ((x + y) / 2) y ∧ cntV xs ((x + y) / 2) y ≤ 4000) ∧
    cntV xs x ((x + y) / 2) + cntV xs ((x + y) / 2) y = cntV xs x y ∧ cntV xs x y ≤ y - x := by
  obtain ⟨h1, h2, h3⟩ := cntV_parts h
  obtain ⟨a, b, c, d⟩ := h2
  have m0 : x ≤ (x + y) / 2 := by omega
  have m1 : (x + y) / 2 ≤ y := by omega
  generalize (x + y) / 2 = mid at m0 m1
  obtain ⟨j, rfl⟩ : ∃ j : Nat, mid = x + j := ⟨(mid - x).toNat, by omega⟩
  obtain ⟨k, rfl⟩ : ∃ k : Nat, y = x + j + k := ⟨(y - x - j).toNat, by omega⟩
  have e1 : cntV xs x (x + j) = Biz.cnt xs x j := by rw [cntV_val h1 ⟨a, by omega, by omega, by omega⟩, show (x + (j : Int) - x).toNat = j by omega]
  have e2 : cntV xs (x + j) (x + j + k) = Biz.cnt xs (x + j) k := by rw [cntV_val h1 ⟨by omega, by omega, by omega, by omega⟩, show (x + (j : Int) + k - (x + j)).toNat = k by omega]
  have e3 : cntV xs x (x + j + k) = Biz.cnt xs x (j + k) := by rw [cntV_val h1 ⟨a, by omega, by omega, by omega⟩, show (x + (j : Int) + k - x).toNat = j + k by omega]
  rw [e1, e2, e3, Biz.cnt_add]
  have := Biz.cnt_bd xs x j
  have := Biz.cnt_bd xs (x + j) k
  omega
theorem cntV_week {xs : List Int} {x y : Int} (h : ¬ cntV xs x y < 0) (h7 : x + 7 ≤ 36524) : cntV [] x (x + 7) = 5 ∧ cntV xs x y ≤ cntV [] x y ∧ 0 ≤ cntV [] x y ∧ cntV [] x y ≤ 4000 := by
  obtain ⟨h1, h2, h3⟩ := cntV_parts h
  obtain ⟨a, b, c, d⟩ := h2
  have e1 : cntV [] x (x + 7) = 5 := by rw [cntV_val Biz.hol_nil ⟨a, by omega, by omega, by omega⟩, show (x + 7 - x).toNat = 7 by omega, Biz.cnt_week]
  have e2 : cntV [] x y = Biz.cnt [] x (y - x).toNat := cntV_val Biz.hol_nil ⟨a, b, c, d⟩
  have := Biz.cnt_mono (a := x) (fun m => Biz.biz_nil (xs := xs) (n := m)) (y - x).toNat
  have := Biz.cnt_bd [] x (y - x).toNat
  rw [e1, e2, h3]
  omega
theorem cntV_add {xs : List Int} {n m : Int} (h : ¬ addBV xs n m < 0) : cntV xs n (addBV xs n m) = m ∧ n ≤ addBV xs n m := by
  obtain ⟨h1, ⟨n0, n1⟩, ⟨m0, m1⟩, h3⟩ := addBV_parts h
  obtain ⟨k, rfl⟩ : ∃ k : Nat, m = k := ⟨m.toNat, by omega⟩
  rw [h3] at h ⊢
  rw [show ((k : Nat) : Int).toNat = k by omega] at *
  have hn := Biz.add_near n0 (Biz.holB_iff.1 h1).1 k (by omega)
  rcases Biz.add_bd xs n0 k with e | ⟨a, b, c⟩
  · omega
  · have hc := Biz.cnt_addV (xs := xs) n0 k (by omega)
    exact ⟨by rw [cntV_val h1 ⟨n0, a, b, by omega⟩]; exact hc, a⟩
theorem isBizV_more {y n : Int} {ys : List Int} (h : isBizV (y :: ys) n = true) : isBizV ys n = true ∧ isBizV [n] n = false := by
  obtain ⟨h1, ⟨a, b⟩, h3⟩ := isBizV_parts h
  exact ⟨by rw [isBizV_t (Biz.holB_iff.2 (Biz.hol_tail (Biz.holB_iff.1 h1))) (btw_t a b)]; exact Biz.biz_tail h3, by rw [isBizV_t (Biz.hol_one a b) (btw_t a b)]; exact Biz.biz_self n⟩
set_option maxHeartbeats 1000000 in
theorem lawIsBusiness (a : Option Addr) (len cap : Nat) (zs : List Int) (w : World) (h : IsRow .u8 w a len cap zs) :
    Calls Try.prog 3 #[.slice a len cap] w fun e w' => e = .returned (.bool true) ∧ Below w.heap.size w w' := by
  have H := Lib.hid h; clear h
  by_cases hl : 1048576 < (len : Int)
  · go_enter Try.func3, Try.ntmps3
    go_wp2_with fail
    go_ret
    exact ⟨rfl, Below.refl _ _⟩
  · have hl' := decide_eq_false hl
    clear hl
    go_enter Try.func3, Try.ntmps3
    go_wp2_with fail
    refine (drawIsB_any _ _ _ _ _ H.out).mono ?_
    rintro e w0 ⟨a0, c0, xs, n, rfl, hi, hlx0, hcx, ⟨n0, n1⟩, hB0⟩
    have HI0 := Lib.hid hi; clear hi
    have hs0 : w0.heap.size ≤ w0.heap.size := Nat.le_refl _
    have hlx : xs.length ≤ 1048576 := by omega
    have hne : (isBizV xs n != isBizV xs n) = false := by simp
    clear hcx
    go_wp2_with fail
    refine (isBiz_any _ _ _ _ _ _ HI0.out hs0 hlx).mono ?_
    rintro e w1 ⟨rfl, hb1⟩
    have HI1 := Lib.hid (HI0.out.below hb1 hs0)
    have hs1 : w0.heap.size ≤ w1.heap.size := Nat.le_trans hs0 hb1.size
    have hB1 := hB0.trans (hb1.mono hB0.size)
    clear hb1
    go_wp2_with fail
    refine (sIsBiz_b _ _ _ _ _ _ HI1.out hlx).mono ?_
    rintro e w2 ⟨rfl, hb2⟩
    have HI2 := Lib.hid (HI1.out.below hb2 hs1)
    have hs2 : w0.heap.size ≤ w2.heap.size := Nat.le_trans hs1 hb2.size
    have hB2 := hB1.trans (hb2.mono hB1.size)
    clear hb2
    obtain hr | hr | ⟨r0, r1⟩ : n < 0 ∨ 36524 < n ∨ (0 ≤ n ∧ n ≤ 36524) := by omega
    · go_wp2_with fail
      refine (sIsBiz_b _ _ _ _ _ _ HI2.out hlx).mono ?_
      rintro e w3 ⟨rfl, hb3⟩
      have HI3 := Lib.hid (HI2.out.below hb3 hs2)
      have hs3 : w0.heap.size ≤ w3.heap.size := Nat.le_trans hs2 hb3.size
      have hB3 := hB2.trans (hb3.mono hB2.size)
      clear hb3
      go_wp2_with fail
      go_ret
      exact ⟨ret_bool (by simp), hB3⟩
    · go_wp2_with fail
      refine (sIsBiz_b _ _ _ _ _ _ HI2.out hlx).mono ?_
      rintro e w3 ⟨rfl, hb3⟩
      have HI3 := Lib.hid (HI2.out.below hb3 hs2)
      have hs3 : w0.heap.size ≤ w3.heap.size := Nat.le_trans hs2 hb3.size
      have hB3 := hB2.trans (hb3.mono hB2.size)
      clear hb3
      go_wp2_with fail
      go_ret
      exact ⟨ret_bool (by simp), hB3⟩
    · have HQ := Lib.hid (isBizV_nil r0 r1)
      go_wp2_with fail
      refine (wday_any _ _ r0 r1).mono ?_
      rintro e w' ⟨rfl, rfl⟩
      go_wp2_with fail
      refine (isBiz_any _ _ none 0 [] n (ints_nil _) (Nat.le_refl _) (by simp)).mono ?_
      rintro e w3 ⟨rfl, hb3⟩
      have HI3 := Lib.hid (HI2.out.below hb3 hs2)
      have hs3 : w0.heap.size ≤ w3.heap.size := Nat.le_trans hs2 hb3.size
      have hB3 := hB2.trans (hb3.mono hB2.size)
      clear hb3
      have hq := HQ.out
      cases hv : isBizV xs n with
      | false =>
        go_wp2_with fail
        go_ret
        exact ⟨ret_bool (by simp), hB3⟩
      | true =>
        obtain ⟨p1, p2⟩ := Biz.biz_parts (isBizV_parts hv).2.2
        have p3 := decide_eq_true p1
        go_wp2_with fail
        refine (lIsIn_any _ _ _ _ _ _ HI3.out hlx).mono ?_
        rintro e w' ⟨rfl, rfl⟩
        go_wp2_with fail
        go_ret
        exact ⟨ret_bool (by simp), hB3⟩
theorem one_ints (w : World) (n : Int) : Ints (w.alloc (.cells #[.int .i64 n] 3)) (w.alloc (.cells #[.int .i64 n] 3)).heap.size (some ⟨w.heap.size, 0, none⟩) [n] := fun _ =>
  ⟨w.heap.size, 0, rfl, by simp, fun i hi => by
    simp at hi; subst hi; simp⟩
set_option maxHeartbeats 1000000 in
theorem lawIsBusinessMore (a : Option Addr) (len cap : Nat) (zs : List Int) (w : World) (h : IsRow .u8 w a len cap zs) :
    Calls Try.prog 6 #[.slice a len cap] w fun e w' => e = .returned (.bool true) ∧ Below w.heap.size w w' := by
  have H := Lib.hid h; clear h
  by_cases hl : 1048576 < (len : Int)
  · go_enter Try.func6, Try.ntmps6
    go_wp2_with fail
    go_ret
    exact ⟨rfl, Below.refl _ _⟩
  · have hl' := decide_eq_false hl
    clear hl
    go_enter Try.func6, Try.ntmps6
    go_wp2_with fail
    refine (drawIsB_any _ _ _ _ _ H.out).mono ?_
    rintro e w0 ⟨a0, c0, xs, n, rfl, hi, hlx0, ⟨hc0, hc1⟩, ⟨n0, n1⟩, hB0⟩
    have HI0 := Lib.hid hi; clear hi
    have hs0 : w0.heap.size ≤ w0.heap.size := Nat.le_refl _
    have hlx : xs.length ≤ 1048576 := by omega
    have hne : (isBizV xs n != isBizV xs n) = false := by simp
    unfold maxLen at hc1
    go_wp2_with fail
    refine (isBiz_any _ _ _ _ _ _ HI0.out hs0 hlx).mono ?_
    rintro e w1 ⟨rfl, hb1⟩
    have HI1 := Lib.hid (HI0.out.below hb1 hs0)
    have hs1 : w0.heap.size ≤ w1.heap.size := Nat.le_trans hs0 hb1.size
    have hB1 := hB0.trans (hb1.mono hB0.size)
    clear hb1
    go_wp2_with fail
    refine (sIsBiz_b _ _ _ _ _ _ HI1.out hlx).mono ?_
    rintro e w2 ⟨rfl, hb2⟩
    have HI2 := Lib.hid (HI1.out.below hb2 hs1)
    have hs2 : w0.heap.size ≤ w2.heap.size := Nat.le_trans hs1 hb2.size
    have hB2 := hB1.trans (hb2.mono hB1.size)
    clear hb2
    cases hv : isBizV xs n with
    | false =>
      go_wp2_with fail
      refine (sIsBiz_b _ _ _ _ _ _ HI2.out hlx).mono ?_
      rintro e w3 ⟨rfl, hb3⟩
      have HI3 := Lib.hid (HI2.out.below hb3 hs2)
      have hs3 : w0.heap.size ≤ w3.heap.size := Nat.le_trans hs2 hb3.size
      have hB3 := hB2.trans (hb3.mono hB2.size)
      clear hb3
      go_wp2_with fail
      go_ret
      exact ⟨ret_bool (by simp), hB3⟩
    | true =>
      cases xs with
      | nil =>
        go_wp2_with fail
        refine (sIsBiz_b _ _ _ _ [] _ HI2.out hlx).mono ?_
        rintro e w3 ⟨rfl, hb3⟩
        go_wp2_with fail
        go_ret
        exact ⟨ret_bool (by simp), hB2.trans (hb3.mono hB2.size)⟩
      | cons y ys =>
        have HM := Lib.hid (isBizV_more hv)
        have HT : Hid (∀ W : World, Ints W w0.heap.size a0 (y :: ys) → ∃ b off, a0 = some ⟨b, off, none⟩ ∧ Ints W w0.heap.size (some ⟨b, off + 1, none⟩) ys ∧ (ys = [] → Ints W w0.heap.size (some ⟨b, off, none⟩) ys)) := Lib.hid fun W hI => by
          obtain ⟨b, off, e, hb, hc⟩ := hI (by simp)
          refine ⟨b, off, e, fun _ => ⟨b, off + 1, rfl, hb, fun i hi => ?_⟩, fun e hl => by rw [e] at hl; simp at hl⟩
          have := hc (i + 1) (by simp; omega)
          rw [show off + (i + 1) = off + 1 + i by omega] at this
          rw [this]; simp
        obtain ⟨b, off, rfl, hi1, hi2⟩ := HT.out _ HI2.out
        have HY1 := Lib.hid hi1; clear hi1
        have HY2 := Lib.hid hi2; clear hi2
        simp at hlx0 hc0 hlx
        by_cases hc : c0 = 1
        · obtain rfl : ys = [] := List.length_eq_zero_iff.1 (by omega)
          obtain rfl : c0 = 1 := hc
          go_wp2_with fail
          refine (isBiz_any _ _ _ 0 [] n (HY2.out (by first | rfl | trivial)) hs2 (by simp)).mono ?_
          rintro e w3 ⟨rfl, hb3⟩
          have hB3 := hB2.trans (hb3.mono hB2.size)
          have hm := HM.out.1
          go_wp2_with fail
          refine (isBiz_any _ _ _ _ [n] n (one_ints w3 n) (Nat.le_refl _) (by simp)).mono ?_
          rintro e w4 ⟨rfl, hb4⟩
          have hm2 := HM.out.2
          go_wp2_with fail
          go_ret
          exact ⟨ret_bool (by simp), (hB3.alloc hB3.size _).trans (hb4.mono (by have := hB3.size; simp; omega))⟩
        · go_wp2_with fail
          refine (isBiz_any _ _ _ _ ys n HY1.out hs2 (by omega)).mono ?_
          rintro e w3 ⟨rfl, hb3⟩
          have hB3 := hB2.trans (hb3.mono hB2.size)
          have hm := HM.out.1
          go_wp2_with fail
          refine (isBiz_any _ _ _ _ [n] n (one_ints w3 n) (Nat.le_refl _) (by simp)).mono ?_
          rintro e w4 ⟨rfl, hb4⟩
          have hm2 := HM.out.2
          go_wp2_with fail
          go_ret
          exact ⟨ret_bool (by simp), (hB3.alloc hB3.size _).trans (hb4.mono (by have := hB3.size; simp; omega))⟩
set_option maxHeartbeats 1000000 in
theorem lawAddBusinessCount (a : Option Addr) (len cap : Nat) (zs : List Int) (w : World) (h : IsRow .u8 w a len cap zs) :
    Calls Try.prog 4 #[.slice a len cap] w fun e w' => e = .returned (.bool true) ∧ Below w.heap.size w w' := by
  have H := Lib.hid h; clear h
  by_cases hl : 1048576 < (len : Int)
  · go_enter Try.func4, Try.ntmps4
    go_wp2_with fail
    go_ret
    exact ⟨rfl, Below.refl _ _⟩
  · have hl' := decide_eq_false hl
    clear hl
    go_enter Try.func4, Try.ntmps4
    go_wp2_with fail
    refine (drawAddB_any _ _ _ _ _ H.out).mono ?_
    rintro e w0 ⟨a0, c0, xs, n, m, rfl, hi, hlx0, ⟨n0, n1⟩, ⟨m0, m1⟩, hB0⟩
    have HI0 := Lib.hid hi; clear hi
    have hs0 : w0.heap.size ≤ w0.heap.size := Nat.le_refl _
    have hlx : xs.length ≤ 1048576 := by omega
    have hne : (addBV xs n m != addBV xs n m) = false := by simp
    go_wp2_with fail
    refine (iAddB_any _ _ _ _ _ _ _ HI0.out hs0 hlx).mono ?_
    rintro e w1 ⟨rfl, hb1⟩
    have HI1 := Lib.hid (HI0.out.below hb1 hs0)
    have hs1 : w0.heap.size ≤ w1.heap.size := Nat.le_trans hs0 hb1.size
    have hB1 := hB0.trans (hb1.mono hB0.size)
    clear hb1
    go_wp2_with fail
    refine (sAddB_b _ _ _ _ _ _ _ HI1.out hlx).mono ?_
    rintro e w2 ⟨rfl, hb2⟩
    have HI2 := Lib.hid (HI1.out.below hb2 hs1)
    have hs2 : w0.heap.size ≤ w2.heap.size := Nat.le_trans hs1 hb2.size
    have hB2 := hB1.trans (hb2.mono hB1.size)
    clear hb2
    by_cases hc : addBV xs n m < 0
    · go_wp2_with fail
      refine (sAddB_b _ _ _ _ _ _ _ HI2.out hlx).mono ?_
      rintro e w3 ⟨rfl, hb3⟩
      have HI3 := Lib.hid (HI2.out.below hb3 hs2)
      have hs3 : w0.heap.size ≤ w3.heap.size := Nat.le_trans hs2 hb3.size
      have hB3 := hB2.trans (hb3.mono hB2.size)
      clear hb3
      go_wp2_with fail
      go_ret
      exact ⟨ret_bool (by simp), hB3⟩
    · have HC := Lib.hid (cntV_add hc)
      go_wp2_with fail
      refine (iCnt_any _ _ _ _ _ _ _ HI2.out hs2 hlx).mono ?_
      rintro e w3 ⟨rfl, hb3⟩
      have HI3 := Lib.hid (HI2.out.below hb3 hs2)
      have hs3 : w0.heap.size ≤ w3.heap.size := Nat.le_trans hs2 hb3.size
      have hB3 := hB2.trans (hb3.mono hB2.size)
      clear hb3
      have q1 := HC.out.2
      have q2 : (cntV xs n (addBV xs n m) == m) = true := by rw [HC.out.1]; simp
      go_wp2_with fail
      go_ret
      exact ⟨rfl, hB3⟩
set_option maxHeartbeats 1000000 in
theorem lawBusinessBetween (a : Option Addr) (len cap : Nat) (zs : List Int) (w : World) (h : IsRow .u8 w a len cap zs) :
    Calls Try.prog 5 #[.slice a len cap] w fun e w' => e = .returned (.bool true) ∧ Below w.heap.size w w' := by
  have H := Lib.hid h; clear h
  by_cases hl : 1048576 < (len : Int)
  · go_enter Try.func5, Try.ntmps5
    go_wp2_with fail
    go_ret
    exact ⟨rfl, Below.refl _ _⟩
  · have hl' := decide_eq_false hl
    clear hl
    go_enter Try.func5, Try.ntmps5
    go_wp2_with fail
    refine (drawCnt_any _ _ _ _ _ H.out).mono ?_
    rintro e w0 ⟨a0, c0, xs, n, m, rfl, hi, hlx0, ⟨n0, n1⟩, ⟨m0, m1⟩, hB0⟩
    have HI0 := Lib.hid hi; clear hi
    have hs0 : w0.heap.size ≤ w0.heap.size := Nat.le_refl _
    have hlx : xs.length ≤ 1048576 := by omega
    have hne : (cntV xs n m != cntV xs n m) = false := by simp
    go_wp2_with fail
    refine (iCnt_any _ _ _ _ _ _ _ HI0.out hs0 hlx).mono ?_
    rintro e w1 ⟨rfl, hb1⟩
    have HI1 := Lib.hid (HI0.out.below hb1 hs0)
    have hs1 : w0.heap.size ≤ w1.heap.size := Nat.le_trans hs0 hb1.size
    have hB1 := hB0.trans (hb1.mono hB0.size)
    clear hb1
    go_wp2_with fail
    refine (sCnt_b _ _ _ _ _ _ _ HI1.out hlx).mono ?_
    rintro e w2 ⟨rfl, hb2⟩
    have HI2 := Lib.hid (HI1.out.below hb2 hs1)
    have hs2 : w0.heap.size ≤ w2.heap.size := Nat.le_trans hs1 hb2.size
    have hB2 := hB1.trans (hb2.mono hB1.size)
    clear hb2
    by_cases hc : cntV xs n m < 0
    · go_wp2_with fail
      refine (sCnt_b _ _ _ _ _ _ _ HI2.out hlx).mono ?_
      rintro e w3 ⟨rfl, hb3⟩
      have HI3 := Lib.hid (HI2.out.below hb3 hs2)
      have hs3 : w0.heap.size ≤ w3.heap.size := Nat.le_trans hs2 hb3.size
      have hB3 := hB2.trans (hb3.mono hB2.size)
      clear hb3
      go_wp2_with fail
      go_ret
      exact ⟨ret_bool (by simp), hB3⟩
    · obtain ⟨⟨x0, x1, x2⟩, ⟨p0, p1⟩, ⟨q0, q1⟩, he, hle⟩ := cntV_sum hc
      have HE := Lib.hid he; clear he
      go_wp2_with fail
      refine (iCnt_any _ _ _ _ _ _ _ HI2.out hs2 hlx).mono ?_
      rintro e w3 ⟨rfl, hb3⟩
      have HI3 := Lib.hid (HI2.out.below hb3 hs2)
      have hs3 : w0.heap.size ≤ w3.heap.size := Nat.le_trans hs2 hb3.size
      have hB3 := hB2.trans (hb3.mono hB2.size)
      clear hb3
      go_wp2_with fail
      refine (iCnt_any _ _ _ _ _ _ _ HI3.out hs3 hlx).mono ?_
      rintro e w4 ⟨rfl, hb4⟩
      have HI4 := Lib.hid (HI3.out.below hb4 hs3)
      have hs4 : w0.heap.size ≤ w4.heap.size := Nat.le_trans hs3 hb4.size
      have hB4 := hB3.trans (hb4.mono hB3.size)
      clear hb4
      have q2 : (cntV xs n ((n + m) / 2) + cntV xs ((n + m) / 2) m == cntV xs n m) = true := by rw [HE.out]; simp
      go_wp2_with fail
      go_ret
      exact ⟨rfl, hB4⟩
set_option maxHeartbeats 1000000 in
theorem lawBusinessWeek (a : Option Addr) (len cap : Nat) (zs : List Int) (w : World) (h : IsRow .u8 w a len cap zs) :
    Calls Try.prog 7 #[.slice a len cap] w fun e w' => e = .returned (.bool true) ∧ Below w.heap.size w w' := by
  have H := Lib.hid h; clear h
  by_cases hl : 1048576 < (len : Int)
  · go_enter Try.func7, Try.ntmps7
    go_wp2_with fail
    go_ret
    exact ⟨rfl, Below.refl _ _⟩
  · have hl' := decide_eq_false hl
    clear hl
    go_enter Try.func7, Try.ntmps7
    go_wp2_with fail
    refine (drawCnt_any _ _ _ _ _ H.out).mono ?_
    rintro e w0 ⟨a0, c0, xs, n, m, rfl, hi, hlx0, ⟨n0, n1⟩, ⟨m0, m1⟩, hB0⟩
    have HI0 := Lib.hid hi; clear hi
    have hs0 : w0.heap.size ≤ w0.heap.size := Nat.le_refl _
    have hlx : xs.length ≤ 1048576 := by omega
    have hne : (cntV xs n m != cntV xs n m) = false := by simp
    go_wp2_with fail
    refine (iCnt_any _ _ _ _ _ _ _ HI0.out hs0 hlx).mono ?_
    rintro e w1 ⟨rfl, hb1⟩
    have HI1 := Lib.hid (HI0.out.below hb1 hs0)
    have hs1 : w0.heap.size ≤ w1.heap.size := Nat.le_trans hs0 hb1.size
    have hB1 := hB0.trans (hb1.mono hB0.size)
    clear hb1
    go_wp2_with fail
    refine (sCnt_b _ _ _ _ _ _ _ HI1.out hlx).mono ?_
    rintro e w2 ⟨rfl, hb2⟩
    have HI2 := Lib.hid (HI1.out.below hb2 hs1)
    have hs2 : w0.heap.size ≤ w2.heap.size := Nat.le_trans hs1 hb2.size
    have hB2 := hB1.trans (hb2.mono hB1.size)
    clear hb2
    by_cases hc : cntV xs n m < 0
    · go_wp2_with fail
      refine (sCnt_b _ _ _ _ _ _ _ HI2.out hlx).mono ?_
      rintro e w3 ⟨rfl, hb3⟩
      have HI3 := Lib.hid (HI2.out.below hb3 hs2)
      have hs3 : w0.heap.size ≤ w3.heap.size := Nat.le_trans hs2 hb3.size
      have hB3 := hB2.trans (hb3.mono hB2.size)
      clear hb3
      go_wp2_with fail
      go_ret
      exact ⟨ret_bool (by simp), hB3⟩
    · by_cases h7 : 36524 < n + 7
      · go_wp2_with fail
        refine (sCnt_b _ _ _ _ _ _ _ HI2.out hlx).mono ?_
        rintro e w3 ⟨rfl, hb3⟩
        have HI3 := Lib.hid (HI2.out.below hb3 hs2)
        have hs3 : w0.heap.size ≤ w3.heap.size := Nat.le_trans hs2 hb3.size
        have hB3 := hB2.trans (hb3.mono hB2.size)
        clear hb3
        go_wp2_with fail
        go_ret
        exact ⟨ret_bool (by simp), hB3⟩
      · obtain ⟨he, hle, k0, k1⟩ := cntV_week hc (by omega)
        have HE := Lib.hid he; clear he
        go_wp2_with fail
        refine (iCnt_any _ _ none 0 [] n (n + 7) (ints_nil _) (Nat.le_refl _) (by simp)).mono ?_
        rintro e w3 ⟨rfl, hb3⟩
        have HI3 := Lib.hid (HI2.out.below hb3 hs2)
        have hs3 : w0.heap.size ≤ w3.heap.size := Nat.le_trans hs2 hb3.size
        have hB3 := hB2.trans (hb3.mono hB2.size)
        clear hb3
        have q2 : (cntV [] n (n + 7) == 5) = true := by rw [HE.out]; rfl
        go_wp2_with fail
        refine (iCnt_any _ _ none 0 [] n m (ints_nil _) (Nat.le_refl _) (by simp)).mono ?_
        rintro e w4 ⟨rfl, hb4⟩
        have HI4 := Lib.hid (HI3.out.below hb4 hs3)
        have hs4 : w0.heap.size ≤ w4.heap.size := Nat.le_trans hs3 hb4.size
        have hB4 := hB3.trans (hb4.mono hB3.size)
        clear hb4
        go_wp2_with fail
        go_ret
        exact ⟨rfl, hB4⟩
end Go.Proofs.Ytcmmlgpaijfkeaa
