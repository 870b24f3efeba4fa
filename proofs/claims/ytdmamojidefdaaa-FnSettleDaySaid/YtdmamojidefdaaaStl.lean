/- Days of settlement. -/
import Derived.Test.YtdmamojidefdaaaHolE
import Derived.Test.YtdmamojidefdaaaHolX
namespace Go.Proofs.Ytdmamojidefdaaa
open Go.RowKit
set_option maxHeartbeats 400000 in
theorem iSettle_any (w : World) (B : Nat) (a : Option Addr) (cap : Nat) (xs : List Int) (n m : Int) (h : Ints w B a xs) (hB : B ≤ w.heap.size) (hl : xs.length ≤ 1048576) :
    Calls Try.prog 6 #[.slice a xs.length cap, .int .i64 n, .int .i64 m] w fun e w' => e = .returned (.int .i64 (addBV xs n m)) ∧ Below w.heap.size w w' := by
  have H := Lib.hid h; clear h
  go_enter Try.func6, Try.ntmps6
  go_wp2_with fail
  refine (iAddB_any _ _ _ _ _ _ _ H.out hB hl).mono ?_
  rintro e w1 ⟨rfl, hb⟩
  go_wp2_with fail
  go_ret
  exact ⟨rfl, hb⟩
set_option maxHeartbeats 400000 in
theorem sSettle_any (w : World) (B : Nat) (a : Option Addr) (cap : Nat) (xs : List Int) (n m : Int) (h : Ints w B a xs) (hl : xs.length ≤ 1048576) :
    Calls Try.prog 7 #[.slice a xs.length cap, .int .i64 n, .int .i64 m] w fun e w' => e = .returned (.int .i64 (addBV xs n m)) ∧ Below w.heap.size w w' := by
  have H := Lib.hid h; clear h
  go_enter Try.func7, Try.ntmps7
  go_wp2_with fail
  refine (sAddB_b _ _ _ _ _ _ _ H.out hl).mono ?_
  rintro e w1 ⟨rfl, hb⟩
  go_wp2_with fail
  go_ret
  exact ⟨rfl, hb⟩
set_option maxHeartbeats 400000 in
theorem drawStl_any (w : World) (a : Option Addr) (len cap : Nat) (zs : List Int) (h : IsRow .u8 w a len cap zs) :
    Calls Try.prog 5 #[.slice a len cap] w (DHol2 w) := by
  have H := Lib.hid h; clear h
  go_enter Try.func5, Try.ntmps5
  go_wp2_with fail
  refine (drawAddB_any _ _ _ _ _ H.out).mono ?_
  rintro e w1 ⟨a0, c0, xs, n, m, rfl, hi, hx, hn, hm, hb⟩
  go_wp2_with fail
  refine bodyPost_ret (v := .tuple #[.slice a0 xs.length c0, .int .i64 n, .int .i64 m]) (by simp [results, Try.results5, go_sem]) rfl ⟨a0, c0, xs, n, m, rfl, hi, hx, hn, hm, hb⟩
theorem addBV_biz {xs : List Int} {n m : Int} (h : ¬ addBV xs n m < 0) : isBizV xs (addBV xs n m) = true ∧ n ≤ addBV xs n m := by
  obtain ⟨h1, ⟨n0, n1⟩, ⟨m0, m1⟩, h3⟩ := addBV_parts h
  rw [h3] at h ⊢
  rcases Biz.add_bd xs n0 m.toNat with e | ⟨e1, e2, e3⟩
  · omega
  · refine ⟨?_, e1⟩
    unfold isBizV
    rw [h1, btw_t (by omega) e2, e3]
    rfl
set_option maxHeartbeats 1000000 in
theorem lawSettleDay (a : Option Addr) (len cap : Nat) (zs : List Int) (w : World) (h : IsRow .u8 w a len cap zs) :
    Calls Try.prog 3 #[.slice a len cap] w fun e w' => e = .returned (.bool true) ∧ Below w.heap.size w w' := by
  have H := Lib.hid h; clear h
  by_cases hl : 1048576 < (len : Int)
  · go_enter Try.func3, Try.ntmps3
    go_wp2_with fail
    go_ret
    exact ⟨rfl, Below.refl _ _⟩
  · have hl' := decide_eq_false hl
    clear hl
    go_enter Try.func3, Try.ntmps3
    go_wp2_with fail
    refine (drawStl_any _ _ _ _ _ H.out).mono ?_
    rintro e w0 ⟨a0, c0, xs, n, m, rfl, hi, hlx0, ⟨n0, n1⟩, ⟨m0, m1⟩, hB0⟩
    have HI0 := Lib.hid hi; clear hi
    have hs0 : w0.heap.size ≤ w0.heap.size := Nat.le_refl _
    have hlx : xs.length ≤ 1048576 := by omega
    have hne : (addBV xs n m != addBV xs n m) = false := by simp
    go_wp2_with fail
    refine (iSettle_any _ _ _ _ _ _ _ HI0.out hs0 hlx).mono ?_
    rintro e w1 ⟨rfl, hb1⟩
    have HI1 := Lib.hid (HI0.out.below hb1 hs0)
    have hs1 : w0.heap.size ≤ w1.heap.size := Nat.le_trans hs0 hb1.size
    have hB1 := hB0.trans (hb1.mono hB0.size)
    clear hb1
    go_wp2_with fail
    refine (sSettle_any _ _ _ _ _ _ _ HI1.out hlx).mono ?_
    rintro e w2 ⟨rfl, hb2⟩
    have HI2 := Lib.hid (HI1.out.below hb2 hs1)
    have hs2 : w0.heap.size ≤ w2.heap.size := Nat.le_trans hs1 hb2.size
    have hB2 := hB1.trans (hb2.mono hB1.size)
    clear hb2
    by_cases hc : addBV xs n m < 0
    · go_wp2_with fail
      refine (sSettle_any _ _ _ _ _ _ _ HI2.out hlx).mono ?_
      rintro e w3 ⟨rfl, hb3⟩
      have HI3 := Lib.hid (HI2.out.below hb3 hs2)
      have hs3 : w0.heap.size ≤ w3.heap.size := Nat.le_trans hs2 hb3.size
      have hB3 := hB2.trans (hb3.mono hB2.size)
      clear hb3
      go_wp2_with fail
      go_ret
      exact ⟨ret_bool (by simp), hB3⟩
    · have HC := Lib.hid (addBV_biz hc)
      go_wp2_with fail
      refine (isBiz_any _ _ _ _ _ _ HI2.out hs2 hlx).mono ?_
      rintro e w3 ⟨rfl, hb3⟩
      have HI3 := Lib.hid (HI2.out.below hb3 hs2)
      have hs3 : w0.heap.size ≤ w3.heap.size := Nat.le_trans hs2 hb3.size
      have hB3 := hB2.trans (hb3.mono hB2.size)
      clear hb3
      have q1 := HC.out.1
      have q2 := HC.out.2
      go_wp2_with fail
      refine (iAddB_any _ _ _ _ _ _ _ HI3.out hs3 hlx).mono ?_
      rintro e w4 ⟨rfl, hb4⟩
      have HI4 := Lib.hid (HI3.out.below hb4 hs3)
      have hs4 : w0.heap.size ≤ w4.heap.size := Nat.le_trans hs3 hb4.size
      have hB4 := hB3.trans (hb4.mono hB3.size)
      clear hb4
      have q3 : (addBV xs n m == addBV xs n m) = true := by simp
      go_wp2_with fail
      go_ret
      exact ⟨ret_bool (by simp), hB4⟩
set_option maxHeartbeats 1000000 in
theorem exSettleDay (a : Option Addr) (len cap : Nat) (zs : List Int) (n : Int) (m : Int) (w : World) (h : IsRow .i64 w a len cap zs) :
    Calls Try.prog 4 #[.slice a len cap, .int .i64 n, .int .i64 m] w fun e w' => e = .returned (.bool true) ∧ Below w.heap.size w w' := by
  obtain ⟨hlen, hI⟩ := ints_of_row h
  clear h
  generalize zs.take len = xs at hlen hI
  obtain rfl : len = xs.length := hlen.symm
  clear hlen
  have HI := Lib.hid hI; clear hI
  by_cases hbig : 1048576 < (xs.length : Int)
  · go_enter Try.func4, Try.ntmps4
    go_wp2_with fail
    go_ret
    exact ⟨rfl, Below.refl _ _⟩
  · have hl : xs.length ≤ 1048576 := by omega
    have hne : (addBV xs n m != addBV xs n m) = false := by simp
    have HN := Lib.hid hne; clear hne
    go_enter Try.func4, Try.ntmps4
    go_wp2_with fail
    refine (toIntS_any _ _ _ _ _ HI.out (Nat.le_refl _) hl).mono ?_
    rintro e w1 ⟨b1, c1, rfl, hi1, hb1⟩
    have HI1 := Lib.hid hi1; clear hi1
    have hs1 := hb1.size
    go_wp2_with fail
    refine (sSettle_any _ _ _ _ _ _ _ HI1.out hl).mono ?_
    rintro e w2 ⟨rfl, hb2'⟩
    have hb2 := hb1.trans (hb2'.mono hs1)
    have hs1 := hb2.size
    go_wp2_with fail
    refine (toIntS_any _ _ _ _ _ (HI.out.below hb2 (Nat.le_refl _)) hs1 hl).mono ?_
    rintro e w3 ⟨b3, c3, rfl, hi3, hb3⟩
    have HI3 := Lib.hid hi3; clear hi3
    have hs3 := hb3.size
    have hb4 := hb2.trans (hb3.mono hs1)
    go_wp2_with fail
    refine (iSettle_any _ _ _ _ _ _ _ HI3.out (Nat.le_refl _) hl).mono ?_
    rintro e w5 ⟨rfl, hb5⟩
    have hs4 : w.heap.size ≤ w3.heap.size := hb4.size
    have hs5 := hb5.size
    have hb6 := hb4.trans (hb5.mono hs4)
    have HI5 := Lib.hid (HI3.out.below hb5 (Nat.le_refl _))
    have hne := HN.out
    go_wp2_with fail
    refine (toIntS_any _ _ _ _ _ (HI.out.below hb6 (Nat.le_refl _)) (by omega) hl).mono ?_
    rintro e w7 ⟨b7, c7, rfl, hi7, hb7⟩
    have HI7 := Lib.hid hi7; clear hi7
    clear hne
    go_wp2_with fail
    refine (eqIntS_same _ _ _ _ _ _ _ _ (HI5.out.below hb7 hs5) HI7.out hl).mono ?_
    rintro e w8 ⟨rfl, q, rfl⟩
    go_wp2_with fail
    go_ret
    exact ⟨rfl, below_drewN' (hb6.trans (hb7.mono (by omega))) q⟩
end Go.Proofs.Ytdmamojidefdaaa