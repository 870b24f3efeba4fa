/- The exact laws of business days. -/
import Derived.Test.YtcmmlgpaijfkeaaHolM
namespace Go.Proofs.Ytcmmlgpaijfkeaa
open Go.RowKit
theorem below_drewN' {B : Nat} {a w : World} (h : Below B a w) (n : Nat) : Below B a (w.drewN n) := ⟨h.os, h.tape, h.output, h.size, h.block⟩
theorem ints_of_row {w : World} {a : Option Addr} {len cap : Nat} {zs : List Int} (h : IsRow .i64 w a len cap zs) : (zs.take len).length = len ∧ Ints w w.heap.size a (zs.take len) := by
  rcases h with ⟨rfl, rfl, rfl, rfl⟩ | ⟨x, rfl, h1, h2, h3, h4, h5⟩
  · exact ⟨rfl, fun hl => by simp at hl⟩
  · have hlen : (zs.take len).length = len := by simp; omega
    refine ⟨hlen, fun hl => ?_⟩
    have hc := h4 0 (by omega)
    obtain ⟨b, off, spot⟩ := x
    have hspot : spot = none := by simpa [Addr.add] using World.cell?_spot hc
    subst hspot
    have hb : b < w.heap.size := by
      rcases Nat.lt_or_ge b w.heap.size with hlt | hge
      · exact hlt
      · simp [World.cell?, Addr.add, Array.getElem?_eq_none hge] at hc
    refine ⟨b, off, rfl, hb, fun i hi => ?_⟩
    have hi' := h4 i (by omega)
    have e : (Addr.add ⟨b, off, none⟩ i : Addr) = ⟨b, off + i, none⟩ := by unfold Addr.add; split <;> simp_all
    rw [e] at hi'
    rw [hi']
    simp [List.getD_eq_getElem?_getD, show i < len by omega]
set_option maxHeartbeats 1000000 in
theorem exIsBusiness (a : Option Addr) (len cap : Nat) (zs : List Int) (n : Int) (w : World) (h : IsRow .i64 w a len cap zs) :
    Calls Try.prog 8 #[.slice a len cap, .int .i64 n] w fun e w' => e = .returned (.bool true) ∧ Below w.heap.size w w' := by
  obtain ⟨hlen, hI⟩ := ints_of_row h
  clear h
  generalize zs.take len = xs at hlen hI
  obtain rfl : len = xs.length := hlen.symm
  clear hlen
  have HI := Lib.hid hI; clear hI
  by_cases hbig : 1048576 < (xs.length : Int)
  · go_enter Try.func8, Try.ntmps8
    go_wp2_with fail
    go_ret
    exact ⟨rfl, Below.refl _ _⟩
  · have hl : xs.length ≤ 1048576 := by omega
    have hne : (isBizV xs n != isBizV xs n) = false := by simp
    have HN := Lib.hid hne; clear hne
    go_enter Try.func8, Try.ntmps8
    go_wp2_with fail
    refine (toIntS_any _ _ _ _ _ HI.out (Nat.le_refl _) hl).mono ?_
    rintro e w1 ⟨b1, c1, rfl, hi1, hb1⟩
    have HI1 := Lib.hid hi1; clear hi1
    have hs1 := hb1.size
    go_wp2_with fail
    refine (sIsBiz_any _ _ _ _ _ _ HI1.out hl).mono ?_
    rintro e w2 ⟨rfl, m, rfl⟩
    have hb2 := below_drewN' hb1 m
    go_wp2_with fail
    refine (toIntS_any _ _ _ _ _ (HI.out.below hb2 (Nat.le_refl _)) hs1 hl).mono ?_
    rintro e w3 ⟨b3, c3, rfl, hi3, hb3⟩
    have HI3 := Lib.hid hi3; clear hi3
    have hs3 := hb3.size
    have hb4 := hb2.trans (hb3.mono hs1)
    go_wp2_with fail
    refine (isBiz_any _ _ _ _ _ _ HI3.out (Nat.le_refl _) hl).mono ?_
    rintro e w5 ⟨rfl, hb5⟩
    have hs4 : w.heap.size ≤ w3.heap.size := hb4.size
    have hs5 := hb5.size
    have hb6 := hb4.trans (hb5.mono hs4)
    have HI5 := Lib.hid (HI3.out.below hb5 (Nat.le_refl _))
    have hne := HN.out
    go_wp2_with fail
    refine (toIntS_any _ _ _ _ _ (HI.out.below hb6 (Nat.le_refl _)) (by omega) hl).mono ?_
    rintro e w7 ⟨b7, c7, rfl, hi7, hb7⟩
    have HI7 := Lib.hid hi7; clear hi7
    clear hne
    go_wp2_with fail
    refine (eqIntS_same _ _ _ _ _ _ _ _ (HI5.out.below hb7 hs5) HI7.out hl).mono ?_
    rintro e w8 ⟨rfl, q, rfl⟩
    go_wp2_with fail
    go_ret
    exact ⟨rfl, below_drewN' (hb6.trans (hb7.mono (by omega))) q⟩
set_option maxHeartbeats 1000000 in
theorem exAddBusiness (a : Option Addr) (len cap : Nat) (zs : List Int) (n : Int) (m : Int) (w : World) (h : IsRow .i64 w a len cap zs) :
    Calls Try.prog 9 #[.slice a len cap, .int .i64 n, .int .i64 m] w fun e w' => e = .returned (.bool true) ∧ Below w.heap.size w w' := by
  obtain ⟨hlen, hI⟩ := ints_of_row h
  clear h
  generalize zs.take len = xs at hlen hI
  obtain rfl : len = xs.length := hlen.symm
  clear hlen
  have HI := Lib.hid hI; clear hI
  by_cases hbig : 1048576 < (xs.length : Int)
  · go_enter Try.func9, Try.ntmps9
    go_wp2_with fail
    go_ret
    exact ⟨rfl, Below.refl _ _⟩
  · have hl : xs.length ≤ 1048576 := by omega
    have hne : (addBV xs n m != addBV xs n m) = false := by simp
    have HN := Lib.hid hne; clear hne
    go_enter Try.func9, Try.ntmps9
    go_wp2_with fail
    refine (toIntS_any _ _ _ _ _ HI.out (Nat.le_refl _) hl).mono ?_
    rintro e w1 ⟨b1, c1, rfl, hi1, hb1⟩
    have HI1 := Lib.hid hi1; clear hi1
    have hs1 := hb1.size
    go_wp2_with fail
    refine (sAddB_any _ _ _ _ _ _ _ HI1.out hl).mono ?_
    rintro e w2 ⟨rfl, mq, rfl⟩
    have hb2 := below_drewN' hb1 mq
    go_wp2_with fail
    refine (toIntS_any _ _ _ _ _ (HI.out.below hb2 (Nat.le_refl _)) hs1 hl).mono ?_
    rintro e w3 ⟨b3, c3, rfl, hi3, hb3⟩
    have HI3 := Lib.hid hi3; clear hi3
    have hs3 := hb3.size
    have hb4 := hb2.trans (hb3.mono hs1)
    go_wp2_with fail
    refine (iAddB_any _ _ _ _ _ _ _ HI3.out (Nat.le_refl _) hl).mono ?_
    rintro e w5 ⟨rfl, hb5⟩
    have hs4 : w.heap.size ≤ w3.heap.size := hb4.size
    have hs5 := hb5.size
    have hb6 := hb4.trans (hb5.mono hs4)
    have HI5 := Lib.hid (HI3.out.below hb5 (Nat.le_refl _))
    have hne := HN.out
    go_wp2_with fail
    refine (toIntS_any _ _ _ _ _ (HI.out.below hb6 (Nat.le_refl _)) (by omega) hl).mono ?_
    rintro e w7 ⟨b7, c7, rfl, hi7, hb7⟩
    have HI7 := Lib.hid hi7; clear hi7
    clear hne
    go_wp2_with fail
    refine (eqIntS_same _ _ _ _ _ _ _ _ (HI5.out.below hb7 hs5) HI7.out hl).mono ?_
    rintro e w8 ⟨rfl, q, rfl⟩
    go_wp2_with fail
    go_ret
    exact ⟨rfl, below_drewN' (hb6.trans (hb7.mono (by omega))) q⟩
set_option maxHeartbeats 1000000 in
theorem exBusinessBetween (a : Option Addr) (len cap : Nat) (zs : List Int) (x : Int) (y : Int) (w : World) (h : IsRow .i64 w a len cap zs) :
    Calls Try.prog 10 #[.slice a len cap, .int .i64 x, .int .i64 y] w fun e w' => e = .returned (.bool true) ∧ Below w.heap.size w w' := by
  obtain ⟨hlen, hI⟩ := ints_of_row h
  clear h
  generalize zs.take len = xs at hlen hI
  obtain rfl : len = xs.length := hlen.symm
  clear hlen
  have HI := Lib.hid hI; clear hI
  by_cases hbig : 1048576 < (xs.length : Int)
  · go_enter Try.func10, Try.ntmps10
    go_wp2_with fail
    go_ret
    exact ⟨rfl, Below.refl _ _⟩
  · have hl : xs.length ≤ 1048576 := by omega
    have hne : (cntV xs x y != cntV xs x y) = false := by simp
    have HN := Lib.hid hne; clear hne
    go_enter Try.func10, Try.ntmps10
    go_wp2_with fail
    refine (toIntS_any _ _ _ _ _ HI.out (Nat.le_refl _) hl).mono ?_
    rintro e w1 ⟨b1, c1, rfl, hi1, hb1⟩
    have HI1 := Lib.hid hi1; clear hi1
    have hs1 := hb1.size
    go_wp2_with fail
    refine (sCnt_any _ _ _ _ _ _ _ HI1.out hl).mono ?_
    rintro e w2 ⟨rfl, mq, rfl⟩
    have hb2 := below_drewN' hb1 mq
    go_wp2_with fail
    refine (toIntS_any _ _ _ _ _ (HI.out.below hb2 (Nat.le_refl _)) hs1 hl).mono ?_
    rintro e w3 ⟨b3, c3, rfl, hi3, hb3⟩
    have HI3 := Lib.hid hi3; clear hi3
    have hs3 := hb3.size
    have hb4 := hb2.trans (hb3.mono hs1)
    go_wp2_with fail
    refine (iCnt_any _ _ _ _ _ _ _ HI3.out (Nat.le_refl _) hl).mono ?_
    rintro e w5 ⟨rfl, hb5⟩
    have hs4 : w.heap.size ≤ w3.heap.size := hb4.size
    have hs5 := hb5.size
    have hb6 := hb4.trans (hb5.mono hs4)
    have HI5 := Lib.hid (HI3.out.below hb5 (Nat.le_refl _))
    have hne := HN.out
    go_wp2_with fail
    refine (toIntS_any _ _ _ _ _ (HI.out.below hb6 (Nat.le_refl _)) (by omega) hl).mono ?_
    rintro e w7 ⟨b7, c7, rfl, hi7, hb7⟩
    have HI7 := Lib.hid hi7; clear hi7
    clear hne
    go_wp2_with fail
    refine (eqIntS_same _ _ _ _ _ _ _ _ (HI5.out.below hb7 hs5) HI7.out hl).mono ?_
    rintro e w8 ⟨rfl, q, rfl⟩
    go_wp2_with fail
    go_ret
    exact ⟨rfl, below_drewN' (hb6.trans (hb7.mono (by omega))) q⟩
end Go.Proofs.Ytcmmlgpaijfkeaa
