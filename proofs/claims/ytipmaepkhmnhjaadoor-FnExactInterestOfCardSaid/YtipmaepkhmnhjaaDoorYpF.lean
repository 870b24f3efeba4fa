/- The laws of interest. -/
import Derived.Test.YtipmaepkhmnhjaaDoorYpD
import Derived.Outline
namespace Go.Proofs.YtipmaepkhmnhjaaDoor
open Go.RowKit
set_option maxHeartbeats 1000000 in
theorem exInterestOf (a r k x y : Int) (w : World) (hT : Tab w) :
    Calls Tryd.prog 10 #[.int .i64 a, .int .i64 r, .int .i64 k, .int .i64 x, .int .i64 y] w fun e w' => e = .returned (.bool true) ∧ Below w.heap.size w w' := by
  have HT := Lib.hid hT; clear hT
  go_enter Tryd.func10, Tryd.ntmps10
  go_wp2_with fail
  refine (sInterest_any _ _ _ _ _ _).mono ?_
  rintro e w1 ⟨rfl, hb1⟩
  go_wp2_with fail
  refine (interest_any _ _ _ _ _ _ (HT.out.below hb1 HT.out.pos)).mono ?_
  rintro e w2 ⟨rfl, hb2⟩
  have hbA := hb1.trans (hb2.mono hb1.size)
  go_wp2_with fail
  go_ret
  exact ⟨rfl, hbA⟩
set_option maxHeartbeats 400000 in
theorem absolute_any (n : Int) (w : World) (h0 : -1000000000000000000 ≤ n) (h1 : n ≤ 1000000000000000000) :
    Calls Tryd.prog 25 #[.int .i64 n] w fun e w' => e = .returned (.int .i64 (n.natAbs : Int)) ∧ w = w' := by
  by_cases h : n < 0
  · have E := Lib.hid (show -n = (n.natAbs : Int) by omega)
    go_enter Tryd.func25, Tryd.ntmps25
    go_wp2_with fail
    go_ret
    exact ⟨ret_int E.out, rfl⟩
  · have E := Lib.hid (show n = (n.natAbs : Int) by omega)
    go_enter Tryd.func25, Tryd.ntmps25
    go_wp2_with fail
    go_ret
    exact ⟨ret_int E.out, rfl⟩
set_option maxHeartbeats 4000000 in
theorem lawInterestOf (a : Option Addr) (len cap : Nat) (zs : List Int) (w : World) (h : IsRow .u8 w a len cap zs) (hT : Tab w) :
    Calls Tryd.prog 8 #[.slice a len cap] w fun e w' => e = .returned (.bool true) ∧ Below w.heap.size w w' := by
  have H := Lib.hid h; clear h
  have HT := Lib.hid hT; clear hT
  by_cases hl : 1048576 < (len : Int)
  · go_enter Tryd.func8, Tryd.ntmps8
    go_wp2_with fail
    go_ret
    exact ⟨rfl, Below.refl _ _⟩
  · have hl' := decide_eq_false hl
    clear hl
    go_enter Tryd.func8, Tryd.ntmps8
    go_wp2_with fail
    refine (drawIn_any _ _ _ _ _ H.out).mono ?_
    rintro e w1 ⟨a1, r1, k, x, y, rfl, ⟨a2, a3⟩, ⟨r2, r3⟩, hbA⟩
    have hne : (intV a1 r1 k x y != intV a1 r1 k x y) = false := by simp
    obtain ⟨i0, i1⟩ := intV_bd a1 r1 k x y
    by_cases hn : intV a1 r1 k x y < 0
    · go_wp2_with fail
      refine (interest_any _ _ _ _ _ _ (HT.out.below hbA HT.out.pos)).mono ?_
      rintro e w2 ⟨rfl, hb2⟩
      replace hbA := hbA.trans (hb2.mono hbA.size)
      go_wp2_with fail
      refine (sInterest_any _ _ _ _ _ _).mono ?_
      rintro e w3 ⟨rfl, hb3⟩
      replace hbA := hbA.trans (hb3.mono hbA.size)
      go_wp2_with fail
      refine (sInterest_any _ _ _ _ _ _).mono ?_
      rintro e w4 ⟨rfl, hb4⟩
      replace hbA := hbA.trans (hb4.mono hbA.size)
      go_wp2_with fail
      go_ret
      exact ⟨ret_bool (by simp), hbA⟩
    · obtain ⟨b0, b1⟩ := intV_bd (a1 + 1) r1 k x y
      obtain ⟨c0, c1⟩ := intV_bd a1 (r1 + 1) k x y
      have hz := intV_none hn
      have h1 := intV_grow hn (show a1 ≤ a1 + 1 by omega) (Int.le_refl r1)
      have h2 := intV_grow hn (Int.le_refl a1) (show r1 ≤ r1 + 1 by omega)
      have HZ := Lib.hid hz; clear hz
      go_wp2_with fail
      refine (interest_any _ _ _ _ _ _ (HT.out.below hbA HT.out.pos)).mono ?_
      rintro e w2 ⟨rfl, hb2⟩
      replace hbA := hbA.trans (hb2.mono hbA.size)
      go_wp2_with fail
      refine (sInterest_any _ _ _ _ _ _).mono ?_
      rintro e w3 ⟨rfl, hb3⟩
      replace hbA := hbA.trans (hb3.mono hbA.size)
      go_wp2_with fail
      refine (interest_any _ _ _ _ _ _ (HT.out.below hbA HT.out.pos)).mono ?_
      rintro e w4 ⟨rfl, hb4⟩
      replace hbA := hbA.trans (hb4.mono hbA.size)
      go_wp2_with fail
      refine (interest_any _ _ _ _ _ _ (HT.out.below hbA HT.out.pos)).mono ?_
      rintro e w5 ⟨rfl, hb5⟩
      replace hbA := hbA.trans (hb5.mono hbA.size)
      go_wp2_with fail
      refine (interest_any _ _ _ _ _ _ (HT.out.below hbA HT.out.pos)).mono ?_
      rw [HZ.out]
      rintro e w6 ⟨rfl, hb6⟩
      replace hbA := hbA.trans (hb6.mono hbA.size)
      rcases h1 with h1 | h1 <;> rcases h2 with h2 | h2
      all_goals
        go_wp2_with fail
        go_ret
        exact ⟨ret_bool (by simp), hbA⟩
set_option maxHeartbeats 4000000 in
theorem lawInterestOfDouble (a : Option Addr) (len cap : Nat) (zs : List Int) (w : World) (h : IsRow .u8 w a len cap zs) (hT : Tab w) :
    Calls Tryd.prog 9 #[.slice a len cap] w fun e w' => e = .returned (.bool true) ∧ Below w.heap.size w w' := by
  have H := Lib.hid h; clear h
  have HT := Lib.hid hT; clear hT
  by_cases hl : 1048576 < (len : Int)
  · go_enter Tryd.func9, Tryd.ntmps9
    go_wp2_with fail
    go_ret
    exact ⟨rfl, Below.refl _ _⟩
  · have hl' := decide_eq_false hl
    clear hl
    go_enter Tryd.func9, Tryd.ntmps9
    go_wp2_with fail
    refine (drawIn_any _ _ _ _ _ H.out).mono ?_
    rintro e w1 ⟨a1, r1, k, x, y, rfl, ⟨a2, a3⟩, ⟨r2, r3⟩, hbA⟩
    have hne : (intV a1 r1 k x y != intV a1 r1 k x y) = false := by simp
    obtain ⟨i0, i1⟩ := intV_bd a1 r1 k x y
    by_cases hn : intV a1 r1 k x y < 0
    · go_wp2_with fail
      refine (interest_any _ _ _ _ _ _ (HT.out.below hbA HT.out.pos)).mono ?_
      rintro e w2 ⟨rfl, hb2⟩
      replace hbA := hbA.trans (hb2.mono hbA.size)
      go_wp2_with fail
      refine (sInterest_any _ _ _ _ _ _).mono ?_
      rintro e w3 ⟨rfl, hb3⟩
      replace hbA := hbA.trans (hb3.mono hbA.size)
      go_wp2_with fail
      refine (sInterest_any _ _ _ _ _ _).mono ?_
      rintro e w4 ⟨rfl, hb4⟩
      replace hbA := hbA.trans (hb4.mono hbA.size)
      go_wp2_with fail
      go_ret
      exact ⟨ret_bool (by simp), hbA⟩
    · obtain ⟨b0, b1⟩ := intV_bd (2 * a1) r1 k x y
      have h1 := intV_double hn
      have h3 : ∀ W : World, ∀ n : Int, -1 ≤ n → n ≤ 1 → Calls Tryd.prog 25 #[.int .i64 n] W fun e w' => (∃ m : Int, e = .returned (.int .i64 m) ∧ m ≤ 1) ∧ W = w' := fun W n p q => (absolute_any n W (by omega) (by omega)).mono fun e w' ⟨x, y⟩ => ⟨⟨_, x, by omega⟩, y⟩
      have HA := Lib.hid h3; clear h3
      go_wp2_with fail
      refine (interest_any _ _ _ _ _ _ (HT.out.below hbA HT.out.pos)).mono ?_
      rintro e w2 ⟨rfl, hb2⟩
      replace hbA := hbA.trans (hb2.mono hbA.size)
      go_wp2_with fail
      refine (sInterest_any _ _ _ _ _ _).mono ?_
      rintro e w3 ⟨rfl, hb3⟩
      replace hbA := hbA.trans (hb3.mono hbA.size)
      go_wp2_with fail
      refine (interest_any _ _ _ _ _ _ (HT.out.below hbA HT.out.pos)).mono ?_
      rintro e w4 ⟨rfl, hb4⟩
      replace hbA := hbA.trans (hb4.mono hbA.size)
      rcases h1 with h1 | ⟨h1, h2⟩
      · go_wp2_with fail
        go_ret
        exact ⟨ret_bool (by simp), hbA⟩
      · by_cases h5 : intV (2 * a1) r1 k x y < 0
        · go_wp2_with fail
          go_ret
          exact ⟨ret_bool (by simp), hbA⟩
        · go_wp2_with fail
          refine (HA.out _ _ (by omega) (by omega)).mono ?_
          rintro e w5 ⟨⟨m, rfl, hm⟩, rfl⟩
          go_wp2_with fail
          go_ret
          exact ⟨ret_bool (by simp; try omega), hbA⟩
end Go.Proofs.YtipmaepkhmnhjaaDoor
