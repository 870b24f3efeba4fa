/- The laws of adjusted days. -/
import Derived.Test.YtcmmlgpaijfkeaaDoorAdj2
import Derived.Test.YtcmmlgpaijfkeaaDoorHolE
namespace Go.Proofs.YtcmmlgpaijfkeaaDoor
open Go.RowKit
theorem adjV_parts {xs : List Int} {n r : Int} (h : ¬ adjV xs n r < 0) : Biz.holB xs = true ∧ (0 ≤ n ∧ n ≤ 36524) ∧ (0 ≤ r ∧ r ≤ 3) := by
  cases h1 : Biz.holB xs with
  | false => exfalso; rw [adjV_f (.inl h1)] at h; omega
  | true =>
    cases h2 : btw n 0 36524 with
    | false => exfalso; rw [adjV_f (.inr h2)] at h; omega
    | true =>
      refine ⟨rfl, btw_iff.1 h2, ?_⟩
      rcases Int.lt_or_le r 0 with q | q
      · rw [adjV_o (.inl q)] at h; omega
      · rcases Int.lt_or_le 3 r with q2 | q2
        · rw [adjV_o (.inr q2)] at h; omega
        · omega
theorem monV_or (xs : List Int) (n : Int) : monV xs n = Biz.up xs n ∨ monV xs n = Biz.dn xs n := by unfold monV; split; exact .inl rfl; exact .inr rfl
theorem isBizV_of {xs : List Int} {n : Int} (h : Biz.holB xs = true) (h0 : 0 ≤ n) (h1 : n ≤ 36524) (hb : Biz.biz xs n = true) : isBizV xs n = true := by rw [isBizV_t h (btw_t h0 h1)]; exact hb
theorem smB_refl {n : Int} (h : 0 ≤ n) : smB n n = true := by unfold smB; simp [h]
/-- Adjusted days are business days that stay. -/
theorem adj_twice {xs : List Int} {n r : Int} (h : ¬ adjV xs n r < 0) (hr : r ≠ 0) : isBizV xs (adjV xs n r) = true ∧ adjV xs (adjV xs n r) r = adjV xs n r := by
  obtain ⟨h1, ⟨n0, n1⟩, r0, r1⟩ := adjV_parts h
  have hb := btw_t n0 n1
  have key : ∀ m : Int, 0 ≤ m → m ≤ 36524 → Biz.biz xs m = true → adjV xs m r = m := fun m m0 m1 mb => by
    have e := btw_t m0 m1
    obtain rfl | rfl | rfl : r = 1 ∨ r = 2 ∨ r = 3 := by omega
    · rw [adjV_1 h1 e, Biz.up_hit m0 m1 mb]
    · rw [adjV_2 h1 e, Biz.dn_hit m0 mb]
    · rw [adjV_3 h1 e]; unfold monV; rw [Biz.up_hit m0 m1 mb, if_pos (smB_refl m0)]
  have bd : 0 ≤ adjV xs n r ∧ adjV xs n r ≤ 36524 ∧ Biz.biz xs (adjV xs n r) = true := by
    have hu := Biz.up_bd xs n0
    have hd := Biz.dn_bd xs n
    obtain rfl | rfl | rfl : r = 1 ∨ r = 2 ∨ r = 3 := by omega
    · rw [adjV_1 h1 hb] at h ⊢
      rcases hu with e | ⟨a, b, c⟩
      · omega
      · exact ⟨by omega, b, c⟩
    · rw [adjV_2 h1 hb] at h ⊢
      rcases hd with e | ⟨a, b, c⟩
      · omega
      · exact ⟨a, by omega, c⟩
    · rw [adjV_3 h1 hb] at h ⊢
      rcases monV_or xs n with e | e <;> rw [e] at h ⊢
      · rcases hu with e | ⟨a, b, c⟩
        · omega
        · exact ⟨by omega, b, c⟩
      · rcases hd with e | ⟨a, b, c⟩
        · omega
        · exact ⟨a, by omega, c⟩
  exact ⟨isBizV_of h1 bd.1 bd.2.1 bd.2.2, key _ bd.1 bd.2.1 bd.2.2⟩
theorem dn_near {xs : List Int} {n : Int} (hx : xs.length ≤ 12) (n1 : 0 ≤ Biz.dn xs n) : n < Biz.dn xs n + 28 := by
  rcases Int.lt_or_le n (Biz.dn xs n + 28) with q | q
  · exact q
  · exfalso
    have h0 : ∀ m, n - 27 ≤ m → m < n - 27 + (28 : Nat) → Biz.biz xs m = false := fun m a b => by
      rcases Biz.dn_spec xs n with ⟨h1, h2⟩ | ⟨h1, h2, h3, h4⟩
      · omega
      · exact h4 m (by omega) (by omega)
    have := Biz.cnt_hits h0
    have := Biz.hits_le xs (n - 27) 28
    rw [Biz.cnt_28] at *
    omega
theorem adj_near1 {xs : List Int} {n : Int} (h : ¬ adjV xs n 1 < 0) : n ≤ adjV xs n 1 ∧ cntV xs n (adjV xs n 1) = 0 := by
  obtain ⟨h1, ⟨n0, n1⟩, _⟩ := adjV_parts h
  rw [adjV_1 h1 (btw_t n0 n1)] at h ⊢
  rcases Biz.up_bd xs n0 with e | ⟨a, b, c⟩
  · omega
  · have := Biz.up_near (Biz.holB_iff.1 h1).1 a
    exact ⟨a, by rw [cntV_val h1 ⟨n0, a, b, by omega⟩]; exact Biz.cnt_up a⟩
theorem adj_near2 {xs : List Int} {n : Int} (h : ¬ adjV xs n 2 < 0) : adjV xs n 2 ≤ n ∧ cntV xs (adjV xs n 2) n ≤ 1 ∧ isBizV xs n = (adjV xs n 2 == n) := by
  obtain ⟨h1, ⟨n0, n1⟩, _⟩ := adjV_parts h
  have hb := btw_t n0 n1
  rw [adjV_2 h1 hb] at h ⊢
  have hnear := dn_near (Biz.holB_iff.1 h1).1 (by omega : 0 ≤ Biz.dn xs n)
  rcases Biz.dn_spec xs n with ⟨e, _⟩ | ⟨a, b, c, d⟩
  · omega
  · generalize Biz.dn xs n = m at *
    refine ⟨b, ?_, ?_⟩
    · rw [cntV_val h1 ⟨a, b, n1, by omega⟩]
      by_cases e : m = n
      · subst e
        rw [show (m - m).toNat = 0 by omega]
        show (0 : Int) ≤ 1
        omega
      · obtain ⟨k, hk⟩ : ∃ k : Nat, (n - m).toNat = 1 + k := ⟨(n - m).toNat - 1, by omega⟩
        rw [hk, Biz.cnt_add, Biz.cnt_zero (a := m + (1 : Nat)) (fun j p q => d j (by omega) (by omega))]
        have := Biz.cnt_bd xs m 1
        omega
    · rw [isBizV_t h1 hb]
      by_cases e : m = n
      · subst e; rw [c]; simp
      · rw [d n (by omega) (by omega)]; simp [e]
theorem addB_next {xs : List Int} {n m : Int} (h : ¬ addBV xs n m < 0) (hm : m < 30) (he : addBV xs n m ≠ 36524) : isBizV xs (addBV xs n m) = true ∧ addBV xs n (m + 1) = adjV xs (addBV xs n m + 1) 1 ∧ addBV xs n m ≤ 36524 := by
  obtain ⟨h1, ⟨n0, n1⟩, ⟨m0, m1⟩, h3⟩ := addBV_parts h
  have e1 : addBV xs n (m + 1) = Biz.add xs n (m + 1).toNat := addBV_t h1 (btw_t n0 n1) (btw_t (by omega) (by omega))
  rw [e1]
  rw [h3] at h he ⊢
  rw [show (m + 1).toNat = m.toNat + 1 by omega, add_step (by omega)]
  rcases Biz.add_bd xs n0 m.toNat with e | ⟨a, b, c⟩
  · omega
  · exact ⟨isBizV_of h1 (by omega) b c, by rw [adjV_1 h1 (btw_t (by omega) (by omega))], b⟩
set_option maxHeartbeats 1000000 in
theorem lawAdjustDay (a : Option Addr) (len cap : Nat) (zs : List Int) (w : World) (h : IsRow .u8 w a len cap zs) (hT : Tab w) :
    Calls Tryd.prog 3 #[.slice a len cap] w fun e w' => e = .returned (.bool true) ∧ Below w.heap.size w w' := by
  have H := Lib.hid h; clear h
  have HT := Lib.hid hT; clear hT
  by_cases hl : 1048576 < (len : Int)
  · go_enter Tryd.func3, Tryd.ntmps3
    go_wp2_with fail
    go_ret
    exact ⟨rfl, Below.refl _ _⟩
  · have hl' := decide_eq_false hl
    clear hl
    go_enter Tryd.func3, Tryd.ntmps3
    go_wp2_with fail
    refine (drawAdj_any _ _ _ _ _ H.out).mono ?_
    rintro e w0 ⟨a0, c0, xs, n, r, rfl, hi, hlx0, ⟨n0, n1⟩, ⟨r0, r1⟩, hB0⟩
    have HI0 := Lib.hid hi; clear hi
    have hs0 : w0.heap.size ≤ w0.heap.size := Nat.le_refl _
    have hlx : xs.length ≤ 1048576 := by omega
    have HT0 := Lib.hid (HT.out.below hB0 HT.out.pos)
    have hne : (adjV xs n r != adjV xs n r) = false := by simp
    go_wp2_with fail
    refine (iAdj_any _ _ _ _ _ _ _ HI0.out HT0.out hs0 hlx).mono ?_
    rintro e w1 ⟨rfl, hb1⟩
    have HI1 := Lib.hid (HI0.out.below hb1 hs0)
    have HT1 := Lib.hid (HT0.out.below hb1 HT0.out.pos)
    have hs1 : w0.heap.size ≤ w1.heap.size := Nat.le_trans hs0 hb1.size
    have hB1 := hB0.trans (hb1.mono hB0.size)
    clear hb1
    go_wp2_with fail
    refine (sAdj_any _ _ _ _ _ _ _ HI1.out hs1 hlx).mono ?_
    rintro e w2 ⟨rfl, hb2⟩
    have HI2 := Lib.hid (HI1.out.below hb2 hs1)
    have HT2 := Lib.hid (HT1.out.below hb2 HT1.out.pos)
    have hs2 : w0.heap.size ≤ w2.heap.size := Nat.le_trans hs1 hb2.size
    have hB2 := hB1.trans (hb2.mono hB1.size)
    clear hb2
    by_cases hc : adjV xs n r < 0
    · go_wp2_with fail
      refine (sAdj_any _ _ _ _ _ _ _ HI2.out hs2 hlx).mono ?_
      rintro e w3 ⟨rfl, hb3⟩
      have HI3 := Lib.hid (HI2.out.below hb3 hs2)
      have HT3 := Lib.hid (HT2.out.below hb3 HT2.out.pos)
      have hs3 : w0.heap.size ≤ w3.heap.size := Nat.le_trans hs2 hb3.size
      have hB3 := hB2.trans (hb3.mono hB2.size)
      clear hb3
      go_wp2_with fail
      go_ret
      exact ⟨ret_bool (by simp), hB3⟩
    · by_cases hr : r = 0
      · subst hr
        obtain ⟨h1, ⟨x0, x1⟩, _⟩ := adjV_parts hc
        have q : (adjV xs n 0 == n) = true := by rw [adjV_0 h1 (btw_t x0 x1)]; simp
        clear h1
        go_wp2_with fail
        go_ret
        exact ⟨rfl, hB2⟩
      · have HQ := Lib.hid (adj_twice hc hr)
        have e0 : (r == 0) = false := by simp [hr]
        go_wp2_with fail
        refine (isBiz_any _ _ _ _ _ _ HI2.out hs2 hlx).mono ?_
        rintro e w3 ⟨rfl, hb3⟩
        have HI3 := Lib.hid (HI2.out.below hb3 hs2)
        have HT3 := Lib.hid (HT2.out.below hb3 HT2.out.pos)
        have hs3 : w0.heap.size ≤ w3.heap.size := Nat.le_trans hs2 hb3.size
        have hB3 := hB2.trans (hb3.mono hB2.size)
        clear hb3
        have q := HQ.out.1
        go_wp2_with fail
        refine (iAdj_any _ _ _ _ _ _ _ HI3.out HT3.out hs3 hlx).mono ?_
        rintro e w4 ⟨rfl, hb4⟩
        have HI4 := Lib.hid (HI3.out.below hb4 hs3)
        have HT4 := Lib.hid (HT3.out.below hb4 HT3.out.pos)
        have hs4 : w0.heap.size ≤ w4.heap.size := Nat.le_trans hs3 hb4.size
        have hB4 := hB3.trans (hb4.mono hB3.size)
        clear hb4
        have q2 : (adjV xs (adjV xs n r) r == adjV xs n r) = true := by rw [HQ.out.2]; simp
        go_wp2_with fail
        go_ret
        exact ⟨rfl, hB4⟩
set_option maxHeartbeats 1000000 in
theorem lawAdjustDayNear (a : Option Addr) (len cap : Nat) (zs : List Int) (w : World) (h : IsRow .u8 w a len cap zs) (hT : Tab w) :
    Calls Tryd.prog 4 #[.slice a len cap] w fun e w' => e = .returned (.bool true) ∧ Below w.heap.size w w' := by
  have H := Lib.hid h; clear h
  have HT := Lib.hid hT; clear hT
  by_cases hl : 1048576 < (len : Int)
  · go_enter Tryd.func4, Tryd.ntmps4
    go_wp2_with fail
    go_ret
    exact ⟨rfl, Below.refl _ _⟩
  · have hl' := decide_eq_false hl
    clear hl
    go_enter Tryd.func4, Tryd.ntmps4
    go_wp2_with fail
    refine (drawAdj_any _ _ _ _ _ H.out).mono ?_
    rintro e w0 ⟨a0, c0, xs, n, r, rfl, hi, hlx0, ⟨n0, n1⟩, ⟨r0, r1⟩, hB0⟩
    have HI0 := Lib.hid hi; clear hi
    have hs0 : w0.heap.size ≤ w0.heap.size := Nat.le_refl _
    have hlx : xs.length ≤ 1048576 := by omega
    have HT0 := Lib.hid (HT.out.below hB0 HT.out.pos)
    have hne : (adjV xs n r != adjV xs n r) = false := by simp
    go_wp2_with fail
    refine (iAdj_any _ _ _ _ _ _ _ HI0.out HT0.out hs0 hlx).mono ?_
    rintro e w1 ⟨rfl, hb1⟩
    have HI1 := Lib.hid (HI0.out.below hb1 hs0)
    have HT1 := Lib.hid (HT0.out.below hb1 HT0.out.pos)
    have hs1 : w0.heap.size ≤ w1.heap.size := Nat.le_trans hs0 hb1.size
    have hB1 := hB0.trans (hb1.mono hB0.size)
    clear hb1
    go_wp2_with fail
    refine (sAdj_any _ _ _ _ _ _ _ HI1.out hs1 hlx).mono ?_
    rintro e w2 ⟨rfl, hb2⟩
    have HI2 := Lib.hid (HI1.out.below hb2 hs1)
    have HT2 := Lib.hid (HT1.out.below hb2 HT1.out.pos)
    have hs2 : w0.heap.size ≤ w2.heap.size := Nat.le_trans hs1 hb2.size
    have hB2 := hB1.trans (hb2.mono hB1.size)
    clear hb2
    by_cases hc : adjV xs n r < 0
    · go_wp2_with fail
      refine (sAdj_any _ _ _ _ _ _ _ HI2.out hs2 hlx).mono ?_
      rintro e w3 ⟨rfl, hb3⟩
      have HI3 := Lib.hid (HI2.out.below hb3 hs2)
      have HT3 := Lib.hid (HT2.out.below hb3 HT2.out.pos)
      have hs3 : w0.heap.size ≤ w3.heap.size := Nat.le_trans hs2 hb3.size
      have hB3 := hB2.trans (hb3.mono hB2.size)
      clear hb3
      go_wp2_with fail
      go_ret
      exact ⟨ret_bool (by simp), hB3⟩
    · by_cases hr1 : r = 1
      · subst hr1
        have HQ := Lib.hid (adj_near1 hc)
        have p := HQ.out.1
        go_wp2_with fail
        refine (iCnt_any _ _ _ _ _ _ _ HI2.out hs2 hlx).mono ?_
        rintro e w3 ⟨rfl, hb3⟩
        have HI3 := Lib.hid (HI2.out.below hb3 hs2)
        have HT3 := Lib.hid (HT2.out.below hb3 HT2.out.pos)
        have hs3 : w0.heap.size ≤ w3.heap.size := Nat.le_trans hs2 hb3.size
        have hB3 := hB2.trans (hb3.mono hB2.size)
        clear hb3
        have q2 : (cntV xs n (adjV xs n 1) == 0) = true := by rw [HQ.out.2]; rfl
        go_wp2_with fail
        go_ret
        exact ⟨rfl, hB3⟩
      · have e1 : (r == 1) = false := by simp [hr1]
        have f1 : (r != 1) = true := by simp [hr1]
        by_cases hr2 : r = 2
        · subst hr2
          have HQ := Lib.hid (adj_near2 hc)
          have p := HQ.out.1
          go_wp2_with fail
          refine (iCnt_any _ _ _ _ _ _ _ HI2.out hs2 hlx).mono ?_
          rintro e w3 ⟨rfl, hb3⟩
          have HI3 := Lib.hid (HI2.out.below hb3 hs2)
          have HT3 := Lib.hid (HT2.out.below hb3 HT2.out.pos)
          have hs3 : w0.heap.size ≤ w3.heap.size := Nat.le_trans hs2 hb3.size
          have hB3 := hB2.trans (hb3.mono hB2.size)
          clear hb3
          have q2 := HQ.out.2.1
          go_wp2_with fail
          refine (isBiz_any _ _ _ _ _ _ HI3.out hs3 hlx).mono ?_
          rintro e w4 ⟨rfl, hb4⟩
          have HI4 := Lib.hid (HI3.out.below hb4 hs3)
          have HT4 := Lib.hid (HT3.out.below hb4 HT3.out.pos)
          have hs4 : w0.heap.size ≤ w4.heap.size := Nat.le_trans hs3 hb4.size
          have hB4 := hB3.trans (hb4.mono hB3.size)
          clear hb4
          have q3 := HQ.out.2.2
          go_wp2_with fail
          go_ret
          exact ⟨ret_bool (by simp), hB4⟩
        · have f2 : (r != 2) = true := by simp [hr2]
          go_wp2_with fail
          refine (sAdj_any _ _ _ _ _ _ _ HI2.out hs2 hlx).mono ?_
          rintro e w3 ⟨rfl, hb3⟩
          have HI3 := Lib.hid (HI2.out.below hb3 hs2)
          have HT3 := Lib.hid (HT2.out.below hb3 HT2.out.pos)
          have hs3 : w0.heap.size ≤ w3.heap.size := Nat.le_trans hs2 hb3.size
          have hB3 := hB2.trans (hb3.mono hB2.size)
          clear hb3
          go_wp2_with fail
          go_ret
          exact ⟨ret_bool (by simp), hB3⟩
set_option maxHeartbeats 1000000 in
theorem lawAddBusiness (a : Option Addr) (len cap : Nat) (zs : List Int) (w : World) (h : IsRow .u8 w a len cap zs) (hT : Tab w) :
    Calls Tryd.prog 5 #[.slice a len cap] w fun e w' => e = .returned (.bool true) ∧ Below w.heap.size w w' := by
  have H := Lib.hid h; clear h
  have HT := Lib.hid hT; clear hT
  by_cases hl : 1048576 < (len : Int)
  · go_enter Tryd.func5, Tryd.ntmps5
    go_wp2_with fail
    go_ret
    exact ⟨rfl, Below.refl _ _⟩
  · have hl' := decide_eq_false hl
    clear hl
    go_enter Tryd.func5, Tryd.ntmps5
    go_wp2_with fail
    refine (drawAddB_any _ _ _ _ _ H.out).mono ?_
    rintro e w0 ⟨a0, c0, xs, n, m, rfl, hi, hlx0, ⟨n0, n1⟩, ⟨m0, m1⟩, hB0⟩
    have HI0 := Lib.hid hi; clear hi
    have hs0 : w0.heap.size ≤ w0.heap.size := Nat.le_refl _
    have hlx : xs.length ≤ 1048576 := by omega
    have HT0 := Lib.hid (HT.out.below hB0 HT.out.pos)
    have hne : (addBV xs n m != addBV xs n m) = false := by simp
    go_wp2_with fail
    refine (iAddB_any _ _ _ _ _ _ _ HI0.out hs0 hlx).mono ?_
    rintro e w1 ⟨rfl, hb1⟩
    have HI1 := Lib.hid (HI0.out.below hb1 hs0)
    have HT1 := Lib.hid (HT0.out.below hb1 HT0.out.pos)
    have hs1 : w0.heap.size ≤ w1.heap.size := Nat.le_trans hs0 hb1.size
    have hB1 := hB0.trans (hb1.mono hB0.size)
    clear hb1
    go_wp2_with fail
    refine (sAddB_b _ _ _ _ _ _ _ HI1.out hlx).mono ?_
    rintro e w2 ⟨rfl, hb2⟩
    have HI2 := Lib.hid (HI1.out.below hb2 hs1)
    have HT2 := Lib.hid (HT1.out.below hb2 HT1.out.pos)
    have hs2 : w0.heap.size ≤ w2.heap.size := Nat.le_trans hs1 hb2.size
    have hB2 := hB1.trans (hb2.mono hB1.size)
    clear hb2
    by_cases hc : addBV xs n m < 0
    · go_wp2_with fail
      refine (sAddB_b _ _ _ _ _ _ _ HI2.out hlx).mono ?_
      rintro e w3 ⟨rfl, hb3⟩
      have HI3 := Lib.hid (HI2.out.below hb3 hs2)
      have HT3 := Lib.hid (HT2.out.below hb3 HT2.out.pos)
      have hs3 : w0.heap.size ≤ w3.heap.size := Nat.le_trans hs2 hb3.size
      have hB3 := hB2.trans (hb3.mono hB2.size)
      clear hb3
      go_wp2_with fail
      go_ret
      exact ⟨ret_bool (by simp), hB3⟩
    · by_cases hm : 30 ≤ m
      · go_wp2_with fail
        refine (sAddB_b _ _ _ _ _ _ _ HI2.out hlx).mono ?_
        rintro e w3 ⟨rfl, hb3⟩
        have HI3 := Lib.hid (HI2.out.below hb3 hs2)
        have HT3 := Lib.hid (HT2.out.below hb3 HT2.out.pos)
        have hs3 : w0.heap.size ≤ w3.heap.size := Nat.le_trans hs2 hb3.size
        have hB3 := hB2.trans (hb3.mono hB2.size)
        clear hb3
        go_wp2_with fail
        go_ret
        exact ⟨ret_bool (by simp), hB3⟩
      · by_cases he : addBV xs n m = 36524
        · have q : (addBV xs n m == 36524) = true := by simp [he]
          clear he
          go_wp2_with fail
          refine (sAddB_b _ _ _ _ _ _ _ HI2.out hlx).mono ?_
          rintro e w3 ⟨rfl, hb3⟩
          have HI3 := Lib.hid (HI2.out.below hb3 hs2)
          have HT3 := Lib.hid (HT2.out.below hb3 HT2.out.pos)
          have hs3 : w0.heap.size ≤ w3.heap.size := Nat.le_trans hs2 hb3.size
          have hB3 := hB2.trans (hb3.mono hB2.size)
          clear hb3
          go_wp2_with fail
          go_ret
          exact ⟨ret_bool (by simp), hB3⟩
        · have q : (addBV xs n m == 36524) = false := by simp [he]
          have HQ := Lib.hid (addB_next hc (by omega) he)
          have hle := HQ.out.2.2
          clear he
          go_wp2_with fail
          refine (isBiz_any _ _ _ _ _ _ HI2.out hs2 hlx).mono ?_
          rintro e w3 ⟨rfl, hb3⟩
          have HI3 := Lib.hid (HI2.out.below hb3 hs2)
          have HT3 := Lib.hid (HT2.out.below hb3 HT2.out.pos)
          have hs3 : w0.heap.size ≤ w3.heap.size := Nat.le_trans hs2 hb3.size
          have hB3 := hB2.trans (hb3.mono hB2.size)
          clear hb3
          have q1 := HQ.out.1
          go_wp2_with fail
          refine (iAddB_any _ _ _ _ _ _ _ HI3.out hs3 hlx).mono ?_
          rintro e w4 ⟨rfl, hb4⟩
          have HI4 := Lib.hid (HI3.out.below hb4 hs3)
          have HT4 := Lib.hid (HT3.out.below hb4 HT3.out.pos)
          have hs4 : w0.heap.size ≤ w4.heap.size := Nat.le_trans hs3 hb4.size
          have hB4 := hB3.trans (hb4.mono hB3.size)
          clear hb4
          go_wp2_with fail
          refine (iAdj_any _ _ _ _ _ _ _ HI4.out HT4.out hs4 hlx).mono ?_
          rintro e w5 ⟨rfl, hb5⟩
          have HI5 := Lib.hid (HI4.out.below hb5 hs4)
          have HT5 := Lib.hid (HT4.out.below hb5 HT4.out.pos)
          have hs5 : w0.heap.size ≤ w5.heap.size := Nat.le_trans hs4 hb5.size
          have hB5 := hB4.trans (hb5.mono hB4.size)
          clear hb5
          have q2 : (addBV xs n (m + 1) == adjV xs (addBV xs n m + 1) 1) = true := by rw [HQ.out.2.1]; simp
          go_wp2_with fail
          go_ret
          exact ⟨rfl, hB5⟩
end Go.Proofs.YtcmmlgpaijfkeaaDoor
