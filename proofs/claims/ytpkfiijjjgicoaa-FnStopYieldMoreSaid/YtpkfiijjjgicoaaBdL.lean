/- The laws of bids and of the yields at which auctions stop. -/
import Derived.Test.YtpkfiijjjgicoaaBdD
import Derived.Test.YtpkfiijjjgicoaaSrB5
namespace Go.Proofs.Ytpkfiijjjgicoaa
open Go.RowKit
theorem bneq_selfD (x : Bool) : (x != x) = false := by simp
theorem beq_selfD (x : Bool) : (x == x) = true := by simp
theorem R2o.cut {w : World} {a : Option Addr} {c n k : Nat} {ps : List Pr} (h : R2o w (.slice a n c) ps) (hn : n = ps.length) (hk : k ≤ n) : R2o w (.slice a k c) (ps.take k) := by
  have hl : (ps.take k).length = k := by rw [List.length_take]; omega
  refine ⟨⟨a, c, by rw [hl]⟩, fun h0 => ?_⟩
  obtain ⟨b, off, c', e, hb, hc⟩ := h.2 (by omega)
  simp only [Value.slice.injEq] at e
  obtain ⟨rfl, -, rfl⟩ := e
  refine ⟨b, off, c, by rw [hl], hb, fun i hi => ?_⟩
  have := hc i (by omega)
  rw [show (ps.take k).getD i (0, 0) = ps.getD i (0, 0) by rw [List.getD_eq_getElem?_getD, List.getElem?_take, if_pos (by omega), List.getD_eq_getElem?_getD]]
  exact this
theorem Bd.ok_take {ps : List Pr} (h : Bd.ok ps = true) (k : Nat) : Bd.ok (ps.take k) = true := by
  obtain ⟨hl, ha⟩ := Bd.parts h
  unfold Bd.ok
  rw [Bool.and_eq_true, btw_iff, List.length_take]
  exact ⟨by omega, List.all_eq_true.2 fun p hp => List.all_eq_true.1 ha p (List.mem_of_mem_take hp)⟩
theorem Bd.below_pred {ps : List Pr} {z : Int} : ∀ qs : List Pr, (∀ p ∈ qs, p.1 ≠ z) → Bd.below qs z = Bd.below qs (z - 1)
  | [], _ => rfl
  | q :: qs, h => by
    have ih := Bd.below_pred (ps := ps) qs (fun p hp => h p (List.mem_cons_of_mem _ hp))
    have h1 := h q (List.mem_cons_self ..)
    unfold Bd.below at *
    simp only [List.map_cons, List.sum_cons, ih]
    unfold Bd.add
    split <;> split <;> omega
/-- Whatever is bid up to a yield is bid up to the yield of one of the bids. -/
theorem Bd.below_some {ps : List Pr} (h0 : ∀ p ∈ ps, 0 ≤ p.1) : ∀ k : Nat, 1 ≤ Bd.below ps k → ∃ p ∈ ps, p.1 ≤ k ∧ Bd.below ps p.1 = Bd.below ps k
  | 0, h => by
    by_cases c : ∃ p ∈ ps, p.1 = ((0 : Nat) : Int)
    · obtain ⟨p, hp, e⟩ := c
      exact ⟨p, hp, by omega, by rw [e]⟩
    · have e := Bd.below_none (y := ((0 : Nat) : Int)) ps (fun p hp => by
        have := h0 p hp
        rcases Int.lt_or_le ((0 : Nat) : Int) p.1 with d | d
        · exact d
        · exact absurd ⟨p, hp, by omega⟩ c)
      omega
  | k + 1, h => by
    by_cases c : ∃ p ∈ ps, p.1 = ((k + 1 : Nat) : Int)
    · obtain ⟨p, hp, e⟩ := c
      exact ⟨p, hp, by omega, by rw [e]⟩
    · have e := Bd.below_pred (ps := ps) (z := ((k + 1 : Nat) : Int)) ps (fun p hp q => c ⟨p, hp, q⟩)
      rw [show ((k + 1 : Nat) : Int) - 1 = (k : Int) by omega] at e
      obtain ⟨p, hp, h1, h2⟩ := Bd.below_some h0 k (by omega)
      exact ⟨p, hp, by omega, by rw [h2, e]⟩
/-- Below the yield at which an auction stops there is not enough. -/
theorem Bd.stop_less {ps : List Pr} (h0 : ∀ p ∈ ps, 0 ≤ p.1) {n : Int} (hn : 1 ≤ n) (hs : 0 ≤ Bd.stop ps n) : n ≤ Bd.below ps (Bd.stop ps n) ∧ Bd.below ps (Bd.stop ps n - 1) < n := by
  rcases Bd.stop_is h0 n with ⟨e, _⟩ | ⟨_, _, a2, a3⟩
  · omega
  · refine ⟨a2, ?_⟩
    rcases Int.lt_or_le (Bd.below ps (Bd.stop ps n - 1)) n with c | c
    · exact c
    · exfalso
      rcases Int.lt_or_le (Bd.stop ps n - 1) 0 with d | d
      · rw [Bd.below_none ps (fun p hp => by have := h0 p hp; omega)] at c; omega
      · obtain ⟨k, hk⟩ : ∃ k : Nat, Bd.stop ps n - 1 = (k : Int) := ⟨(Bd.stop ps n - 1).toNat, by omega⟩
        rw [hk] at c
        obtain ⟨p, hp, h1, h2⟩ := Bd.below_some h0 k (by omega)
        have := a3 p hp (by omega)
        omega
theorem Bd.stop_more {ps : List Pr} (h0 : ∀ p ∈ ps, 0 ≤ p.1) (n : Int) : Bd.stop ps (n + 1) < 0 ∨ Bd.stop ps n ≤ Bd.stop ps (n + 1) := by
  rcases Bd.stop_is h0 (n + 1) with ⟨e, _⟩ | ⟨b0, ⟨p, hp, hpe⟩, b2, b3⟩
  · omega
  · rcases Bd.stop_is h0 n with ⟨e, _⟩ | ⟨a0, _, a2, a3⟩
    · omega
    · have := a3 p hp (by rw [hpe]; omega)
      omega
set_option maxRecDepth 8000 in
set_option maxHeartbeats 8000000 in
theorem lawValidBids (a : Option Addr) (len cap : Nat) (zs : List Int) (w : World) (h : IsRow .u8 w a len cap zs) :
    Calls Try.prog 6 #[.slice a len cap] w fun e w' => e = .returned (.bool true) ∧ Below w.heap.size w w' := by
  have H := Lib.hid h; clear h
  by_cases hl : 1048576 < (len : Int)
  · go_enter Try.func6, Try.ntmps6
    go_wp2_with fail
    go_ret
    exact ⟨rfl, Below.refl _ _⟩
  · have hl' := decide_eq_false hl
    clear hl
    go_enter Try.func6, Try.ntmps6
    go_wp2_with fail
    refine (drawVB_any _ _ _ _ _ H.out).mono ?_
    rintro e w1 ⟨ps, b, c, rfl, hR, hlen, hcap, hb1⟩
    have R1 := Lib.hid hR; clear hR
    have hm : ps.length ≤ 9223372036854775807 := by omega
    have q1 := bneq_selfD (Bd.ok ps)
    have q2 := beq_selfD (Bd.ok ps)
    cases hok : Bd.ok ps with
    | false =>
      have HK := Lib.hid hok
      rw [hok] at q1 q2
      clear hok
      go_wp2_with fail
      refine (vbids_any _ _ _ R1.out hm).mono ?_
      rw [HK.out]
      rintro e w2 ⟨rfl, hb2⟩
      have R2 := Lib.hid (R1.out.below hb2 (Nat.le_refl _))
      have hb3 := hb1.trans (hb2.mono hb1.size)
      clear hb2
      go_wp2_with fail
      refine (sValidBids_any _ _ _ R2.out hm).mono ?_
      rw [HK.out]
      rintro e w4 ⟨rfl, rfl⟩
      go_wp2_with fail
      refine (sValidBids_any _ _ _ R2.out hm).mono ?_
      rw [HK.out]
      rintro e w5 ⟨rfl, rfl⟩
      go_wp2_with fail
      go_ret
      exact ⟨rfl, hb3⟩
    | true =>
      have HK := Lib.hid hok
      rw [hok] at q1 q2
      clear hok
      by_cases h0 : ps.length = 0
      · have hz : ((ps.length : Int) == 0) = true := by rw [h0]; rfl
        clear h0
        go_wp2_with fail
        refine (vbids_any _ _ _ R1.out hm).mono ?_
        rw [HK.out]
        rintro e w2 ⟨rfl, hb2⟩
        have R2 := Lib.hid (R1.out.below hb2 (Nat.le_refl _))
        have hb3 := hb1.trans (hb2.mono hb1.size)
        clear hb2
        go_wp2_with fail
        refine (sValidBids_any _ _ _ R2.out hm).mono ?_
        rw [HK.out]
        rintro e w4 ⟨rfl, rfl⟩
        go_wp2_with fail
        clear hz
        refine (sValidBids_any _ _ _ R2.out hm).mono ?_
        rw [HK.out]
        rintro e w5 ⟨rfl, rfl⟩
        go_wp2_with fail
        go_ret
        exact ⟨rfl, hb3⟩
      · have hz : ((ps.length : Int) == 0) = false := by rw [beq_eq_false_iff_ne]; omega
        obtain ⟨k, hk, hk2⟩ : ∃ k : Nat, (ps.length : Int) - 1 = (k : Int) ∧ k ≤ ps.length := ⟨ps.length - 1, by omega, by omega⟩
        have hkc : k ≤ c := by omega
        clear h0
        go_wp2_with fail
        refine (vbids_any _ _ _ R1.out hm).mono ?_
        rw [HK.out]
        rintro e w2 ⟨rfl, hb2⟩
        have R2 := Lib.hid (R1.out.below hb2 (Nat.le_refl _))
        have hb3 := hb1.trans (hb2.mono hb1.size)
        clear hb2
        go_wp2_with fail
        refine (sValidBids_any _ _ _ R2.out hm).mono ?_
        rw [HK.out]
        rintro e w4 ⟨rfl, rfl⟩
        go_wp2_with fail
        refine (vbids_any _ _ _ (R2.out.cut rfl hk2) (by rw [List.length_take]; omega)).mono ?_
        rw [Bd.ok_take HK.out]
        rintro e w5 ⟨rfl, hb5⟩
        go_wp2_with fail
        go_ret
        exact ⟨rfl, hb3.trans (hb5.mono hb3.size)⟩
set_option maxRecDepth 8000 in
set_option maxHeartbeats 8000000 in
theorem lawStopYield (a : Option Addr) (len cap : Nat) (zs : List Int) (w : World) (h : IsRow .u8 w a len cap zs) :
    Calls Try.prog 7 #[.slice a len cap] w fun e w' => e = .returned (.bool true) ∧ Below w.heap.size w w' := by
  have H := Lib.hid h; clear h
  by_cases hl : 1048576 < (len : Int)
  · go_enter Try.func7, Try.ntmps7
    go_wp2_with fail
    go_ret
    exact ⟨rfl, Below.refl _ _⟩
  · have hl' := decide_eq_false hl
    clear hl
    go_enter Try.func7, Try.ntmps7
    go_wp2_with fail
    refine (drawSY_any _ _ _ _ _ H.out).mono ?_
    rintro e w1 ⟨ps, b, c, n, rfl, hR, hlen, ⟨n0, n1⟩, hb1⟩
    have R1 := Lib.hid hR; clear hR
    have hm : ps.length ≤ 9223372036854775807 := by omega
    have q1 : (Bd.val ps n != Bd.val ps n) = false := by simp
    have q2 : (Bd.val ps n == Bd.val ps n) = true := by simp
    cases hok : Bd.auc ps n with
    | false =>
      rw [Bd.val_no hok] at q1 q2
      have E := Lib.hid (Bd.val_no hok)
      clear hok
      go_wp2_with fail
      refine (stopYield_any _ _ _ _ R1.out hm).mono ?_
      rw [E.out]
      rintro e w2 ⟨rfl, hb2⟩
      have R2 := Lib.hid (R1.out.below hb2 (Nat.le_refl _))
      have hb3 := hb1.trans (hb2.mono hb1.size)
      clear hb2
      go_wp2_with fail
      refine (sStopYield_any _ _ _ _ R2.out hm).mono ?_
      rw [E.out]
      rintro e w4 ⟨rfl, rfl⟩
      go_wp2_with fail
      refine (sStopYield_any _ _ _ _ R2.out hm).mono ?_
      rw [E.out]
      rintro e w5 ⟨rfl, rfl⟩
      go_wp2_with fail
      go_ret
      exact ⟨rfl, hb3⟩
    | true =>
      have HK := Lib.hid hok
      rw [Bd.val_yes hok] at q1 q2
      have E := Lib.hid (Bd.val_yes hok)
      obtain ⟨hok1, hn⟩ := (Bool.and_eq_true _ _).mp (show (Bd.ok ps && btw n 1 1000000000) = true from hok)
      obtain ⟨m0, m1⟩ := btw_iff.1 hn
      obtain ⟨hl8, hall⟩ := Bd.parts hok1
      have hge := Bd.best_ge ps n (fun p hp => by have := Bd.one_iff.1 (List.all_eq_true.1 hall p hp); omega) (Nat.le_refl ps.length)
      have HSL := Lib.hid (fun hs => Bd.stop_less (fun p hp => by have := Bd.one_iff.1 (List.all_eq_true.1 hall p hp); omega) m0 (hs : 0 ≤ Bd.stop ps n))
      have HBD := Lib.hid (fun x i hi => Bd.below_bd hall x i hi)
      have HA := Lib.hid (fun i (hi : i < ps.length) => Bd.one_iff.1 (allB_at pr0 hall hi))
      have HTk := Lib.hid (fun i (hi : i < ps.length) x => Bd.below_take hi x)
      have HE := Lib.hid (show ∀ i, ps.length ≤ i → ps.take i = ps from fun i hi => List.take_of_length_le hi)
      rw [show Bd.best ps n ps.length = Bd.stop ps n from rfl] at hge
      clear hok hok1 hn hall
      by_cases hy : Bd.stop ps n < 0
      · generalize Bd.stop ps n = y at *
        go_wp2_with fail
        refine (stopYield_any _ _ _ _ R1.out hm).mono ?_
        rw [E.out]
        rintro e w2 ⟨rfl, hb2⟩
        have R2 := Lib.hid (R1.out.below hb2 (Nat.le_refl _))
        have hb3 := hb1.trans (hb2.mono hb1.size)
        clear hb2
        go_wp2_with fail
        refine (sStopYield_any _ _ _ _ R2.out hm).mono ?_
        rw [E.out]
        rintro e w4 ⟨rfl, rfl⟩
        go_wp2_with fail
        refine (sStopYield_any _ _ _ _ R2.out hm).mono ?_
        rw [E.out]
        rintro e w5 ⟨rfl, rfl⟩
        go_wp2_with fail
        go_ret
        exact ⟨rfl, hb3⟩
      · obtain ⟨g1, g2⟩ := HSL.out (by omega)
        clear HSL
        generalize Bd.stop ps n = y at *
        go_wp2_with fail
        refine (stopYield_any _ _ _ _ R1.out hm).mono ?_
        rw [E.out]
        rintro e w2 ⟨rfl, hb2⟩
        have R2 := Lib.hid (R1.out.below hb2 (Nat.le_refl _))
        have hb3 := hb1.trans (hb2.mono hb1.size)
        clear hb2
        go_wp2_with fail
        refine (sStopYield_any _ _ _ _ R2.out hm).mono ?_
        rw [E.out]
        rintro e w4 ⟨rfl, rfl⟩
        go_wp2_with fail
        obtain ⟨m, hmm⟩ : ∃ m, m = ps.length := ⟨_, rfl⟩
        rw [← hmm] at hl8 HBD HA HTk HE R2 ⊢
        have HN := Lib.hid hmm; clear hmm
        go_loop [6, 7, 8] (fun s t x => ∃ i : Nat, i ≤ m ∧ x = .int .i64 i ∧ s = .int .i64 (Bd.below (ps.take i) y) ∧ t = .int .i64 (Bd.below (ps.take i) (y - 1))) (fun _ _ x => m - (intOf x).toNat)
        case atStart => exact ⟨0, Nat.zero_le _, rfl, by simp [Bd.below], by simp [Bd.below]⟩
        case round =>
          obtain ⟨i, hi, rfl, rfl, rfl⟩ := hrel
          by_cases hlt : i < m
          · obtain ⟨b', off, d', e, hbl, hc⟩ := R2.out.2 (by rw [← HN.out]; omega)
            rw [← HN.out] at e
            simp only [Value.slice.injEq, Option.some.injEq, Addr.mk.injEq, and_true, true_and] at e
            obtain ⟨⟨rfl, rfl⟩, rfl⟩ := e
            obtain ⟨c0, c1⟩ := hc i (by rw [← HN.out]; exact hlt)
            clear hc
            obtain ⟨⟨a0, a1⟩, a2, a3⟩ := HA.out i hlt
            obtain ⟨s0, s1⟩ := HBD.out y i hi
            obtain ⟨r0, r1⟩ := HBD.out (y - 1) i hi
            have hT1 := HTk.out i hlt y
            have hT2 := HTk.out i hlt (y - 1)
            simp only [Nat.zero_add] at c0 c1
            generalize ps.getD i pr0 = p at c0 c1 a0 a1 a2 a3 hT1 hT2
            obtain ⟨u, v⟩ := p
            simp only at c0 c1 a0 a1 a2 a3
            generalize Bd.below (ps.take i) y = S at s0 s1 hT1
            generalize Bd.below (ps.take i) (y - 1) = R at r0 r1 hT2
            by_cases hy1 : u < y
            · have hy2 : u ≤ y := by omega
              rw [show Bd.add (u, v) y = v from if_pos hy2] at hT1
              rw [show Bd.add (u, v) (y - 1) = v from if_pos (by show u ≤ y - 1; omega)] at hT2
              have HT1 := Lib.hid hT1
              have HT2 := Lib.hid hT2
              clear hT1 hT2
              go_wp2_with fail
              go_round
              case rel => exact ⟨i + 1, by omega, by go_num, by rw [HT1.out], by rw [HT2.out]⟩
              case measure => simp [intOf]; omega
            · rw [show Bd.add (u, v) (y - 1) = 0 from if_neg (by show ¬ u ≤ y - 1; omega), Int.add_zero] at hT2
              have HT2 := Lib.hid hT2
              clear hT2
              by_cases hy2 : u ≤ y
              · rw [show Bd.add (u, v) y = v from if_pos hy2] at hT1
                have HT1 := Lib.hid hT1
                clear hT1
                go_wp2_with fail
                go_round
                case rel => exact ⟨i + 1, by omega, by go_num, by rw [HT1.out], by rw [HT2.out]⟩
                case measure => simp [intOf]; omega
              · rw [show Bd.add (u, v) y = 0 from if_neg hy2, Int.add_zero] at hT1
                have HT1 := Lib.hid hT1
                clear hT1
                go_wp2_with fail
                go_round
                case rel => exact ⟨i + 1, by omega, by go_num, by rw [HT1.out], by rw [HT2.out]⟩
                case measure => simp [intOf]; omega
          · obtain rfl : i = m := by omega
            rw [HE.out i (Nat.le_refl _)]
            have g3 : n ≤ Bd.below ps y := g1
            go_wp2_with fail
            go_ret
            exact ⟨rfl, hb3⟩
set_option maxRecDepth 8000 in
set_option maxHeartbeats 8000000 in
theorem lawStopMore (a : Option Addr) (len cap : Nat) (zs : List Int) (w : World) (h : IsRow .u8 w a len cap zs) :
    Calls Try.prog 8 #[.slice a len cap] w fun e w' => e = .returned (.bool true) ∧ Below w.heap.size w w' := by
  have H := Lib.hid h; clear h
  by_cases hl : 1048576 < (len : Int)
  · go_enter Try.func8, Try.ntmps8
    go_wp2_with fail
    go_ret
    exact ⟨rfl, Below.refl _ _⟩
  · have hl' := decide_eq_false hl
    clear hl
    go_enter Try.func8, Try.ntmps8
    go_wp2_with fail
    refine (drawSY_any _ _ _ _ _ H.out).mono ?_
    rintro e w1 ⟨ps, b, c, n, rfl, hR, hlen, ⟨n0, n1⟩, hb1⟩
    have R1 := Lib.hid hR; clear hR
    have hm : ps.length ≤ 9223372036854775807 := by omega
    have q1 : (Bd.val ps n != Bd.val ps n) = false := by simp
    have q2 : (Bd.val ps n == Bd.val ps n) = true := by simp
    cases hok : Bd.auc ps n with
    | false =>
      rw [Bd.val_no hok] at q1 q2
      have E := Lib.hid (Bd.val_no hok)
      clear hok
      go_wp2_with fail
      refine (stopYield_any _ _ _ _ R1.out hm).mono ?_
      rw [E.out]
      rintro e w2 ⟨rfl, hb2⟩
      have R2 := Lib.hid (R1.out.below hb2 (Nat.le_refl _))
      have hb3 := hb1.trans (hb2.mono hb1.size)
      clear hb2
      go_wp2_with fail
      refine (sStopYield_any _ _ _ _ R2.out hm).mono ?_
      rw [E.out]
      rintro e w4 ⟨rfl, rfl⟩
      go_wp2_with fail
      refine (sStopYield_any _ _ _ _ R2.out hm).mono ?_
      rw [E.out]
      rintro e w5 ⟨rfl, rfl⟩
      go_wp2_with fail
      go_ret
      exact ⟨rfl, hb3⟩
    | true =>
      have HK := Lib.hid hok
      rw [Bd.val_yes hok] at q1 q2
      have E := Lib.hid (Bd.val_yes hok)
      obtain ⟨hok1, hn⟩ := (Bool.and_eq_true _ _).mp (show (Bd.ok ps && btw n 1 1000000000) = true from hok)
      obtain ⟨m0, m1⟩ := btw_iff.1 hn
      obtain ⟨hl8, hall⟩ := Bd.parts hok1
      have hge := Bd.best_ge ps n (fun p hp => by have := Bd.one_iff.1 (List.all_eq_true.1 hall p hp); omega) (Nat.le_refl ps.length)
      have hmore := Bd.stop_more (fun p hp => by have := Bd.one_iff.1 (List.all_eq_true.1 hall p hp); omega) n
      have HV2 := Lib.hid (fun (hn2 : n < 1000000000) => Bd.val_yes (show Bd.auc ps (n + 1) = true by unfold Bd.auc; rw [hok1, btw_t (by omega) (by omega)]; rfl))
      rw [show Bd.best ps n ps.length = Bd.stop ps n from rfl] at hge
      clear hok hok1 hn hall
      by_cases hy : Bd.stop ps n < 0
      · generalize Bd.stop ps n = y at *
        go_wp2_with fail
        refine (stopYield_any _ _ _ _ R1.out hm).mono ?_
        rw [E.out]
        rintro e w2 ⟨rfl, hb2⟩
        have R2 := Lib.hid (R1.out.below hb2 (Nat.le_refl _))
        have hb3 := hb1.trans (hb2.mono hb1.size)
        clear hb2
        go_wp2_with fail
        refine (sStopYield_any _ _ _ _ R2.out hm).mono ?_
        rw [E.out]
        rintro e w4 ⟨rfl, rfl⟩
        go_wp2_with fail
        refine (sStopYield_any _ _ _ _ R2.out hm).mono ?_
        rw [E.out]
        rintro e w5 ⟨rfl, rfl⟩
        go_wp2_with fail
        go_ret
        exact ⟨rfl, hb3⟩
      · by_cases hM : n = 1000000000
        · subst hM
          have hM2 : ((1000000000 : Int) == 1000000000) = true := rfl
          clear hmore HV2
          generalize Bd.stop ps 1000000000 = y at *
          go_wp2_with fail
          refine (stopYield_any _ _ _ _ R1.out hm).mono ?_
          rw [E.out]
          rintro e w2 ⟨rfl, hb2⟩
          have R2 := Lib.hid (R1.out.below hb2 (Nat.le_refl _))
          have hb3 := hb1.trans (hb2.mono hb1.size)
          clear hb2
          go_wp2_with fail
          refine (sStopYield_any _ _ _ _ R2.out hm).mono ?_
          rw [E.out]
          rintro e w4 ⟨rfl, rfl⟩
          go_wp2_with fail
          refine (sStopYield_any _ _ _ _ R2.out hm).mono ?_
          rw [E.out]
          rintro e w5 ⟨rfl, rfl⟩
          go_wp2_with fail
          go_ret
          exact ⟨rfl, hb3⟩
        · have hM2 : (n == 1000000000) = false := by rw [beq_eq_false_iff_ne]; exact hM
          have EV := Lib.hid (HV2.out (by omega))
          clear HV2
          generalize Bd.stop ps n = y at *
          generalize Bd.stop ps (n + 1) = z at *
          have W1 : IntKind.i64.wrap (n + 1) = n + 1 := IntWalk.i64_in _ (by omega)
          go_wp2_with fail
          refine (stopYield_any _ _ _ _ R1.out hm).mono ?_
          rw [E.out]
          rintro e w2 ⟨rfl, hb2⟩
          have R2 := Lib.hid (R1.out.below hb2 (Nat.le_refl _))
          have hb3 := hb1.trans (hb2.mono hb1.size)
          clear hb2
          go_wp2_with fail
          refine (sStopYield_any _ _ _ _ R2.out hm).mono ?_
          rw [E.out]
          rintro e w4 ⟨rfl, rfl⟩
          go_wp2_with fail
          refine (stopYield_any _ _ _ _ R2.out hm).mono ?_
          rw [EV.out]
          rintro e w5 ⟨rfl, hb5⟩
          by_cases hz : z < 0
          · go_wp2_with fail
            go_ret
            exact ⟨rfl, hb3.trans (hb5.mono hb3.size)⟩
          · have hz2 : y ≤ z := by omega
            go_wp2_with fail
            go_ret
            exact ⟨rfl, hb3.trans (hb5.mono hb3.size)⟩
end Go.Proofs.Ytpkfiijjjgicoaa
