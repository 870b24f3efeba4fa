/- Shares and draws: the model and the program, whole. -/
import Derived.Test.YtgiejiiiokdbpaaPrC
namespace Go.Proofs.Ytgiejiiiokdbpaa
open Go.RowKit
theorem HandsN.i {xs : List Int} {w : World} {e : Ending} {w' : World} (h : HandsN xs w e w') : HandsI xs w e w' := by
  obtain ⟨v, e1, h1, h2⟩ := h
  exact ⟨v, e1, h1.irow, h2⟩
theorem small_hold {xs : List Int} (h : xs.all holdB = true) : Small xs := fun i hi => by have := Ho.at h hi; omega
set_option maxHeartbeats 2000000 in
theorem sproRate_any (w : World) (A : Int) (v : Value) (xs : List Int) (hv : R1o w v xs) (hm : xs.length ≤ 9223372036854775807) :
    Calls Try.prog 20 #[.int .i64 A, v] w (HandsI (Pr.val A xs) w) := by
  have VH := Lib.hid (sholders_any w v xs hv hm)
  have HV := Lib.hid hv
  obtain ⟨⟨a, cap, rfl⟩, -⟩ := hv
  have hO : Pr.okB A xs = (btw A 0 1000000000 && (Ho.ok xs && (xs.sum != 0))) := rfl
  cases h0 : btw A 0 1000000000 with
  | false =>
    have E := Lib.hid (Pr.val_no (hO.trans (by rw [h0]; rfl)))
    clear hO
    go_enter Try.func20, Try.ntmps20
    go_wp2_with fail
    refine (inRange_any _ _ _ _).mono ?_
    rintro e w1 ⟨rfl, rfl⟩
    rw [h0]
    go_wp2_with fail
    go_ret
    exact ⟨_, rfl, by rw [E.out]; exact IRow.nil _ _, Below.refl _ _⟩
  | true =>
    cases h1 : Ho.ok xs with
    | false =>
      have E := Lib.hid (Pr.val_no (hO.trans (by rw [h0, h1]; rfl)))
      have H1 := Lib.hid h1
      clear hO h1
      go_enter Try.func20, Try.ntmps20
      go_wp2_with fail
      refine (inRange_any _ _ _ _).mono ?_
      rintro e w1 ⟨rfl, rfl⟩
      rw [h0]
      go_wp2_with fail
      refine VH.out.mono ?_
      rw [H1.out]
      rintro e w1 ⟨rfl, rfl⟩
      go_wp2_with fail
      go_ret
      exact ⟨_, rfl, by rw [E.out]; exact IRow.nil _ _, Below.refl _ _⟩
    | true =>
      obtain ⟨l0, l1, hall⟩ := Ho.parts h1
      have ST := Lib.hid (stotal_any w _ xs HV.out (by omega) (small_hold hall))
      have ht := (Ho.sum_bd hall l1).1
      have HA := Lib.hid hall
      by_cases hz : xs.sum = 0
      · have E := Lib.hid (Pr.val_no (hO.trans (by rw [h0, h1, hz]; rfl)))
        have H1 := Lib.hid h1
        clear hO h1 hall
        rw [hz] at ST
        go_enter Try.func20, Try.ntmps20
        go_wp2_with fail
        refine (inRange_any _ _ _ _).mono ?_
        rintro e w1 ⟨rfl, rfl⟩
        rw [h0]
        go_wp2_with fail
        refine VH.out.mono ?_
        rw [H1.out]
        rintro e w1 ⟨rfl, rfl⟩
        go_wp2_with fail
        refine ST.out.mono ?_
        rintro e w1 ⟨rfl, rfl⟩
        go_wp2_with fail
        go_ret
        exact ⟨_, rfl, by rw [E.out]; exact IRow.nil _ _, Below.refl _ _⟩
      · have E := Lib.hid (Pr.val_yes (hO.trans (by rw [h0, h1]; simpa using hz)))
        obtain ⟨a0, a1⟩ := btw_iff.1 h0
        have SP := Lib.hid (sprorate_any w A _ xs HV.out a0 a1 hall l1 (by omega))
        have H1 := Lib.hid h1
        have hbeq : (xs.sum == 0) = false := by simpa using hz
        clear hO h1 hall
        go_enter Try.func20, Try.ntmps20
        go_wp2_with fail
        refine (inRange_any _ _ _ _).mono ?_
        rintro e w1 ⟨rfl, rfl⟩
        rw [h0]
        go_wp2_with fail
        refine VH.out.mono ?_
        rw [H1.out]
        rintro e w1 ⟨rfl, rfl⟩
        go_wp2_with fail
        refine ST.out.mono ?_
        rintro e w1 ⟨rfl, rfl⟩
        go_wp2_with fail
        refine SP.out.mono ?_
        rintro e w1 ⟨v1, rfl, hF, hb1⟩
        have HF := Lib.hid hF; clear hF
        go_wp2_with fail
        go_ret
        exact ⟨_, rfl, by rw [E.out]; exact HF.out.irow, hb1⟩
/-- What holders lose by a draw. -/
def Dl.okB (n : Int) (xs : List Int) : Bool := Ho.ok xs && ((xs.sum != 0) && btw n 0 xs.sum)
def Dl.val (n : Int) (xs : List Int) : List Int := if Dl.okB n xs = true then Pr.out n xs else []
theorem Dl.val_yes {n : Int} {xs : List Int} (h : Dl.okB n xs = true) : Dl.val n xs = Pr.out n xs := if_pos h
theorem Dl.val_no {n : Int} {xs : List Int} (h : Dl.okB n xs = false) : Dl.val n xs = [] := if_neg (by rw [h]; simp)
theorem Dl.val_pr {n : Int} {xs : List Int} (h : Ho.ok xs = true) (hn : n ≤ xs.sum) : Dl.val n xs = Pr.val n xs := by
  obtain ⟨l0, l1, hall⟩ := Ho.parts h
  have ht := Ho.sum_bd hall l1
  unfold Dl.val Pr.val
  have : Dl.okB n xs = Pr.okB n xs := by
    unfold Dl.okB Pr.okB
    rw [h, Bool.true_and, Bool.true_and]
    have e : btw n 0 xs.sum = btw n 0 1000000000 := by
      rcases Int.lt_or_le n 0 with c | c
      · rw [btw_f (.inl c), btw_f (.inl c)]
      · rw [btw_t c hn, btw_t c (by omega)]
    rw [e, Bool.and_comm]
  rw [this]
theorem Dl.val_no2 {n : Int} {xs : List Int} (hn : xs.sum < n) : Dl.val n xs = [] := Dl.val_no (by unfold Dl.okB; rw [btw_f (.inr hn)]; simp)
set_option maxHeartbeats 2000000 in
theorem drawLots_any (w : World) (n : Int) (v : Value) (xs : List Int) (hv : R1o w v xs) (hm : xs.length ≤ 9223372036854775807) :
    Calls Try.prog 23 #[.int .i64 n, v] w (HandsI (Dl.val n xs) w) := by
  have VH := Lib.hid (hold_any w v xs hv hm)
  have HV := Lib.hid hv
  obtain ⟨⟨a, cap, rfl⟩, -⟩ := hv
  cases h1 : Ho.ok xs with
  | false =>
    have E := Lib.hid (Dl.val_no (n := n) (xs := xs) (by unfold Dl.okB; rw [h1]; rfl))
    have H1 := Lib.hid h1
    clear h1
    go_enter Try.func23, Try.ntmps23
    go_wp2_with fail
    refine VH.out.mono ?_
    rw [H1.out]
    rintro e w1 ⟨rfl, hb1⟩
    go_wp2_with fail
    go_ret
    exact ⟨_, rfl, by rw [E.out]; exact IRow.nil _ _, hb1⟩
  | true =>
    obtain ⟨l0, l1, hall⟩ := Ho.parts h1
    have SI := Lib.hid (fun W (hb : Below w.heap.size w W) => sumInts_any W _ xs (HV.out.below hb (Nat.le_refl _)) (by omega) (small_hold hall))
    have H1 := Lib.hid h1
    by_cases hn : xs.sum < n
    · have E := Lib.hid (Dl.val_no2 hn)
      clear h1 hall
      generalize xs.sum = T at SI hn
      go_enter Try.func23, Try.ntmps23
      go_wp2_with fail
      refine VH.out.mono ?_
      rw [H1.out]
      rintro e w1 ⟨rfl, hb1⟩
      have HB1 := Lib.hid hb1; clear hb1
      go_wp2_with fail
      refine (SI.out _ HB1.out).mono ?_
      rintro e w2 ⟨rfl, rfl⟩
      go_wp2_with fail
      go_ret
      exact ⟨_, rfl, by rw [E.out]; exact IRow.nil _ _, HB1.out⟩
    · have E := Lib.hid (Dl.val_pr h1 (show n ≤ xs.sum by omega))
      have PR := Lib.hid (fun W (hb : Below w.heap.size w W) => proRate_any W n _ xs (HV.out.below hb (Nat.le_refl _)) hm)
      clear h1 hall
      generalize xs.sum = T at SI hn
      go_enter Try.func23, Try.ntmps23
      go_wp2_with fail
      refine VH.out.mono ?_
      rw [H1.out]
      rintro e w1 ⟨rfl, hb1⟩
      have HB1 := Lib.hid hb1; clear hb1
      go_wp2_with fail
      refine (SI.out _ HB1.out).mono ?_
      rintro e w2 ⟨rfl, rfl⟩
      go_wp2_with fail
      refine (PR.out _ HB1.out).mono ?_
      rintro e w3 ⟨v3, rfl, hF, hb3⟩
      have HF := Lib.hid hF; clear hF
      go_wp2_with fail
      go_ret
      exact ⟨_, rfl, by rw [E.out]; exact HF.out.lower HB1.out.size, HB1.out.trans (hb3.mono HB1.out.size)⟩
set_option maxHeartbeats 2000000 in
theorem sdrawLots_any (w : World) (n : Int) (v : Value) (xs : List Int) (hv : R1o w v xs) (hm : xs.length ≤ 9223372036854775807) :
    Calls Try.prog 24 #[.int .i64 n, v] w (HandsI (Dl.val n xs) w) := by
  have VH := Lib.hid (sholders_any w v xs hv hm)
  have HV := Lib.hid hv
  obtain ⟨⟨a, cap, rfl⟩, -⟩ := hv
  have hO : Dl.okB n xs = (Ho.ok xs && ((xs.sum != 0) && btw n 0 xs.sum)) := rfl
  cases h1 : Ho.ok xs with
  | false =>
    have E := Lib.hid (Dl.val_no (hO.trans (by rw [h1]; rfl)))
    have H1 := Lib.hid h1
    clear hO h1
    go_enter Try.func24, Try.ntmps24
    go_wp2_with fail
    refine VH.out.mono ?_
    rw [H1.out]
    rintro e w1 ⟨rfl, rfl⟩
    go_wp2_with fail
    go_ret
    exact ⟨_, rfl, by rw [E.out]; exact IRow.nil _ _, Below.refl _ _⟩
  | true =>
    obtain ⟨l0, l1, hall⟩ := Ho.parts h1
    have ST := Lib.hid (stotal_any w _ xs HV.out (by omega) (small_hold hall))
    obtain ⟨ht, ht2⟩ := Ho.sum_bd hall l1
    have H1 := Lib.hid h1
    by_cases hz : xs.sum = 0
    · have E := Lib.hid (Dl.val_no (hO.trans (by rw [h1, hz]; rfl)))
      clear hO h1 hall
      rw [hz] at ST
      go_enter Try.func24, Try.ntmps24
      go_wp2_with fail
      refine VH.out.mono ?_
      rw [H1.out]
      rintro e w1 ⟨rfl, rfl⟩
      go_wp2_with fail
      refine ST.out.mono ?_
      rintro e w1 ⟨rfl, rfl⟩
      go_wp2_with fail
      go_ret
      exact ⟨_, rfl, by rw [E.out]; exact IRow.nil _ _, Below.refl _ _⟩
    · have hbeq : (xs.sum == 0) = false := by simpa using hz
      cases h2 : btw n 0 xs.sum with
      | false =>
        have E := Lib.hid (Dl.val_no (hO.trans (by rw [h1, h2]; simp)))
        have H2 := Lib.hid h2
        clear hO h1 hall h2
        generalize xs.sum = T at *
        go_enter Try.func24, Try.ntmps24
        go_wp2_with fail
        refine VH.out.mono ?_
        rw [H1.out]
        rintro e w1 ⟨rfl, rfl⟩
        go_wp2_with fail
        refine ST.out.mono ?_
        rintro e w1 ⟨rfl, rfl⟩
        go_wp2_with fail
        refine ST.out.mono ?_
        rintro e w1 ⟨rfl, rfl⟩
        go_wp2_with fail
        refine (inRange_any _ _ _ _).mono ?_
        rintro e w1 ⟨rfl, rfl⟩
        rw [H2.out]
        go_wp2_with fail
        go_ret
        exact ⟨_, rfl, by rw [E.out]; exact IRow.nil _ _, Below.refl _ _⟩
      | true =>
        have E := Lib.hid (Dl.val_yes (hO.trans (by rw [h1, h2]; simpa using hz)))
        obtain ⟨n0, n1⟩ := btw_iff.1 h2
        have SP := Lib.hid (sprorate_any w n _ xs HV.out n0 (by omega) hall l1 (by omega))
        have H2 := Lib.hid h2
        clear hO h1 hall h2
        generalize xs.sum = T at *
        go_enter Try.func24, Try.ntmps24
        go_wp2_with fail
        refine VH.out.mono ?_
        rw [H1.out]
        rintro e w1 ⟨rfl, rfl⟩
        go_wp2_with fail
        refine ST.out.mono ?_
        rintro e w1 ⟨rfl, rfl⟩
        go_wp2_with fail
        refine ST.out.mono ?_
        rintro e w1 ⟨rfl, rfl⟩
        go_wp2_with fail
        refine (inRange_any _ _ _ _).mono ?_
        rintro e w1 ⟨rfl, rfl⟩
        rw [H2.out]
        go_wp2_with fail
        refine SP.out.mono ?_
        rintro e w1 ⟨v1, rfl, hF, hb1⟩
        have HF := Lib.hid hF; clear hF
        go_wp2_with fail
        go_ret
        exact ⟨_, rfl, by rw [E.out]; exact HF.out.irow, hb1⟩
end Go.Proofs.Ytgiejiiiokdbpaa
