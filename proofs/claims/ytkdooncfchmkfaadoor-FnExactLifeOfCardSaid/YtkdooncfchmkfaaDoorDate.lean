/- The walks of the calendar's functions. -/
import Derived.Test.YtkdooncfchmkfaaDoorCal
import Derived.Test.YtkdooncfchmkfaaDoorProg
import Derived.WalkKit
import Derived.WalkSpells
import Derived.WalkLawsBesides
import Derived.Lib.Hide
import Derived.Below
namespace Go.Proofs.YtkdooncfchmkfaaDoor
open Go.RowKit

def leapB (y : Int) : Bool := decide (y % 4 = 0 ∧ (y % 100 ≠ 0 ∨ y % 400 = 0))
theorem lp_of_true {y : Int} (h : leapB y = true) : Cal.lp y = 1 := by
  unfold leapB at h; unfold Cal.lp; rw [if_pos (by simpa using h)]
theorem lp_of_false {y : Int} (h : leapB y = false) : Cal.lp y = 0 := by
  unfold leapB at h; unfold Cal.lp; rw [if_neg (by simpa using h)]
theorem leap_y {y : Int} (a : y % 4 = 0) (b : y % 100 ≠ 0 ∨ y % 400 = 0) : leapB y = true := by simp [leapB, a, b]

set_option maxHeartbeats 400000 in
theorem isLeap_any (y : Int) (w : World) (h0 : 0 ≤ y) (h1 : y ≤ 3000) :
    Calls Tryd.prog 111 #[.int .i64 y] w fun e w' => e = .returned (.bool (leapB y)) ∧ w = w' := by
  by_cases a : y % 4 = 0
  · by_cases b : y % 100 = 0
    · by_cases c : y % 400 = 0
      · have e : leapB y = true := by simp [leapB, a, c]
        have E := Lib.hid e; clear e
        have a1 : (y % 4 == 0) = true := by simp [a]
        have b1 : (y % 100 != 0) = false := by simp [b]
        have c1 : (y % 400 == 0) = true := by simp [c]
        clear a b c
        go_enter Tryd.func111, Tryd.ntmps111
        go_wp2
        go_ret
        exact ⟨by rw [E.out]; rfl, rfl⟩
      · have e : leapB y = false := by simp [leapB, b, c]
        have E := Lib.hid e; clear e
        have a1 : (y % 4 == 0) = true := by simp [a]
        have b1 : (y % 100 != 0) = false := by simp [b]
        have c1 : (y % 400 == 0) = false := by simp [c]
        clear a b c
        go_enter Tryd.func111, Tryd.ntmps111
        go_wp2
        go_ret
        exact ⟨by rw [E.out]; rfl, rfl⟩
    · have e : leapB y = true := by simp [leapB, a, b]
      have E := Lib.hid e; clear e
      have a1 : (y % 4 == 0) = true := by simp [a]
      have b1 : (y % 100 != 0) = true := by simp [b]
      clear a b
      go_enter Tryd.func111, Tryd.ntmps111
      go_wp2
      go_ret
      exact ⟨by rw [E.out]; rfl, rfl⟩
  · have e : leapB y = false := by simp [leapB, a]
    have E := Lib.hid e; clear e
    have a1 : (y % 4 == 0) = false := by simp [a]
    clear a
    go_enter Tryd.func111, Tryd.ntmps111
    go_wp2
    go_ret
    exact ⟨by rw [E.out]; rfl, rfl⟩
set_option maxHeartbeats 400000 in
theorem leap_any (y : Int) (w : World) (h0 : 0 ≤ y) (h1 : y ≤ 3000) :
    Calls Tryd.prog 93 #[.int .i64 y] w fun e w' => e = .returned (.bool (leapB y)) ∧ w = w' := by
  by_cases a : y % 4 = 0
  · by_cases b : y % 100 = 0
    · by_cases c : y % 400 = 0
      · have e : leapB y = true := by simp [leapB, a, c]
        have E := Lib.hid e; clear e
        have a1 : (y % 4 == 0) = true := by simp [a]
        have b1 : (y % 100 != 0) = false := by simp [b]
        have c1 : (y % 400 == 0) = true := by simp [c]
        clear a b c
        go_enter Tryd.func93, Tryd.ntmps93
        go_wp2
        go_ret
        exact ⟨by rw [E.out]; rfl, rfl⟩
      · have e : leapB y = false := by simp [leapB, b, c]
        have E := Lib.hid e; clear e
        have a1 : (y % 4 == 0) = true := by simp [a]
        have b1 : (y % 100 != 0) = false := by simp [b]
        have c1 : (y % 400 == 0) = false := by simp [c]
        clear a b c
        go_enter Tryd.func93, Tryd.ntmps93
        go_wp2
        go_ret
        exact ⟨by rw [E.out]; rfl, rfl⟩
    · have e : leapB y = true := by simp [leapB, a, b]
      have E := Lib.hid e; clear e
      have a1 : (y % 4 == 0) = true := by simp [a]
      have b1 : (y % 100 != 0) = true := by simp [b]
      clear a b
      go_enter Tryd.func93, Tryd.ntmps93
      go_wp2
      go_ret
      exact ⟨by rw [E.out]; rfl, rfl⟩
  · have e : leapB y = false := by simp [leapB, a]
    have E := Lib.hid e; clear e
    have a1 : (y % 4 == 0) = false := by simp [a]
    clear a
    go_enter Tryd.func93, Tryd.ntmps93
    go_wp2
    go_ret
    exact ⟨by rw [E.out]; rfl, rfl⟩

theorem ret_int {k : IntKind} {a b : Int} (h : a = b) : Ending.returned (.int k a) = .returned (.int k b) := by rw [h]
theorem ret_bool {a b : Bool} (h : a = b) : Ending.returned (.bool a) = .returned (.bool b) := by rw [h]

/-- Between two numbers. -/
def btw (n l h : Int) : Bool := decide (l ≤ n ∧ n ≤ h)
theorem btw_t {n l h : Int} (a : l ≤ n) (b : n ≤ h) : btw n l h = true := by unfold btw; exact decide_eq_true ⟨a, b⟩
theorem btw_f {n l h : Int} (a : n < l ∨ h < n) : btw n l h = false := by unfold btw; exact decide_eq_false (by omega)
theorem btw_iff {n l h : Int} : btw n l h = true ↔ l ≤ n ∧ n ≤ h := by unfold btw; simp
theorem btw_iff_f {n l h : Int} : btw n l h = false ↔ n < l ∨ h < n := by unfold btw; rw [decide_eq_false_iff_not]; omega
set_option maxHeartbeats 400000 in
theorem between_any (n l h : Int) (w : World) :
    Calls Tryd.prog 32 #[.int .i64 n, .int .i64 l, .int .i64 h] w fun e w' => e = .returned (.bool (btw n l h)) ∧ w = w' := by
  by_cases a : l ≤ n
  · by_cases b : n ≤ h
    · have E := Lib.hid (btw_t a b)
      have a1 := decide_eq_true a
      have b1 := decide_eq_true b
      clear a b
      go_enter Tryd.func32, Tryd.ntmps32
      go_wp2
      go_ret
      exact ⟨ret_bool E.out.symm, rfl⟩
    · have E := Lib.hid (btw_f (n := n) (l := l) (h := h) (.inr (by omega)))
      have a1 := decide_eq_true a
      have b1 := decide_eq_false b
      clear a b
      go_enter Tryd.func32, Tryd.ntmps32
      go_wp2
      go_ret
      exact ⟨ret_bool E.out.symm, rfl⟩
  · have E := Lib.hid (btw_f (n := n) (l := l) (h := h) (.inl (by omega)))
    have a1 := decide_eq_false a
    clear a
    go_enter Tryd.func32, Tryd.ntmps32
    go_wp2
    go_ret
    exact ⟨ret_bool E.out.symm, rfl⟩
set_option maxHeartbeats 400000 in
theorem inRange_any (n l h : Int) (w : World) :
    Calls Tryd.prog 31 #[.int .i64 n, .int .i64 l, .int .i64 h] w fun e w' => e = .returned (.bool (btw n l h)) ∧ w = w' := by
  by_cases a : l ≤ n
  · by_cases b : n ≤ h
    · have E := Lib.hid (btw_t a b)
      have a1 := decide_eq_true a
      have b1 := decide_eq_true b
      clear a b
      go_enter Tryd.func31, Tryd.ntmps31
      go_wp2
      go_ret
      exact ⟨ret_bool E.out.symm, rfl⟩
    · have E := Lib.hid (btw_f (n := n) (l := l) (h := h) (.inr (by omega)))
      have a1 := decide_eq_true a
      have b1 := decide_eq_false b
      clear a b
      go_enter Tryd.func31, Tryd.ntmps31
      go_wp2
      go_ret
      exact ⟨ret_bool E.out.symm, rfl⟩
  · have E := Lib.hid (btw_f (n := n) (l := l) (h := h) (.inl (by omega)))
    have a1 := decide_eq_false a
    clear a
    go_enter Tryd.func31, Tryd.ntmps31
    go_wp2
    go_ret
    exact ⟨ret_bool E.out.symm, rfl⟩

/-- The table of the months' starts. -/
def Tab (w : World) : Prop := ∀ i : Nat, i < 13 → w.cell? ⟨1, i, none⟩ = some (.int .i64 (Cal.cum (i + 1)))
theorem Tab.pos {w : World} (h : Tab w) : 1 < w.heap.size := World.block_lt_of_cell? w _ (h 0 (by omega))
theorem Tab.below {w w' : World} {B : Nat} (h : Tab w) (hb : Below B w w') (hB : 1 < B) : Tab w' := fun i hi => (hb.cell (p := ⟨1, i, none⟩) hB).trans (h i hi)
theorem Tab.alloc {w : World} (h : Tab w) (o : Obj) : Tab (w.alloc o) := h.below ((Below.refl _ _).alloc (Nat.le_refl _) o) h.pos
theorem Tab.at_ {w : World} (h : Tab w) {m : Int} (h1 : 1 ≤ m) (h2 : m ≤ 13) : w.cell? ⟨1, m.toNat - 1, none⟩ = some (.int .i64 (Cal.cum m)) := by
  have := h (m.toNat - 1) (by omega)
  rw [this, show ((m.toNat - 1 : Nat) : Int) + 1 = m by omega]

set_option maxHeartbeats 400000 in
theorem leapsBefore_any (y : Int) (w : World) (h0 : 1 ≤ y) (h1 : y ≤ 3000) :
    Calls Tryd.prog 110 #[.int .i64 y] w fun e w' => e = .returned (.int .i64 (Cal.lb y)) ∧ w = w' := by
  go_enter Tryd.func110, Tryd.ntmps110
  go_wp2
  go_ret
  exact ⟨rfl, rfl⟩

set_option maxHeartbeats 400000 in
theorem yearStart_any (y : Int) (w : World) (h0 : 1 ≤ y) (h1 : y ≤ 3000) :
    Calls Tryd.prog 107 #[.int .i64 y] w fun e w' => e = .returned (.int .i64 (Cal.ys y)) ∧ w = w' := by
  have hl : 0 ≤ Cal.lb y ∧ Cal.lb y ≤ 3000 := by unfold Cal.lb; omega
  obtain ⟨l0, l1⟩ := hl
  have hc : 0 ≤ Cal.lb 1990 ∧ Cal.lb 1990 ≤ 3000 := by decide
  obtain ⟨c0, c1⟩ := hc
  go_enter Tryd.func107, Tryd.ntmps107
  go_wp2_with (go_at_call 110; refine (leapsBefore_any _ _ (by omega) (by omega)).mono ?_; rintro e w' ⟨rfl, rfl⟩)
  go_ret
  exact ⟨ret_int (by unfold Cal.ys; show _ = _ - Cal.lb 1990; rfl), rfl⟩

set_option maxHeartbeats 400000 in
theorem daysBeforeMonth_any (y m : Int) (w : World) (hT : Tab w) (h0 : 1 ≤ y) (h1 : y ≤ 3000) (m1 : 1 ≤ m) (m2 : m ≤ 13) :
    Calls Tryd.prog 108 #[.int .i64 y, .int .i64 m] w fun e w' => e = .returned (.int .i64 (Cal.ms y m)) ∧ w = w' := by
  have hc := hT.at_ m1 m2
  have hb : 0 ≤ Cal.cum m ∧ Cal.cum m ≤ 365 := by
    unfold Cal.cum; repeat' split
    all_goals omega
  obtain ⟨b0, b1⟩ := hb
  clear hT
  by_cases hm : 2 < m
  · cases hl : leapB y with
    | true =>
      have e : Cal.cum m + 1 = Cal.ms y m := by unfold Cal.ms; rw [if_pos hm, lp_of_true hl]
      have E := Lib.hid e; clear e
      have H := Lib.hid hl; clear hl
      go_enter Tryd.func108, Tryd.ntmps108
      go_wp2_with (go_at_call 111; refine (isLeap_any _ _ (by omega) (by omega)).mono ?_; rintro e w' ⟨rfl, rfl⟩; rw [H.out])
      go_ret
      exact ⟨ret_int E.out, rfl⟩
    | false =>
      have e : Cal.cum m = Cal.ms y m := by unfold Cal.ms; rw [if_pos hm, lp_of_false hl]; omega
      have E := Lib.hid e; clear e
      have H := Lib.hid hl; clear hl
      go_enter Tryd.func108, Tryd.ntmps108
      go_wp2_with (go_at_call 111; refine (isLeap_any _ _ (by omega) (by omega)).mono ?_; rintro e w' ⟨rfl, rfl⟩; rw [H.out])
      go_ret
      exact ⟨ret_int E.out, rfl⟩
  · have e : Cal.cum m = Cal.ms y m := by unfold Cal.ms; rw [if_neg hm]; omega
    have E := Lib.hid e; clear e
    go_enter Tryd.func108, Tryd.ntmps108
    go_wp2
    go_ret
    exact ⟨ret_int E.out, rfl⟩

/-- A valid date. -/
def vldB (y m d : Int) : Bool := btw y 1990 2089 && btw m 1 12 && btw d 1 (Cal.dm y m)
theorem vldB_iff {y m d : Int} : vldB y m d = true ↔ Cal.vld y m d := by
  unfold vldB Cal.vld
  simp [btw_iff, and_assoc]

set_option maxHeartbeats 400000 in
theorem implDaysIn_yes (y m : Int) (w : World) (hT : Tab w) (h0 : 1990 ≤ y) (h1 : y ≤ 2089) (m1 : 1 ≤ m) (m2 : m ≤ 12) :
    Calls Tryd.prog 106 #[.int .i64 y, .int .i64 m] w fun e w' => e = .returned (.int .i64 (Cal.dm y m)) ∧ w = w' := by
  have e : Cal.ms y (m + 1) - Cal.ms y m = Cal.dm y m := Cal.dim_eq y m1 m2
  have E := Lib.hid e; clear e
  have HT := Lib.hid hT; clear hT
  have b1 := (Cal.ms_bd y m1 (by omega)).1
  have b2 := (Cal.ms_bd y m1 (by omega)).2
  have b3 := (Cal.ms_bd y (m := m + 1) (by omega) (by omega)).1
  have b4 := (Cal.ms_bd y (m := m + 1) (by omega) (by omega)).2
  have t1 := btw_t h0 h1
  have t2 := btw_t m1 m2
  go_enter Tryd.func106, Tryd.ntmps106
  go_wp2_with (first | (go_at_call 32; refine (between_any _ _ _ _).mono ?_; rintro e w' ⟨rfl, rfl⟩) | (go_at_call 108; refine (daysBeforeMonth_any _ _ _ HT.out (by omega) (by omega) (by omega) (by omega)).mono ?_; rintro e w' ⟨rfl, rfl⟩))
  go_ret
  exact ⟨ret_int E.out, rfl⟩
set_option maxHeartbeats 400000 in
theorem implDaysIn_no (y m : Int) (w : World) (h : btw y 1990 2089 = false ∨ btw m 1 12 = false) :
    Calls Tryd.prog 106 #[.int .i64 y, .int .i64 m] w fun e w' => e = .returned (.int .i64 (-1)) ∧ w = w' := by
  cases hy : btw y 1990 2089 with
  | false =>
    clear h
    go_enter Tryd.func106, Tryd.ntmps106
    go_wp2_with (go_at_call 32; refine (between_any _ _ _ _).mono ?_; rintro e w' ⟨rfl, rfl⟩)
    go_ret
    exact ⟨rfl, rfl⟩
  | true =>
    have hm : btw m 1 12 = false := by simpa [hy] using h
    clear h
    go_enter Tryd.func106, Tryd.ntmps106
    go_wp2_with (go_at_call 32; refine (between_any _ _ _ _).mono ?_; rintro e w' ⟨rfl, rfl⟩)
    go_ret
    exact ⟨rfl, rfl⟩
end Go.Proofs.YtkdooncfchmkfaaDoor
