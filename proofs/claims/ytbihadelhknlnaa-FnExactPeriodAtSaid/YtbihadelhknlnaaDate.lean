/- The walks of the calendar's functions. -/
import Derived.Test.YtbihadelhknlnaaCal
import Derived.Test.YtbihadelhknlnaaProg
import Derived.WalkKit
import Derived.WalkSpells
import Derived.WalkLawsBesides
import Derived.Lib.Hide
import Derived.Below
namespace Go.Proofs.Ytbihadelhknlnaa
open Go.RowKit

def leapB (y : Int) : Bool := decide (y % 4 = 0 ∧ (y % 100 ≠ 0 ∨ y % 400 = 0))
theorem lp_of_true {y : Int} (h : leapB y = true) : Cal.lp y = 1 := by
  unfold leapB at h; unfold Cal.lp; rw [if_pos (by simpa using h)]
theorem lp_of_false {y : Int} (h : leapB y = false) : Cal.lp y = 0 := by
  unfold leapB at h; unfold Cal.lp; rw [if_neg (by simpa using h)]
theorem leap_y {y : Int} (a : y % 4 = 0) (b : y % 100 ≠ 0 ∨ y % 400 = 0) : leapB y = true := by simp [leapB, a, b]

set_option maxHeartbeats 400000 in
theorem leap_any (y : Int) (w : World) (h0 : 0 ≤ y) (h1 : y ≤ 3000) :
    Calls Try.prog 32 #[.int .i64 y] w fun e w' => e = .returned (.bool (leapB y)) ∧ w = w' := by
  by_cases a : y % 4 = 0
  · by_cases b : y % 100 = 0
    · by_cases c : y % 400 = 0
      · have e : leapB y = true := by simp [leapB, a, c]
        have E := Lib.hid e; clear e
        have a1 : (y % 4 == 0) = true := by simp [a]
        have b1 : (y % 100 != 0) = false := by simp [b]
        have c1 : (y % 400 == 0) = true := by simp [c]
        clear a b c
        go_enter Try.func32, Try.ntmps32
        go_wp2
        go_ret
        exact ⟨by rw [E.out]; rfl, rfl⟩
      · have e : leapB y = false := by simp [leapB, b, c]
        have E := Lib.hid e; clear e
        have a1 : (y % 4 == 0) = true := by simp [a]
        have b1 : (y % 100 != 0) = false := by simp [b]
        have c1 : (y % 400 == 0) = false := by simp [c]
        clear a b c
        go_enter Try.func32, Try.ntmps32
        go_wp2
        go_ret
        exact ⟨by rw [E.out]; rfl, rfl⟩
    · have e : leapB y = true := by simp [leapB, a, b]
      have E := Lib.hid e; clear e
      have a1 : (y % 4 == 0) = true := by simp [a]
      have b1 : (y % 100 != 0) = true := by simp [b]
      clear a b
      go_enter Try.func32, Try.ntmps32
      go_wp2
      go_ret
      exact ⟨by rw [E.out]; rfl, rfl⟩
  · have e : leapB y = false := by simp [leapB, a]
    have E := Lib.hid e; clear e
    have a1 : (y % 4 == 0) = false := by simp [a]
    clear a
    go_enter Try.func32, Try.ntmps32
    go_wp2
    go_ret
    exact ⟨by rw [E.out]; rfl, rfl⟩

theorem ret_int {k : IntKind} {a b : Int} (h : a = b) : Ending.returned (.int k a) = .returned (.int k b) := by rw [h]
theorem ret_bool {a b : Bool} (h : a = b) : Ending.returned (.bool a) = .returned (.bool b) := by rw [h]

/-- Between two numbers. -/
def btw (n l h : Int) : Bool := decide (l ≤ n ∧ n ≤ h)
theorem btw_t {n l h : Int} (a : l ≤ n) (b : n ≤ h) : btw n l h = true := by unfold btw; exact decide_eq_true ⟨a, b⟩
theorem btw_f {n l h : Int} (a : n < l ∨ h < n) : btw n l h = false := by unfold btw; exact decide_eq_false (by omega)
theorem btw_iff {n l h : Int} : btw n l h = true ↔ l ≤ n ∧ n ≤ h := by unfold btw; simp
theorem btw_iff_f {n l h : Int} : btw n l h = false ↔ n < l ∨ h < n := by unfold btw; rw [decide_eq_false_iff_not]; omega
set_option maxHeartbeats 400000 in
theorem inRange_any (n l h : Int) (w : World) :
    Calls Try.prog 22 #[.int .i64 n, .int .i64 l, .int .i64 h] w fun e w' => e = .returned (.bool (btw n l h)) ∧ w = w' := by
  by_cases a : l ≤ n
  · by_cases b : n ≤ h
    · have E := Lib.hid (btw_t a b)
      have a1 := decide_eq_true a
      have b1 := decide_eq_true b
      clear a b
      go_enter Try.func22, Try.ntmps22
      go_wp2
      go_ret
      exact ⟨ret_bool E.out.symm, rfl⟩
    · have E := Lib.hid (btw_f (n := n) (l := l) (h := h) (.inr (by omega)))
      have a1 := decide_eq_true a
      have b1 := decide_eq_false b
      clear a b
      go_enter Try.func22, Try.ntmps22
      go_wp2
      go_ret
      exact ⟨ret_bool E.out.symm, rfl⟩
  · have E := Lib.hid (btw_f (n := n) (l := l) (h := h) (.inl (by omega)))
    have a1 := decide_eq_false a
    clear a
    go_enter Try.func22, Try.ntmps22
    go_wp2
    go_ret
    exact ⟨ret_bool E.out.symm, rfl⟩

/-- The table of the months' starts. -/
def Tab (w : World) : Prop := ∀ i : Nat, i < 13 → w.cell? ⟨0, i, none⟩ = some (.int .i64 (Cal.cum (i + 1)))
theorem Tab.pos {w : World} (h : Tab w) : 0 < w.heap.size := by
  have h0 := h 0 (by omega)
  rcases Nat.eq_zero_or_pos w.heap.size with e | e
  · simp [World.cell?, e] at h0
  · exact e
theorem Tab.below {w w' : World} {B : Nat} (h : Tab w) (hb : Below B w w') (hB : 0 < B) : Tab w' := fun i hi => (hb.cell (p := ⟨0, i, none⟩) hB).trans (h i hi)
theorem Tab.alloc {w : World} (h : Tab w) (o : Obj) : Tab (w.alloc o) := h.below ((Below.refl _ _).alloc (Nat.le_refl _) o) h.pos
theorem Tab.at_ {w : World} (h : Tab w) {m : Int} (h1 : 1 ≤ m) (h2 : m ≤ 13) : w.cell? ⟨0, m.toNat - 1, none⟩ = some (.int .i64 (Cal.cum m)) := by
  have := h (m.toNat - 1) (by omega)
  rw [this, show ((m.toNat - 1 : Nat) : Int) + 1 = m by omega]

/-- A valid date. -/
def vldB (y m d : Int) : Bool := btw y 1990 2089 && btw m 1 12 && btw d 1 (Cal.dm y m)
theorem vldB_iff {y m d : Int} : vldB y m d = true ↔ Cal.vld y m d := by
  unfold vldB Cal.vld
  simp [btw_iff, and_assoc]

end Go.Proofs.Ytbihadelhknlnaa
