/- Which trades are valid: one trade. -/
import Derived.Test.YtmamnljgkkjkcaaPs
import Derived.Deep.QuietTactic
import Derived.StillTailTactics
namespace Go.Proofs.Ytmamnljgkkjkcaa
open Go.RowKit
def Td.one (p : Tri) : Bool := btw p.1 0 36524 && (p.2.1 != 0 && (btw p.2.1 (-9999) 9999 && btw p.2.2 1 50000))
def Td.asc (ps : List Tri) : Bool := (List.range (ps.length - 1)).all fun i => decide ((ps.getD i t0).1 ≤ (ps.getD (i + 1) t0).1)
theorem Td.asc_iff {ps : List Tri} : Td.asc ps = true ↔ ∀ i, i + 1 < ps.length → (ps.getD i t0).1 ≤ (ps.getD (i + 1) t0).1 := by
  unfold Td.asc
  rw [List.all_eq_true]
  constructor
  · intro h i hi
    exact of_decide_eq_true (h i (List.mem_range.2 (by omega)))
  · intro h i hi
    exact decide_eq_true (h i (by have := List.mem_range.1 hi; omega))
def Td.ok (ps : List Tri) : Bool := decide (ps.length ≤ 16) && (ps.all Td.one && Td.asc ps)
theorem all_takeF {f : Tri → Bool} {ps : List Tri} (h : ∀ j, j < ps.length → f (ps.getD j t0) = true) : ps.all f = true := by
  rw [List.all_eq_true]
  intro p hp
  obtain ⟨j, hj, rfl⟩ := List.mem_iff_getElem.1 hp
  have := h j hj
  rwa [List.getD_eq_getElem?_getD, List.getElem?_eq_getElem hj, Option.getD_some] at this
theorem all_atF {f : Tri → Bool} {ps : List Tri} (h : ps.all f = true) {i : Nat} (hi : i < ps.length) : f (ps.getD i t0) = true :=
  List.all_eq_true.1 h (ps.getD i t0) (by rw [List.getD_eq_getElem?_getD, List.getElem?_eq_getElem hi, Option.getD_some]; exact List.getElem_mem hi)
theorem all_badF {f : Tri → Bool} {ps : List Tri} {i : Nat} (hi : i < ps.length) (h : f (ps.getD i t0) = false) : ps.all f = false := by
  cases e : ps.all f with
  | false => rfl
  | true => rw [all_atF e hi] at h; cases h
set_option maxHeartbeats 400000 in
theorem vdayT_any (n : Int) (w : World) : Calls Try.prog 100 #[.int .i64 n] w fun e w' => e = .returned (.bool (btw n 0 36524)) ∧ w = w' := by
  go_enter Try.func100, Try.ntmps100
  go_wp2_with (go_at_call 88; refine (between_any _ _ _ _).mono ?_; rintro e w' ⟨rfl, rfl⟩)
  go_ret
  exact ⟨rfl, rfl⟩
set_option maxHeartbeats 400000 in
theorem vpriceT_any (n : Int) (w : World) : Calls Try.prog 93 #[.int .i64 n] w fun e w' => e = .returned (.bool (btw n 0 50000)) ∧ w = w' := by
  go_enter Try.func93, Try.ntmps93
  go_wp2_with fail
  refine (between_any _ _ _ _).mono ?_
  rintro e w' ⟨rfl, rfl⟩
  go_wp2_with fail
  go_ret
  exact ⟨rfl, rfl⟩
set_option maxHeartbeats 400000 in
theorem posT_any (n : Int) (w : World) : Calls Try.prog 101 #[.int .i64 n] w fun e w' => e = .returned (.bool (btw n 1 50000)) ∧ w = w' := by
  by_cases h : 0 < n
  · have E := Lib.hid (show btw n 0 50000 = btw n 1 50000 by
      cases e : btw n 1 50000 with
      | true => have := btw_iff.1 e; exact btw_t (by omega) (by omega)
      | false => have := btw_iff_f.1 e; exact btw_f (by omega))
    have h' := decide_eq_true h
    clear h
    go_enter Try.func101, Try.ntmps101
    go_wp2_with fail
    refine (vpriceT_any _ _).mono ?_
    rintro e w' ⟨rfl, rfl⟩
    go_wp2_with fail
    go_ret
    exact ⟨ret_bool E.out, rfl⟩
  · have E := Lib.hid (btw_f (n := n) (l := 1) (h := 50000) (.inl (by omega)))
    have h' := decide_eq_false h
    clear h
    go_enter Try.func101, Try.ntmps101
    go_wp2_with fail
    go_ret
    exact ⟨ret_bool E.out.symm, rfl⟩
set_option maxHeartbeats 800000 in
theorem tvalid_any (p : Tri) (w : World) :
    Calls Try.prog 84 #[triV p] w fun e w' => e = .returned (.bool (Td.one p)) ∧ Below w.heap.size w w' := by
  obtain ⟨d, m, u⟩ := p
  have hbA := (Below.refl w.heap.size w).alloc (Nat.le_refl _) (.cells #[.int .i64 d, .int .i64 m, .int .i64 u] 73)
  cases h0 : btw d 0 36524 with
  | false =>
    have E := Lib.hid (show Td.one (d, m, u) = false by unfold Td.one; simp only [h0]; rfl)
    go_enter Try.func84, Try.ntmps84
    go_wp2_with fail
    refine (vdayT_any _ _).mono ?_
    rintro e w1 ⟨rfl, rfl⟩
    rw [h0]
    go_wp2_with fail
    go_ret
    exact ⟨ret_bool E.out.symm, hbA⟩
  | true =>
    cases h1 : (m != 0) with
    | false =>
      have E := Lib.hid (show Td.one (d, m, u) = false by unfold Td.one; simp only [h0, h1]; rfl)
      go_enter Try.func84, Try.ntmps84
      go_wp2_with fail
      refine (vdayT_any _ _).mono ?_
      rintro e w1 ⟨rfl, rfl⟩
      rw [h0]
      go_wp2_with fail
      go_ret
      exact ⟨ret_bool E.out.symm, hbA⟩
    | true =>
      cases h2 : btw m (-9999) 9999 with
      | false =>
        have E := Lib.hid (show Td.one (d, m, u) = false by unfold Td.one; simp only [h0, h1, h2]; rfl)
        go_enter Try.func84, Try.ntmps84
        go_wp2_with fail
        refine (vdayT_any _ _).mono ?_
        rintro e w1 ⟨rfl, rfl⟩
        rw [h0]
        go_wp2_with fail
        refine (between_any _ _ _ _).mono ?_
        rintro e w1 ⟨rfl, rfl⟩
        rw [h2]
        go_wp2_with fail
        go_ret
        exact ⟨ret_bool E.out.symm, hbA⟩
      | true =>
        have E := Lib.hid (show Td.one (d, m, u) = btw u 1 50000 by unfold Td.one; simp only [h0, h1, h2]; rfl)
        go_enter Try.func84, Try.ntmps84
        go_wp2_with fail
        refine (vdayT_any _ _).mono ?_
        rintro e w1 ⟨rfl, rfl⟩
        rw [h0]
        go_wp2_with fail
        refine (between_any _ _ _ _).mono ?_
        rintro e w1 ⟨rfl, rfl⟩
        rw [h2]
        go_wp2_with fail
        refine (posT_any _ _).mono ?_
        rintro e w1 ⟨rfl, rfl⟩
        go_wp2_with fail
        go_ret
        exact ⟨ret_bool E.out.symm, hbA⟩
end Go.Proofs.Ytmamnljgkkjkcaa
