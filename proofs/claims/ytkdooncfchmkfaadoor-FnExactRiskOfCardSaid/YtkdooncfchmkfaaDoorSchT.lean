/- The model's schedules, and what the exact law does with a row: comparing, marking, holding. -/
import Derived.Test.YtkdooncfchmkfaaDoorZC
import Derived.Test.YtkdooncfchmkfaaDoorSchS
import Derived.Test.YtkdooncfchmkfaaDoorRd
import Derived.StillTailTactics
namespace Go.Proofs.YtkdooncfchmkfaaDoor
open Go.RowKit
theorem inRC' {n l h : Int} {b : Bool} (e : btw n l h = b) : ∀ W : World, Calls Tryd.prog 31 #[.int .i64 n, .int .i64 l, .int .i64 h] W fun e w' => e = .returned (.bool b) ∧ W = w' := fun W => by
  have := inRange_any n l h W; rw [e] at this; exact this
set_option maxHeartbeats 1000000 in
theorem sValidSpan_any (s e m : Int) (w : World) :
    Calls Tryd.prog 60 #[.int .i64 s, .int .i64 e, .int .i64 m] w fun x w' => x = .returned (.bool (Sc.okB s e m)) ∧ w = w' := by
  cases h1 : btw s 0 36524 with
  | false =>
    have C1 := Lib.hid (inRC' h1)
    have E := Lib.hid (show Sc.okB s e m = false by have := btw_iff_f.1 h1; unfold Sc.okB; rw [decide_eq_false (by omega)]; rfl)
    clear h1
    go_enter Tryd.func60, Tryd.ntmps60
    go_wp2_with fail
    refine (C1.out _).mono ?_
    rintro x w1 ⟨rfl, rfl⟩
    go_wp2_with fail
    go_ret
    exact ⟨ret_bool E.out.symm, rfl⟩
  | true =>
    have C1 := Lib.hid (inRC' h1)
    obtain ⟨s0, s1⟩ := btw_iff.1 h1
    cases h2 : btw e (s + 1) 36524 with
    | false =>
      have C2 := Lib.hid (inRC' h2)
      have E := Lib.hid (show Sc.okB s e m = false by have := btw_iff_f.1 h2; unfold Sc.okB; rw [decide_eq_false (by omega)]; rfl)
      clear h1 h2
      go_enter Tryd.func60, Tryd.ntmps60
      go_wp2_with fail
      refine (C1.out _).mono ?_
      rintro x w1 ⟨rfl, rfl⟩
      go_wp2_with fail
      refine (C2.out _).mono ?_
      rintro x w1 ⟨rfl, rfl⟩
      go_wp2_with fail
      go_ret
      exact ⟨ret_bool E.out.symm, rfl⟩
    | true =>
      have C2 := Lib.hid (inRC' h2)
      obtain ⟨e0, e1⟩ := btw_iff.1 h2
      have E := Lib.hid (show Sc.okB s e m = Sc.monB m by unfold Sc.okB; rw [decide_eq_true (by omega)]; rfl)
      clear h1 h2
      by_cases a1 : m = 1
      · subst a1
        go_enter Tryd.func60, Tryd.ntmps60
        go_wp2_with fail
        refine (C1.out _).mono ?_
        rintro x w1 ⟨rfl, rfl⟩
        go_wp2_with fail
        refine (C2.out _).mono ?_
        rintro x w1 ⟨rfl, rfl⟩
        go_wp2_with fail
        go_ret
        exact ⟨ret_bool (by rw [E.out]; rfl), rfl⟩
      · by_cases a2 : m = 3
        · subst a2
          go_enter Tryd.func60, Tryd.ntmps60
          go_wp2_with fail
          refine (C1.out _).mono ?_
          rintro x w1 ⟨rfl, rfl⟩
          go_wp2_with fail
          refine (C2.out _).mono ?_
          rintro x w1 ⟨rfl, rfl⟩
          go_wp2_with fail
          go_ret
          exact ⟨ret_bool (by rw [E.out]; rfl), rfl⟩
        · by_cases a3 : m = 6
          · subst a3
            go_enter Tryd.func60, Tryd.ntmps60
            go_wp2_with fail
            refine (C1.out _).mono ?_
            rintro x w1 ⟨rfl, rfl⟩
            go_wp2_with fail
            refine (C2.out _).mono ?_
            rintro x w1 ⟨rfl, rfl⟩
            go_wp2_with fail
            go_ret
            exact ⟨ret_bool (by rw [E.out]; rfl), rfl⟩
          · by_cases a4 : m = 12
            · subst a4
              go_enter Tryd.func60, Tryd.ntmps60
              go_wp2_with fail
              refine (C1.out _).mono ?_
              rintro x w1 ⟨rfl, rfl⟩
              go_wp2_with fail
              refine (C2.out _).mono ?_
              rintro x w1 ⟨rfl, rfl⟩
              go_wp2_with fail
              go_ret
              exact ⟨ret_bool (by rw [E.out]; rfl), rfl⟩
            · have E2 := Lib.hid (show Sc.monB m = false by unfold Sc.monB; rw [decide_eq_false_iff_not]; omega)
              have g1 : (m == 1) = false := by simp [a1]
              have g2 : (m == 3) = false := by simp [a2]
              have g3 : (m == 6) = false := by simp [a3]
              have g4 : (m == 12) = false := by simp [a4]
              clear a1 a2 a3 a4
              go_enter Tryd.func60, Tryd.ntmps60
              go_wp2_with fail
              refine (C1.out _).mono ?_
              rintro x w1 ⟨rfl, rfl⟩
              go_wp2_with fail
              refine (C2.out _).mono ?_
              rintro x w1 ⟨rfl, rfl⟩
              go_wp2_with fail
              go_ret
              exact ⟨ret_bool (by rw [E.out, E2.out]), rfl⟩
set_option maxHeartbeats 1000000 in
theorem sSchedule_any (s e m : Int) (w : World) :
    Calls Tryd.prog 61 #[.int .i64 s, .int .i64 e, .int .i64 m] w (Coll (Sc.sch s e m) w) := by
  have hv := sValidSpan_any s e m
  cases ok : Sc.okB s e m with
  | false =>
    rw [ok] at hv
    have HV := Lib.hid hv
    have E := Lib.hid (Sc.sch_no1 ok)
    clear hv ok
    go_enter Tryd.func61, Tryd.ntmps61
    go_wp2_with fail
    refine (HV.out _).mono ?_
    rintro x w1 ⟨rfl, rfl⟩
    go_wp2_with fail
    go_ret
    exact coll_nil _ E.out
  | true =>
    rw [ok] at hv
    have HV := Lib.hid hv
    have HL := Lib.hid (Sc.specL_len s e m (Sc.N s e m))
    have OK := Lib.hid ok
    clear hv ok
    go_enter Tryd.func61, Tryd.ntmps61
    go_wp2_with fail
    refine (HV.out _).mono ?_
    rintro x w1 ⟨rfl, rfl⟩
    go_wp2_with fail
    refine (sSched_any _ _ _ _ OK.out).mono ?_
    rintro x w1 ⟨v, rfl, hp, hb⟩
    obtain ⟨b, c, rfl, _, _⟩ := hp.form
    have HP := Lib.hid hp; clear hp
    rw [HL.out]
    by_cases h41 : 40 < Sc.N s e m
    · have E := Lib.hid (Sc.sch_no2 h41)
      have c : (40 : Int) < (Sc.N s e m : Int) := by omega
      go_wp2_with fail
      go_ret
      exact ⟨_, rfl, by rw [E.out]; exact PRow.nil _ _, by rw [E.out]; simp, hb⟩
    · have c : ¬ (40 : Int) < (Sc.N s e m : Int) := by omega
      have E := Lib.hid (Sc.sch_yes OK.out (show Sc.N s e m ≤ 40 by omega))
      have HA := Lib.hid (Sc.specL_all OK.out (show Sc.N s e m ≤ 40 by omega))
      have HN := Lib.hid (Sc.isN OK.out).n1
      go_wp2_with fail
      go_ret
      refine ⟨_, rfl, ?_, ?_, hb⟩
      · rw [E.out, ← HA.out]
        have := HP.out.1
        rw [HL.out] at this
        exact this
      · rw [E.out]
        refine ⟨fun h => (by simp at h), fun h => ?_⟩
        have := Sc.all_len s e m
        rw [h] at this
        have := HN.out
        simp at *
        omega
/-- What marking leaves in a row. -/
def mk (k : Int) : Nat → List Per
  | 0 => []
  | n + 1 => (k, k + 1, (k + 2).tmod 3 == 0) :: mk (k + 3) n
def mkAt (k : Int) (i : Nat) : Per := (k + 3 * i, k + 3 * i + 1, (k + 3 * i + 2) % 3 == 0)
/-- The first i elements are marked, from 1 on. -/
def MkTo (ps qs : List Per) (i : Nat) : Prop := qs.length = ps.length ∧ ∀ t, t < i → qs.getD t p0 = mkAt 1 t
theorem mkTo_start (ps : List Per) : MkTo ps ps 0 := ⟨rfl, fun t ht => by omega⟩
theorem mkTo_step {ps qs : List Per} {i : Nat} (h : MkTo ps qs i) (hi : i < ps.length) : MkTo ps (qs.set i (mkAt 1 i)) (i + 1) := by
  refine ⟨by rw [List.length_set]; exact h.1, fun t ht => ?_⟩
  rw [List.getD_eq_getElem?_getD, List.getElem?_set]
  by_cases c : i = t
  · subst c
    rw [if_pos rfl, if_pos (by rw [h.1]; exact hi)]
    rfl
  · rw [if_neg c, ← List.getD_eq_getElem?_getD]
    exact h.2 t (by omega)
def Marked (w : World) (B b n cap : Nat) (x : Ending) (w' : World) : Prop := ∃ qs : List Per, x = .returned (.int .i64 (3 * n + 1)) ∧ qs.length = n ∧ (∀ t, t < n → qs.getD t p0 = mkAt 1 t) ∧ PRow w' B (.slice (some ⟨b, 0, none⟩) n cap) qs ∧ w.grownBy w' (some b)
end Go.Proofs.YtkdooncfchmkfaaDoor
