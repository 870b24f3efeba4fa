/- The program's schedules. -/
import Derived.Test.YtcckopnpmcbbcaaDoorCol
import Derived.Test.YtcckopnpmcbbcaaDoorRev
namespace Go.Proofs.YtcckopnpmcbbcaaDoor
open Go.RowKit
set_option maxHeartbeats 400000 in
theorem validMonths_any (m : Int) (w : World) :
    Calls Tryd.prog 49 #[.int .i64 m] w fun e w' => e = .returned (.bool (Sc.monB m)) ∧ w = w' := by
  by_cases h1 : m = 1
  · subst h1
    go_enter Tryd.func49, Tryd.ntmps49
    go_wp2_with fail
    go_ret
    exact ⟨rfl, rfl⟩
  · by_cases h2 : m = 3
    · subst h2
      go_enter Tryd.func49, Tryd.ntmps49
      go_wp2_with fail
      go_ret
      exact ⟨rfl, rfl⟩
    · by_cases h3 : m = 6
      · subst h3
        go_enter Tryd.func49, Tryd.ntmps49
        go_wp2_with fail
        go_ret
        exact ⟨rfl, rfl⟩
      · by_cases h4 : m = 12
        · subst h4
          go_enter Tryd.func49, Tryd.ntmps49
          go_wp2_with fail
          go_ret
          exact ⟨rfl, rfl⟩
        · have E := Lib.hid (show Sc.monB m = false by unfold Sc.monB; rw [decide_eq_false_iff_not]; omega)
          have e1 : (m == 1) = false := by simp [h1]
          have e2 : (m == 3) = false := by simp [h2]
          have e3 : (m == 6) = false := by simp [h3]
          have e4 : (m == 12) = false := by simp [h4]
          clear h1 h2 h3 h4
          go_enter Tryd.func49, Tryd.ntmps49
          go_wp2_with fail
          go_ret
          exact ⟨ret_bool E.out.symm, rfl⟩
set_option maxHeartbeats 400000 in
theorem periodsBack_any (s e m : Int) (w : World) :
    Calls Tryd.prog 51 #[.int .i64 s, .int .i64 e, .int .i64 m] w fun x w' => x = .returned (.func (.func 75) #[] #[.pointer (some ⟨w.heap.size + 1, 0, none⟩), .pointer (some ⟨w.heap.size, 0, none⟩), .pointer (some ⟨w.heap.size + 1 + 1, 0, none⟩)]) ∧ w' = ((w.alloc (.cells #[.int .i64 s] 3)).alloc (.cells #[.int .i64 e] 3)).alloc (.cells #[.int .i64 m] 3) := by
  go_enter Tryd.func51, Tryd.ntmps51
  go_wp2_with fail
  go_ret
  exact ⟨rfl, rfl⟩
theorem dayC {n : Int} {b : Bool} (h : dayB n = b) : ∀ W : World, Calls Tryd.prog 48 #[.int .i64 n] W fun e w' => e = .returned (.bool b) ∧ W = w' := fun W => by
  have := validDay_any n W; rw [h] at this; exact this
theorem monC {n : Int} {b : Bool} (h : Sc.monB n = b) : ∀ W : World, Calls Tryd.prog 49 #[.int .i64 n] W fun e w' => e = .returned (.bool b) ∧ W = w' := fun W => by
  have := validMonths_any n W; rw [h] at this; exact this
theorem coll_nil {s e m : Int} (w : World) (h : Sc.sch s e m = []) : Coll (Sc.sch s e m) w (.returned (.slice none 0 0)) w :=
  ⟨_, rfl, by rw [h]; exact PRow.nil w _, by rw [h]; simp, Below.refl _ _⟩
set_option maxHeartbeats 1000000 in
theorem sched_any (s e m : Int) (w : World) (hT : Tab w) :
    Calls Tryd.prog 22 #[.int .i64 s, .int .i64 e, .int .i64 m] w (Coll (Sc.sch s e m) w) := by
  have HT := Lib.hid hT; clear hT
  cases h1 : dayB s with
  | false =>
    have C1 := Lib.hid (dayC h1)
    have E := Lib.hid (Sc.sch_no1 (s := s) (e := e) (m := m) (by have := btw_iff_f.1 h1; unfold Sc.okB; rw [decide_eq_false (by omega)]; rfl))
    clear h1
    go_enter Tryd.func22, Tryd.ntmps22
    go_wp2_with fail
    refine (C1.out _).mono ?_
    rintro x w1 ⟨rfl, rfl⟩
    go_wp2_with fail
    go_ret
    exact coll_nil _ E.out
  | true =>
    have C1 := Lib.hid (dayC h1)
    cases h2 : dayB e with
    | false =>
      have C2 := Lib.hid (dayC h2)
      have E := Lib.hid (Sc.sch_no1 (s := s) (e := e) (m := m) (by have := btw_iff_f.1 h2; have := btw_iff.1 h1; unfold Sc.okB; rw [decide_eq_false (by omega)]; rfl))
      clear h1 h2
      go_enter Tryd.func22, Tryd.ntmps22
      go_wp2_with fail
      refine (C1.out _).mono ?_
      rintro x w1 ⟨rfl, rfl⟩
      go_wp2_with fail
      refine (C2.out _).mono ?_
      rintro x w1 ⟨rfl, rfl⟩
      go_wp2_with fail
      go_ret
      exact coll_nil _ E.out
    | true =>
      have C2 := Lib.hid (dayC h2)
      obtain ⟨s0, s1⟩ := btw_iff.1 h1
      obtain ⟨e0, e1⟩ := btw_iff.1 h2
      clear h1 h2
      by_cases h3 : e ≤ s
      · have E := Lib.hid (Sc.sch_no1 (s := s) (e := e) (m := m) (by unfold Sc.okB; rw [decide_eq_false (by omega)]; rfl))
        have h3' := decide_eq_true h3
        go_enter Tryd.func22, Tryd.ntmps22
        go_wp2_with fail
        refine (C1.out _).mono ?_
        rintro x w1 ⟨rfl, rfl⟩
        go_wp2_with fail
        refine (C2.out _).mono ?_
        rintro x w1 ⟨rfl, rfl⟩
        go_wp2_with fail
        go_ret
        exact coll_nil _ E.out
      · have h3' := decide_eq_false h3
        cases h4 : Sc.monB m with
        | false =>
          have C4 := Lib.hid (monC h4)
          have E := Lib.hid (Sc.sch_no1 (s := s) (e := e) (m := m) (by unfold Sc.okB; rw [h4]; simp))
          clear h4
          go_enter Tryd.func22, Tryd.ntmps22
          go_wp2_with fail
          refine (C1.out _).mono ?_
          rintro x w1 ⟨rfl, rfl⟩
          go_wp2_with fail
          refine (C2.out _).mono ?_
          rintro x w1 ⟨rfl, rfl⟩
          go_wp2_with fail
          refine (C4.out _).mono ?_
          rintro x w1 ⟨rfl, rfl⟩
          go_wp2_with fail
          go_ret
          exact coll_nil _ E.out
        | true =>
          have C4 := Lib.hid (monC h4)
          have ok : Sc.okB s e m = true := Sc.okB_iff.2 ⟨by omega, h4⟩
          have hN := Sc.isN ok
          obtain ⟨n1, n2, _, _⟩ := hN
          have OK := Lib.hid ok; clear ok h4
          have b0 := ((Blk.new w #[.int .i64 s] 3).alloc (.cells #[.int .i64 e] 3)).alloc (.cells #[.int .i64 m] 3)
          have b1 := (Blk.new (w.alloc (.cells #[.int .i64 s] 3)) #[.int .i64 e] 3).alloc (.cells #[.int .i64 m] 3)
          have b2 := Blk.new ((w.alloc (.cells #[.int .i64 s] 3)).alloc (.cells #[.int .i64 e] 3)) #[.int .i64 m] 3
          simp only [World.size_alloc] at b1 b2
          have hB : Below w.heap.size w (((w.alloc (.cells #[.int .i64 s] 3)).alloc (.cells #[.int .i64 e] 3)).alloc (.cells #[.int .i64 m] 3)) := (((Below.refl _ w).alloc (Nat.le_refl _) _).alloc (by simp) _).alloc (by simp; omega) _
          have hsz : (((w.alloc (.cells #[.int .i64 s] 3)).alloc (.cells #[.int .i64 e] 3)).alloc (.cells #[.int .i64 m] 3)).heap.size = w.heap.size + 3 := by simp
          have HB0 := Lib.hid b0; have HB1 := Lib.hid b1; have HB2 := Lib.hid b2; have HB := Lib.hid hB; have HS := Lib.hid hsz
          clear b0 b1 b2 hB hsz
          have HL := Lib.hid (Sc.back_len s e m (Sc.N s e m))
          go_enter Tryd.func22, Tryd.ntmps22
          go_wp2_with fail
          refine (C1.out _).mono ?_
          rintro x w1 ⟨rfl, rfl⟩
          go_wp2_with fail
          refine (C2.out _).mono ?_
          rintro x w1 ⟨rfl, rfl⟩
          go_wp2_with fail
          refine (C4.out _).mono ?_
          rintro x w1 ⟨rfl, rfl⟩
          go_wp2_with fail
          refine (periodsBack_any _ _ _ _).mono ?_
          rintro x w1 ⟨rfl, hw1⟩
          have HW := Lib.hid hw1; clear hw1
          have lt1 : w1.heap.size = w.heap.size + 3 := by rw [HW.out]; exact HS.out
          have HBw : Below w.heap.size w w1 := by rw [HW.out]; exact HB.out
          have K0 : Blk w1 w.heap.size 3 #[.int .i64 s] := by rw [HW.out]; exact HB0.out
          have K1 : Blk w1 (w.heap.size + 1) 3 #[.int .i64 e] := by rw [HW.out]; exact HB1.out
          have K2 : Blk w1 (w.heap.size + 1 + 1) 3 #[.int .i64 m] := by rw [HW.out]; exact HB2.out
          have q0 : w1.cell? ⟨w.heap.size, 0, none⟩ = some (.int .i64 s) := by unfold Blk at K0; simp [World.cell?, K0]
          have q1 : w1.cell? ⟨w.heap.size + 1, 0, none⟩ = some (.int .i64 e) := by unfold Blk at K1; simp [World.cell?, K1]
          have q2 : w1.cell? ⟨w.heap.size + 1 + 1, 0, none⟩ = some (.int .i64 m) := by unfold Blk at K2; simp [World.cell?, K2]
          have HC := Lib.hid (collect_any s e m OK.out (w.heap.size + 1) w.heap.size (w.heap.size + 1 + 1) w1 (by omega) (by omega) (by omega) (HT.out.below HBw HT.out.pos) q1 q0 q2)
          have LT1 := Lib.hid lt1
          clear q0 q1 q2 K0 K1 K2 lt1 HB HB0 HB1 HB2 HS
          go_wp2_with fail
          refine HC.out.mono ?_
          rintro x w2 ⟨v, rfl, hrow, hnil, hb2⟩
          obtain ⟨b, cap, rfl, hb, hblt, hcap, _, _⟩ := hrow.form (by rw [HL.out]; omega)
          have HR := Lib.hid hrow; clear hrow hnil hcap
          have hb2' := HBw.trans (hb2.mono HBw.size)
          have hbw : w.heap.size ≤ b := by have := LT1.out; omega
          rw [HL.out]
          by_cases h41 : 40 < Sc.N s e m
          · have E := Lib.hid (Sc.sch_no2 h41)
            have c : (40 : Int) < (Sc.N s e m : Int) := by omega
            go_wp2_with fail
            go_ret
            exact ⟨_, rfl, by rw [E.out]; exact PRow.nil _ _, by rw [E.out]; simp, hb2'⟩
          · have c : ¬ (40 : Int) < (Sc.N s e m : Int) := by omega
            have E := Lib.hid (Sc.sch_yes OK.out (show Sc.N s e m ≤ 40 by omega))
            have hrv := rev_any w2 w1.heap.size b cap (Sc.back s e m (Sc.N s e m)) HR.out (by rw [HL.out]; omega) (by rw [HL.out]; omega)
            rw [HL.out, Sc.back_rev] at hrv
            have HV := Lib.hid hrv; clear hrv
            go_wp2_with fail
            refine HV.out.mono ?_
            rintro x w3 ⟨rfl, hr3, hg3⟩
            have HR3 := Lib.hid hr3; clear hr3
            go_wp2_with fail
            go_ret
            refine ⟨_, rfl, ?_, ?_, hb2'.grown hg3 hb2'.size (fun k hk => by cases hk; exact hbw)⟩
            · rw [E.out]
              have := HR3.out
              exact this.lower HBw.size
            · rw [E.out]
              refine ⟨fun h => (by simp at h), fun h => ?_⟩
              have := Sc.all_len s e m
              rw [h] at this
              simp at this
              omega
end Go.Proofs.YtcckopnpmcbbcaaDoor
