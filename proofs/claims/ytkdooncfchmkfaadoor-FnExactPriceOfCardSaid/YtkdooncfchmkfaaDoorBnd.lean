/- Bonds: their periods, on both sides. -/
import Derived.Test.YtkdooncfchmkfaaDoorSchT
namespace Go.Proofs.YtkdooncfchmkfaaDoor
open Go.RowKit
theorem Blk.four {w : World} {b : Nat} {t : TypeId} {x y z u : Value} (h : Blk w b t #[x, y, z, u]) :
    (w.cell? ⟨b, 0, none⟩ = some x ∧ w.cell? ⟨b, 1, none⟩ = some y ∧ w.cell? ⟨b, 2, none⟩ = some z ∧ w.cell? ⟨b, 3, none⟩ = some u) := by
  unfold Blk at h
  simp [World.cell?, h]
/-- The periods of a bond; none where it is not valid. -/
noncomputable def perL (s e m r : Int) : List Per := if btw r 0 3000 = true then Sc.sch s e m else []
theorem perL_len (s e m r : Int) : (perL s e m r).length ≤ 40 := by
  unfold perL
  split
  · exact Sc.sch_len s e m
  · simp
noncomputable def vbB (s e m r : Int) : Bool := decide (0 < (perL s e m r).length)
theorem btwC' {n l h : Int} {b : Bool} (e : btw n l h = b) : ∀ W : World, Calls Tryd.prog 32 #[.int .i64 n, .int .i64 l, .int .i64 h] W fun e w' => e = .returned (.bool b) ∧ W = w' := fun W => by
  have := between_any n l h W; rw [e] at this; exact this
set_option maxHeartbeats 400000 in
theorem rateC' {r : Int} {b : Bool} (e : btw r 0 3000 = b) (W : World) : Calls Tryd.prog 74 #[.int .i64 r] W fun e w' => e = .returned (.bool b) ∧ W = w' := by
  have C1 := Lib.hid (btwC' e)
  clear e
  go_enter Tryd.func74, Tryd.ntmps74
  go_wp2_with fail
  refine (C1.out _).mono ?_
  rintro x w1 ⟨rfl, rfl⟩
  go_wp2_with fail
  go_ret
  exact ⟨rfl, rfl⟩
set_option maxHeartbeats 1000000 in
theorem periods_any (s e m r : Int) (w : World) (hT : Tab w) :
    Calls Tryd.prog 55 #[.agg #[.int .i64 s, .int .i64 e, .int .i64 m, .int .i64 r]] w (Coll (perL s e m r) w) := by
  have HT := Lib.hid hT; clear hT
  have kB := Blk.new w #[.int .i64 s, .int .i64 e, .int .i64 m, .int .i64 r] 27
  have hB := (Below.refl w.heap.size w).alloc (Nat.le_refl _) (.cells #[.int .i64 s, .int .i64 e, .int .i64 m, .int .i64 r] 27)
  obtain ⟨c0, c1, c2, c3⟩ := kB.four
  clear kB
  have HT1 := Lib.hid (HT.out.alloc (.cells #[.int .i64 s, .int .i64 e, .int .i64 m, .int .i64 r] 27))
  have HB := Lib.hid hB
  have HSZ := Lib.hid (show w.heap.size ≤ (w.alloc (.cells #[.int .i64 s, .int .i64 e, .int .i64 m, .int .i64 r] 27)).heap.size by simp)
  cases h1 : btw r 0 3000 with
  | false =>
    have C1 := Lib.hid (rateC' h1)
    have E := Lib.hid (show perL s e m r = [] by unfold perL; rw [if_neg (by rw [h1]; decide)])
    clear h1
    go_enter Tryd.func55, Tryd.ntmps55
    go_wp2_with fail
    refine (C1.out _).mono ?_
    rintro x w1 ⟨rfl, rfl⟩
    go_wp2_with fail
    go_ret
    exact ⟨_, rfl, by rw [E.out]; exact PRow.nil _ _, by rw [E.out]; simp, HB.out⟩
  | true =>
    have C1 := Lib.hid (rateC' h1)
    have E := Lib.hid (show perL s e m r = Sc.sch s e m by unfold perL; rw [if_pos h1])
    clear h1
    go_enter Tryd.func55, Tryd.ntmps55
    go_wp2_with fail
    refine (C1.out _).mono ?_
    rintro x w1 ⟨rfl, rfl⟩
    go_wp2_with fail
    refine (sched_any _ _ _ _ HT1.out).mono ?_
    rintro x w1 ⟨v, rfl, hr, hn, hb⟩
    have HR := Lib.hid hr
    have HN := Lib.hid hn
    clear hr hn
    go_wp2_with fail
    go_ret
    exact ⟨v, rfl, by rw [E.out]; exact HR.out.lower HSZ.out, by rw [E.out]; exact HN.out, HB.out.trans (hb.mono HSZ.out)⟩
set_option maxHeartbeats 1000000 in
theorem sVBond_any (s e m r : Int) (w : World) :
    Calls Tryd.prog 40 #[.agg #[.int .i64 s, .int .i64 e, .int .i64 m, .int .i64 r]] w fun x w' => x = .returned (.bool (vbB s e m r)) ∧ Below w.heap.size w w' := by
  have kB := Blk.new w #[.int .i64 s, .int .i64 e, .int .i64 m, .int .i64 r] 27
  have hB := (Below.refl w.heap.size w).alloc (Nat.le_refl _) (.cells #[.int .i64 s, .int .i64 e, .int .i64 m, .int .i64 r] 27)
  obtain ⟨c0, c1, c2, c3⟩ := kB.four
  clear kB
  have HB := Lib.hid hB
  have HSZ := Lib.hid (show w.heap.size ≤ (w.alloc (.cells #[.int .i64 s, .int .i64 e, .int .i64 m, .int .i64 r] 27)).heap.size by simp)
  clear hB
  have hv := sValidSpan_any s e m
  cases h0 : Sc.okB s e m with
  | false =>
    rw [h0] at hv
    have HV := Lib.hid hv
    have E := Lib.hid (show vbB s e m r = false by unfold vbB perL; rw [Sc.sch_no1 h0]; simp)
    clear hv h0
    go_enter Tryd.func40, Tryd.ntmps40
    go_wp2_with fail
    refine (HV.out _).mono ?_
    rintro x w1 ⟨rfl, rfl⟩
    go_wp2_with fail
    go_ret
    exact ⟨ret_bool E.out.symm, HB.out⟩
  | true =>
    rw [h0] at hv
    have HV := Lib.hid hv
    clear hv h0
    cases h1 : btw r 0 3000 with
    | false =>
      have C1 := Lib.hid (inRC' h1)
      have E := Lib.hid (show vbB s e m r = false by unfold vbB perL; rw [if_neg (by rw [h1]; decide)]; rfl)
      clear h1
      go_enter Tryd.func40, Tryd.ntmps40
      go_wp2_with fail
      refine (HV.out _).mono ?_
      rintro x w1 ⟨rfl, rfl⟩
      go_wp2_with fail
      refine (C1.out _).mono ?_
      rintro x w1 ⟨rfl, rfl⟩
      go_wp2_with fail
      go_ret
      exact ⟨ret_bool E.out.symm, HB.out⟩
    | true =>
      have C1 := Lib.hid (inRC' h1)
      have HL := Lib.hid (show vbB s e m r = decide (0 < (Sc.sch s e m).length) by unfold vbB perL; rw [if_pos h1])
      clear h1
      go_enter Tryd.func40, Tryd.ntmps40
      go_wp2_with fail
      refine (HV.out _).mono ?_
      rintro x w1 ⟨rfl, rfl⟩
      go_wp2_with fail
      refine (C1.out _).mono ?_
      rintro x w1 ⟨rfl, rfl⟩
      go_wp2_with fail
      refine (sSchedule_any _ _ _ _).mono ?_
      rintro x w1 ⟨v, rfl, hr, _, hb⟩
      obtain ⟨⟨a, c, rfl⟩, _⟩ := hr.rd
      clear hr
      cases hv : vbB s e m r with
      | true =>
        have h0 : decide (0 < (Sc.sch s e m).length) = true := HL.out.symm.trans hv
        have HV0 := Lib.hid hv; clear hv
        have h1 : decide (0 < ((Sc.sch s e m).length : Int)) = true := by simpa using h0
        go_wp2_with fail
        go_ret
        exact ⟨ret_bool HV0.out.symm, HB.out.trans (hb.mono HSZ.out)⟩
      | false =>
        have h0 : decide (0 < (Sc.sch s e m).length) = false := HL.out.symm.trans hv
        have HV0 := Lib.hid hv; clear hv
        have h1 : decide (0 < ((Sc.sch s e m).length : Int)) = false := by simpa using h0
        go_wp2_with fail
        go_ret
        exact ⟨ret_bool HV0.out.symm, HB.out.trans (hb.mono HSZ.out)⟩
set_option maxHeartbeats 400000 in
theorem toBond_any (s e m r : Int) (w : World) :
    Calls Tryd.prog 11 #[.agg #[.int .i64 s, .int .i64 e, .int .i64 m, .int .i64 r]] w fun x w' => x = .returned (.agg #[.int .i64 s, .int .i64 e, .int .i64 m, .int .i64 r]) ∧ Below w.heap.size w w' := by
  go_enter Tryd.func11, Tryd.ntmps11
  go_wp2
  refine bodyPost_ret (v := .agg #[.int .i64 s, .int .i64 e, .int .i64 m, .int .i64 r]) (by simp [results, Tryd.results11, go_sem]) rfl ⟨rfl, ?_⟩
  exact (((Below.refl _ _).alloc (Nat.le_refl _) _).alloc (by simp) _).alloc (by simp; omega) _
end Go.Proofs.YtkdooncfchmkfaaDoor
