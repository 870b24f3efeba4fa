/- The exact law of schedules. -/
import Derived.Test.YtpbcfffhhdojmaaDoorSchT
namespace Go.Proofs.YtpbcfffhhdojmaaDoor
open Go.RowKit
set_option maxHeartbeats 400000 in
theorem mark_nil (w : World) : Calls Tryd.prog 34 #[.slice none 0 0, .int .i64 1] w fun x w' => x = .returned (.int .i64 1) ∧ w = w' := by
  go_enter Tryd.func34, Tryd.ntmps34
  go_wp2_with fail
  go_loop [5, 1] (fun x k => x = .int .i64 0 ∧ k = .int .i64 1) (fun _ _ => 0)
  case atStart => exact ⟨rfl, rfl⟩
  case round =>
    obtain ⟨rfl, rfl⟩ := hrel
    go_wp2_with fail
    go_ret
    exact ⟨rfl, rfl⟩
set_option maxHeartbeats 400000 in
theorem held_nil (w : World) : Calls Tryd.prog 35 #[.slice none 0 0, .int .i64 1] w fun x w' => x = .returned (.int .i64 1) ∧ w = w' := by
  go_enter Tryd.func35, Tryd.ntmps35
  go_wp2_with fail
  go_loop [5, 1] (fun x k => x = .int .i64 0 ∧ k = .int .i64 1) (fun _ _ => 0)
  case atStart => exact ⟨rfl, rfl⟩
  case round =>
    obtain ⟨rfl, rfl⟩ := hrel
    go_wp2_with fail
    go_ret
    exact ⟨rfl, rfl⟩
theorem below_of_grown {w w' : World} {b B : Nat} (hg : w.grownBy w' (some b)) (hB : B ≤ b) (hs : B ≤ w.heap.size) : Below B w w' :=
  ⟨hg.os, hg.tape, hg.output, hg.size, fun k hk => hg.block k (by omega) (fun e => by injection e; omega)⟩
set_option maxHeartbeats 2000000 in
theorem exScheduleOf (s e m : Int) (w : World) (hT : Tab w) :
    Calls Tryd.prog 15 #[.int .i64 s, .int .i64 e, .int .i64 m] w fun x w' => x = .returned (.bool true) ∧ Below w.heap.size w w' := by
  have HT := Lib.hid hT; clear hT
  have hlen := Sc.sch_len s e m
  have hi := sched_any s e m
  have hs := sSchedule_any s e m
  generalize Sc.sch s e m = ps at hlen hi hs
  have HI := Lib.hid hi; clear hi
  have HS := Lib.hid hs; clear hs
  go_enter Tryd.func15, Tryd.ntmps15
  go_wp2_with fail
  refine (HS.out _).mono ?_
  rintro x w1 ⟨v0, rfl, hr0, hn0, hb1⟩
  have HR0 := Lib.hid hr0; clear hr0
  have HN0 := Lib.hid hn0; clear hn0
  have s1 := hb1.size
  go_wp2_with fail
  refine (HI.out _ (HT.out.below hb1 HT.out.pos)).mono ?_
  rintro x w2 ⟨v1, rfl, hr1, hn1, hb2⟩
  have HR1 := Lib.hid hr1; clear hr1
  have HN1 := Lib.hid hn1; clear hn1
  have HD1 := Lib.hid (HR0.out.rd)
  have C2 := Lib.hid hb2
  have s2 := hb2.size
  go_wp2_with fail
  refine (eqPS_same _ _ _ ps HR1.out.rd (HD1.out.below C2.out (Nat.le_refl _)) (by omega)).mono ?_
  rintro x w3 ⟨rfl, hb3⟩
  have C3 := Lib.hid (C2.out.trans (hb3.mono s2))
  have s3 := hb3.size
  have HR3 := Lib.hid (HR1.out.below hb3 (Nat.le_refl _))
  clear hb2
  by_cases h0 : ps = []
  · have e0 := HN0.out.2 h0
    have e1 := HN1.out.2 h0
    subst e0
    subst e1
    go_wp2_with fail
    refine (mark_nil _).mono ?_
    rintro x w4 ⟨rfl, rfl⟩
    go_wp2_with fail
    refine (held_nil _).mono ?_
    rintro x w4 ⟨rfl, rfl⟩
    go_wp2_with fail
    refine (HI.out _ (HT.out.below (hb1.trans (C3.out.mono s1)) HT.out.pos)).mono ?_
    rintro x w5 ⟨v2, rfl, hr2, _, hb5⟩
    have HR2 := Lib.hid hr2; clear hr2
    have C5 := Lib.hid (C3.out.trans (hb5.mono (by omega)))
    have s5 := hb5.size
    go_wp2_with fail
    refine (eqPS_same _ _ _ ps HR2.out.rd (HD1.out.below C5.out (Nat.le_refl _)) (by omega)).mono ?_
    rintro x w6 ⟨rfl, hb6⟩
    have C6 := Lib.hid (C5.out.trans (hb6.mono (by omega)))
    go_wp2_with fail
    refine (held_nil _).mono ?_
    rintro x w7 ⟨rfl, rfl⟩
    go_wp2_with fail
    go_ret
    exact ⟨rfl, hb1.trans (C6.out.mono s1)⟩
  · have hl : 0 < ps.length := List.length_pos_iff.2 h0
    obtain ⟨b, cap, rfl, hB, hblt, _⟩ := HR3.out.form hl
    obtain ⟨n, hn⟩ : ∃ n, n = ps.length := ⟨_, rfl⟩
    have HR4 := HR3.out
    rw [← hn] at HR4 hl hlen ⊢
    have HR5 := Lib.hid HR4; clear HR4
    have HN := Lib.hid hn; clear hn
    go_wp2_with fail
    refine (mark_any _ _ _ _ _ _ HR5.out HN.out.symm hl (by omega)).mono ?_
    rintro x w4 ⟨qs, rfl, hq1, hq2, hq3, hg4⟩
    have HQ1 := Lib.hid hq1
    have HQ2 := Lib.hid hq2
    have HQ3 := Lib.hid hq3
    clear hq1 hq2 hq3
    have hb4 : Below w1.heap.size w3 w4 := below_of_grown hg4 hB (by omega)
    have C4 := Lib.hid (C3.out.trans hb4)
    have s4 := hb4.size
    clear hg4
    go_wp2_with fail
    refine (held_any _ _ _ _ _ qs HQ3.out HQ1.out hl (by omega) HQ2.out).mono ?_
    rintro x w5 ⟨rfl, rfl⟩
    have c9 : ¬ 3 * (n : Int) + 1 < 0 := by omega
    go_wp2_with fail
    refine (HI.out _ (HT.out.below (hb1.trans (C4.out.mono s1)) HT.out.pos)).mono ?_
    rintro x w5 ⟨v2, rfl, hr2, _, hb5⟩
    have HR2 := Lib.hid hr2; clear hr2
    have C5 := Lib.hid (C4.out.trans (hb5.mono (by omega)))
    have HQ5 := Lib.hid (HQ3.out.below hb5 (Nat.le_refl _))
    have s5 := hb5.size
    go_wp2_with fail
    refine (eqPS_same _ _ _ ps HR2.out.rd (HD1.out.below C5.out (Nat.le_refl _)) (by have := HN.out; omega)).mono ?_
    rintro x w6 ⟨rfl, hb6⟩
    have C6 := Lib.hid (C5.out.trans (hb6.mono (by omega)))
    have HQ6 := Lib.hid (HQ5.out.below hb6 (Nat.le_refl _))
    go_wp2_with fail
    refine (held_any _ _ _ _ _ qs HQ6.out HQ1.out hl (by omega) HQ2.out).mono ?_
    rintro x w7 ⟨rfl, rfl⟩
    go_wp2_with fail
    go_ret
    exact ⟨rfl, hb1.trans (C6.out.mono s1)⟩
end Go.Proofs.YtpbcfffhhdojmaaDoor
