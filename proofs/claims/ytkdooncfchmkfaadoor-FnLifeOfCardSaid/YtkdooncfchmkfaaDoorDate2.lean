/- The walks of the calendar's functions, second part. -/
import Derived.Test.YtkdooncfchmkfaaDoorDate
import Derived.Deep.QuietTactic
import Derived.BigQuiet
import Derived.StillTailTactics
namespace Go.Proofs.YtkdooncfchmkfaaDoor
open Go.RowKit
theorem quiet_left {P : Program} {f : FuncId} {args : Array Value} {w : World} {n : Nat} {v : Value}
    (h : Calls P f args (w.drewN n) fun e w' => e = .returned v ∧ w.drewN n = w') : Calls P f args (w.drewN n) fun e w'' => e = .returned v ∧ ∃ m, w'' = w.drewN m :=
  h.mono fun _ _ ⟨he, hm⟩ => ⟨he, n, hm.symm⟩
theorem quiet_add_left {P : Program} {f : FuncId} {args : Array Value} {w : World} {a n : Nat} {v : Value}
    (h : Calls P f args (w.drewN (a + n)) fun e w' => e = .returned v ∧ w.drewN (a + n) = w') :
    Calls P f args (w.drewN (a + n)) fun e w'' => e = .returned v ∧ ∃ m, w'' = w.drewN (a + m) :=
  h.mono fun _ _ ⟨he, hm⟩ => ⟨he, n, hm.symm⟩
theorem Tab.drewN {w : World} (h : Tab w) (n : Nat) : Tab (w.drewN n) := h
theorem below_drewN {B : Nat} {a w : World} (h : Below B a w) (n : Nat) : Below B a (w.drewN n) := ⟨h.os, h.tape, h.output, h.size, h.block⟩
theorem bcell {W w1 : World} {B : Nat} (hb : Below B W w1) : (∀ b o, b < B → w1.cell? ⟨b, o, none⟩ = W.cell? ⟨b, o, none⟩) ∧ (∀ b o, b < B → w1.frozen? ⟨b, o, none⟩ = W.frozen? ⟨b, o, none⟩) :=
  ⟨fun b o h => hb.cell (p := ⟨b, o, none⟩) h, fun b o h => hb.frozen (p := ⟨b, o, none⟩) h⟩
theorem flipW {P : Program} {f : FuncId} {args : Array Value} {w : World} {v : Value}
    (h : Calls P f args w fun e w' => e = .returned v ∧ w = w') : Calls P f args w fun e w' => e = .returned v ∧ w' = w :=
  h.mono fun _ _ ⟨he, hm⟩ => ⟨he, hm.symm⟩
theorem still_tail {P : Program} {id : Nat} {Q : Exit → Act → World → Prop} {a : Act} {w : World} {l : List Oper} (n : Nat) (hm : P.follows .mixedOrders = true) (hB : Region.lexTailB .any l.toArray n = true)
    (h : wpStill P l.toArray w.drew (fun a' => wpList P l.toArray Q (l.drop n) a' w.drew) (l.take n) a) : (Code.region id l.toArray true).wp P Q a w := wp_region_still_tail n hm hB h
def dinV (y m : Int) : Int := if btw y 1990 2089 = true ∧ btw m 1 12 = true then Cal.dm y m else -1
theorem implDaysIn_any (y m : Int) (w : World) (hT : Tab w) :
    Calls Tryd.prog 106 #[.int .i64 y, .int .i64 m] w fun e w' => e = .returned (.int .i64 (dinV y m)) ∧ w = w' := by
  by_cases h : btw y 1990 2089 = true ∧ btw m 1 12 = true
  · unfold dinV; rw [if_pos h]
    obtain ⟨a, b⟩ := h
    rw [btw_iff] at a b
    exact implDaysIn_yes y m w hT a.1 a.2 b.1 b.2
  · unfold dinV; rw [if_neg h]
    refine implDaysIn_no y m w ?_
    cases ha : btw y 1990 2089 <;> cases hb : btw m 1 12 <;> simp_all
theorem vldB_din (y m d : Int) : btw d 1 (dinV y m) = vldB y m d := by
  unfold vldB dinV
  cases ha : btw y 1990 2089 <;> cases hb : btw m 1 12 <;> simp
  all_goals exact btw_f (by omega)
set_option maxHeartbeats 400000 in
theorem validDate_any (y m d : Int) (w : World) (hT : Tab w) :
    Calls Tryd.prog 109 #[.agg #[.int .i64 y, .int .i64 m, .int .i64 d]] w fun e w' => e = .returned (.bool (vldB y m d)) ∧ Below w.heap.size w w' := by
  have H := Lib.hid (vldB_din y m d)
  have HT := Lib.hid hT; clear hT
  go_enter Tryd.func109, Tryd.ntmps109
  go_wp2_with fail
  go_quiet ((first | (go_at_call 32; exact quiet_left (between_any _ _ _ _)) | (go_at_call 106; exact quiet_left (implDaysIn_any _ _ _ ((HT.out.alloc _).drewN _)))))
  go_wp2_with fail
  go_ret
  exact ⟨ret_bool H.out, below_drewN ((Below.refl _ _).alloc (Nat.le_refl _) _) _⟩
def dayV (y m d : Int) : Int := if vldB y m d = true then Cal.num y m d else -1
set_option maxHeartbeats 400000 in
theorem dayOf_no (y m d : Int) (w : World) (hT : Tab w) (hv : vldB y m d = false) :
    Calls Tryd.prog 105 #[.agg #[.int .i64 y, .int .i64 m, .int .i64 d]] w fun e w' => e = .returned (.int .i64 (-1)) ∧ Below w.heap.size w w' := by
  have HT := Lib.hid hT; clear hT
  go_enter Tryd.func105, Tryd.ntmps105
  go_wp2_with (go_at_call 109; refine (validDate_any _ _ _ _ (HT.out.alloc _)).mono ?_; rintro e w1 ⟨rfl, hb1⟩)
  go_ret
  exact ⟨rfl, ((Below.refl _ _).alloc (Nat.le_refl _) _).trans (hb1.mono (by simp))⟩
set_option maxHeartbeats 400000 in
theorem dayOf_yes (y m d : Int) (w : World) (hT : Tab w) (hv : vldB y m d = true) :
    Calls Tryd.prog 105 #[.agg #[.int .i64 y, .int .i64 m, .int .i64 d]] w fun e w' => e = .returned (.int .i64 (Cal.num y m d)) ∧ Below w.heap.size w w' := by
  have hp := hT.pos
  have HT := Lib.hid hT; clear hT
  have HV := Lib.hid hv
  go_enter Tryd.func105, Tryd.ntmps105
  go_wp2_with (go_at_call 109; refine (validDate_any _ _ _ _ (HT.out.alloc _)).mono ?_; rintro e w1 ⟨rfl, hb1⟩)
  have hsz := hb1.size
  simp only [World.size_alloc] at hsz
  obtain ⟨hc, hf⟩ := bcell hb1
  have c0 : w1.cell? ⟨w.heap.size, 0, none⟩ = some (.int .i64 y) := by rw [hc _ _ (by simp)]; simp
  have c1 : w1.cell? ⟨w.heap.size, 1, none⟩ = some (.int .i64 m) := by rw [hc _ _ (by simp)]; simp
  have c2 : w1.cell? ⟨w.heap.size, 2, none⟩ = some (.int .i64 d) := by rw [hc _ _ (by simp)]; simp
  have HT1 := Lib.hid ((HT.out.alloc (.cells #[.int .i64 y, .int .i64 m, .int .i64 d] 90)).below hb1 (by simp <;> omega))
  clear hc hf
  have hr : Cal.vld y m d := vldB_iff.1 HV.out
  obtain ⟨a1, a2, a3, a4, a5, a6⟩ := hr
  have hd := Cal.dm_bd y m
  have hm := Cal.ms_bd y a3 (by omega)
  have hy : 0 ≤ Cal.ys y ∧ Cal.ys y ≤ 40000 := ⟨by have := Cal.ys_mono a1; rw [Cal.ys_1990] at this; exact this, by have := Cal.ys_mono (show y ≤ 2090 by omega); rw [Cal.ys_2090] at this; omega⟩
  obtain ⟨hm1, hm2⟩ := hm
  obtain ⟨hy1, hy2⟩ := hy
  clear hv
  go_quiet ((first | (go_at_call 107; exact quiet_left (yearStart_any _ _ (by omega) (by omega))) | (go_at_call 108; exact quiet_left (daysBeforeMonth_any _ _ _ (HT1.out.drewN _) (by omega) (by omega) (by omega) (by omega)))))
  go_wp2_with fail
  go_ret
  exact ⟨ret_int (by unfold Cal.num; rfl), below_drewN (((Below.refl _ _).alloc (Nat.le_refl _) _).trans (hb1.mono (by simp))) _⟩

theorem dayOf_any (y m d : Int) (w : World) (hT : Tab w) :
    Calls Tryd.prog 105 #[.agg #[.int .i64 y, .int .i64 m, .int .i64 d]] w fun e w' => e = .returned (.int .i64 (dayV y m d)) ∧ Below w.heap.size w w' := by
  cases h : vldB y m d with
  | true => rw [show dayV y m d = Cal.num y m d by unfold dayV; rw [if_pos h]]; exact dayOf_yes y m d w hT h
  | false => rw [show dayV y m d = -1 by unfold dayV; rw [if_neg (by rw [h]; decide)]]; exact dayOf_no y m d w hT h
def dayB (n : Int) : Bool := btw n 0 36524
set_option maxHeartbeats 400000 in
theorem validDay_any (n : Int) (w : World) :
    Calls Tryd.prog 85 #[.int .i64 n] w fun e w' => e = .returned (.bool (dayB n)) ∧ w = w' := by
  go_enter Tryd.func85, Tryd.ntmps85
  go_wp2_with (go_at_call 32; refine (between_any _ _ _ _).mono ?_; rintro e w' ⟨rfl, rfl⟩)
  go_ret
  exact ⟨rfl, rfl⟩
set_option maxHeartbeats 400000 in
theorem dateOf_no (n : Int) (w : World) (hd : dayB n = false) :
    Calls Tryd.prog 104 #[.int .i64 n] w fun e w' => e = .returned (.tuple #[.agg #[.int .i64 0, .int .i64 0, .int .i64 0], .bool false]) ∧ Below w.heap.size w w' := by
  go_enter Tryd.func104, Tryd.ntmps104
  go_wp2_with (go_at_call 85; refine (validDay_any _ _).mono ?_; rintro e w' ⟨rfl, rfl⟩)
  exact bodyPost_ret (v := .tuple #[.agg #[.int .i64 0, .int .i64 0, .int .i64 0], .bool false]) (by simp [results, Tryd.results104, go_sem]) rfl ⟨rfl, (Below.refl _ _).alloc (Nat.le_refl _) _⟩
set_option maxHeartbeats 400000 in
theorem dateOf_yes (n : Int) (w : World) (hT : Tab w) (hd : dayB n = true) :
    Calls Tryd.prog 104 #[.int .i64 n] w fun e w' => e = .returned (.tuple #[.agg #[.int .i64 (Cal.Y n), .int .i64 (Cal.M n), .int .i64 (Cal.D n)], .bool true]) ∧ Below w.heap.size w w' := by
  have hb := btw_iff.1 hd
  obtain ⟨n0, n1⟩ := hb
  have HT := Lib.hid hT; clear hT
  go_enter Tryd.func104, Tryd.ntmps104
  go_wp2_with (go_at_call 85; refine (validDay_any _ _).mono ?_; rintro e w' ⟨rfl, rfl⟩)
  go_loop [4] (fun t => ∃ y : Int, 1990 ≤ y ∧ y ≤ 2089 ∧ Cal.ys y ≤ n ∧ t = .int .i64 y) (fun t => (2089 - intOf t).toNat)
  case atStart => exact ⟨_, by omega, by omega, Cal.ys_guess n0 n1, rfl⟩
  case round =>
    obtain ⟨y, hy1, hy2, hy3, rfl⟩ := hrel
    by_cases hc : Cal.ys (y + 1) ≤ n
    · have hy4 : y < 2089 := by
        rcases Int.lt_or_le y 2089 with h | h
        · exact h
        · have : y = 2089 := by omega
          subst this
          have : Cal.ys (2089 + 1) = 36525 := Cal.ys_2090
          omega
      go_wp2_with (go_at_call 107; refine (yearStart_any _ _ (by omega) (by omega)).mono ?_; rintro e w' ⟨rfl, rfl⟩)
      go_round
      case rel => exact ⟨y + 1, by omega, by omega, hc, rfl⟩
      case measure => simp [intOf]; omega
    · have hs := Cal.ys_succ y
      have hl := Cal.lp_01 y
      obtain ⟨l0, l1⟩ := hl
      have HS := Lib.hid hs; clear hs
      have hlt : n < Cal.ys (y + 1) := by omega
      have HTw := Lib.hid (HT.out.alloc (.cells #[.int .i64 0, .int .i64 0, .int .i64 0] 90))
      have hys : 0 ≤ Cal.ys y := by have := Cal.ys_mono hy1; rw [Cal.ys_1990] at this; exact this
      go_wp2_with (go_at_call 107; refine (yearStart_any _ _ (by omega) (by omega)).mono ?_; rintro e w' ⟨rfl, rfl⟩)
      go_loop [6] (fun t => ∃ m : Int, 1 ≤ m ∧ m ≤ 12 ∧ Cal.ms y m ≤ n - Cal.ys y ∧ t = .int .i64 m) (fun t => (12 - intOf t).toNat)
      case atStart => exact ⟨1, by omega, by omega, by rw [Cal.ms_1]; omega, rfl⟩
      case round =>
        obtain ⟨m, hm1, hm2, hm3, rfl⟩ := hrel
        by_cases hcm : Cal.ms y (m + 1) ≤ n - Cal.ys y
        · have hm4 : m < 12 := by
            rcases Int.lt_or_le m 12 with h | h
            · exact h
            · have : m = 12 := by omega
              subst this
              have : Cal.ms y (12 + 1) = 365 + Cal.lp y := Cal.ms_13 y
              have := HS.out
              omega
          go_wp2_with (go_at_call 108; refine (daysBeforeMonth_any _ _ _ HTw.out (by omega) (by omega) (by omega) (by omega)).mono ?_; rintro e w' ⟨rfl, rfl⟩)
          go_round
          case rel => exact ⟨m + 1, by omega, by omega, hcm, rfl⟩
          case measure => simp [intOf]; omega
        · have hfin : Cal.Y n = y ∧ Cal.M n = m ∧ Cal.D n = n - Cal.ys y - Cal.ms y m + 1 := Cal.dt_eq n0 n1 ⟨hy3, hlt, hm1, hm2, hm3, by omega, rfl⟩
          have HF := Lib.hid hfin; clear hfin
          have hm0 := (Cal.ms_bd y hm1 (by omega)).1
          go_wp2_with (go_at_call 108; refine (daysBeforeMonth_any _ _ _ HTw.out (by omega) (by omega) (by omega) (by omega)).mono ?_; rintro e w' ⟨rfl, rfl⟩)
          refine bodyPost_ret (v := .tuple #[.agg #[.int .i64 y, .int .i64 m, .int .i64 (n - Cal.ys y - Cal.ms y m + 1)], .bool true]) (by simp [results, Tryd.results104, go_sem]) rfl ⟨?_, ?_⟩
          · rw [HF.out.1, HF.out.2.1, HF.out.2.2]
          · exact (Below.refl _ _).alloc (Nat.le_refl _) _
noncomputable def addV (n k : Int) : Int :=
  if dayB n = true ∧ btw k (-600) 600 = true then
    dayV ((12 * Cal.Y n + Cal.M n - 1 + k) / 12) ((12 * Cal.Y n + Cal.M n - 1 + k) % 12 + 1)
      (min (Cal.D n) (dinV ((12 * Cal.Y n + Cal.M n - 1 + k) / 12) ((12 * Cal.Y n + Cal.M n - 1 + k) % 12 + 1)))
  else -1
set_option maxHeartbeats 400000 in
theorem addMonths_no1 (n k : Int) (w : World) (hd : dayB n = false) :
    Calls Tryd.prog 100 #[.int .i64 n, .int .i64 k] w fun e w' => e = .returned (.int .i64 (-1)) ∧ Below w.heap.size w w' := by
  go_enter Tryd.func100, Tryd.ntmps100
  go_wp2_with (go_at_call 104; refine (dateOf_no _ _ hd).mono ?_; rintro e w1 ⟨rfl, hb1⟩)
  go_ret
  exact ⟨rfl, hb1.alloc hb1.size _⟩
set_option maxHeartbeats 400000 in
theorem addMonths_no2 (n k : Int) (w : World) (hT : Tab w) (hd : dayB n = true) (hk : btw k (-600) 600 = false) :
    Calls Tryd.prog 100 #[.int .i64 n, .int .i64 k] w fun e w' => e = .returned (.int .i64 (-1)) ∧ Below w.heap.size w w' := by
  have HT := Lib.hid hT; clear hT
  go_enter Tryd.func100, Tryd.ntmps100
  go_wp2_with (first | (go_at_call 104; refine (dateOf_yes _ _ HT.out hd).mono ?_; rintro e w1 ⟨rfl, hb1⟩) | (go_at_call 32; refine (between_any _ _ _ _).mono ?_; rintro e w' ⟨rfl, rfl⟩))
  go_ret
  exact ⟨rfl, hb1.alloc hb1.size _⟩
set_option maxRecDepth 8000 in
set_option maxHeartbeats 1000000 in
theorem addMonths_yes (n k : Int) (w : World) (hT : Tab w) (hd : dayB n = true) (hk : btw k (-600) 600 = true) :
    Calls Tryd.prog 100 #[.int .i64 n, .int .i64 k] w fun e w' => e = .returned (.int .i64 (addV n k)) ∧ Below w.heap.size w w' := by
  have HT := Lib.hid hT; clear hT
  have k1 := btw_iff.1 hk
  have n1 := btw_iff.1 hd
  have y1 := Cal.Y_bd n1.1 n1.2
  have m1 := Cal.M_bd n1.1 n1.2
  have d1 := Cal.D_bd n1.1 n1.2
  go_enter Tryd.func100, Tryd.ntmps100
  go_wp2_with (first | (go_at_call 104; refine (dateOf_yes _ _ HT.out hd).mono ?_; rintro e w1 ⟨rfl, hb1⟩) | (go_at_call 32; refine (between_any _ _ _ _).mono ?_; rintro e w' ⟨rfl, rfl⟩))
  have HT2 := Lib.hid ((HT.out.below hb1 HT.out.pos).alloc (.cells #[.int .i64 (Cal.Y n), .int .i64 (Cal.M n), .int .i64 (Cal.D n)] 90))
  have hfin : addV n k = dayV ((12 * Cal.Y n + Cal.M n - 1 + k) / 12) ((12 * Cal.Y n + Cal.M n - 1 + k) % 12 + 1) (min (Cal.D n) (dinV ((12 * Cal.Y n + Cal.M n - 1 + k) / 12) ((12 * Cal.Y n + Cal.M n - 1 + k) % 12 + 1))) := by unfold addV; rw [if_pos ⟨hd, hk⟩]
  have HF := Lib.hid hfin
  clear k1 n1 hk hd hfin
  refine still_tail 9 (by kernel_rfl) (by kernel_rfl) ?_
  simp only [List.take_succ_cons, List.take_zero, List.drop_succ_cons, List.drop_zero]
  repeat still_step
  still_call (flipW (implDaysIn_any _ _ _ HT2.out))
  repeat still_step
  refine wpStill_nil ?_
  go_wp2_with (go_at_call 105; refine (dayOf_any _ _ _ _ (by exact HT2.out)).mono ?_; rintro e w2 ⟨rfl, hb2⟩)
  all_goals
    go_ret
    refine ⟨ret_int ?_, ((hb1.alloc hb1.size _).drew).trans (hb2.mono ?_)⟩
    · rw [HF.out]; congr 1; omega
    · have := hb1.size; simp; omega
theorem addV_no1 {n k : Int} (h : dayB n = false) : addV n k = -1 := by unfold addV; rw [if_neg (by simp [h])]
theorem addV_no2 {n k : Int} (h : btw k (-600) 600 = false) : addV n k = -1 := by unfold addV; rw [if_neg (by simp [h])]
theorem addMonths_any (n k : Int) (w : World) (hT : Tab w) :
    Calls Tryd.prog 100 #[.int .i64 n, .int .i64 k] w fun e w' => e = .returned (.int .i64 (addV n k)) ∧ Below w.heap.size w w' := by
  cases hd : dayB n with
  | false => rw [addV_no1 hd]; exact addMonths_no1 n k w hd
  | true =>
    cases hk : btw k (-600) 600 with
    | false => rw [addV_no2 hk]; exact addMonths_no2 n k w hT hd hk
    | true => exact addMonths_yes n k w hT hd hk
end Go.Proofs.YtkdooncfchmkfaaDoor
