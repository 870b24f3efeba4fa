/- Hedges: what a risk leaves, on both sides. -/
import Derived.Test.YtckekkfdkbekmaaAvTool
import Derived.Test.YtckekkfdkbekmaaAvCnt
namespace Go.Proofs.Ytckekkfdkbekmaa
open Go.RowKit
def Hg.okT (r : Int) (ts : List Int) : Bool := btw r (-1000000000) 1000000000 && (btw ts.length 1 3 && ts.all tlB)
def Hg.ok (r : Int) (ts cs : List Int) : Bool := Hg.okT r ts && (btw cs.length ts.length ts.length && cs.all cntB)
/-- What is left behind the first tools. -/
def Hg.left (r : Int) (ts cs : List Int) : Nat → Int
  | 0 => r
  | k + 1 => Hg.left r ts cs k - cs.getD k 0 * ts.getD k 0
def Hg.err (r : Int) (ts cs : List Int) : Int := if Hg.ok r ts cs = true then max (Hg.left r ts cs ts.length) (- Hg.left r ts cs ts.length) else -1
theorem Hg.no {r : Int} {ts cs : List Int} (h : Hg.ok r ts cs = false) : Hg.err r ts cs = -1 := if_neg (by rw [h]; simp)
theorem Hg.yes {r : Int} {ts cs : List Int} (h : Hg.ok r ts cs = true) : Hg.err r ts cs = max (Hg.left r ts cs ts.length) (- Hg.left r ts cs ts.length) := if_pos h
theorem prod6 {c t : Int} (c0 : -6 ≤ c) (c1 : c ≤ 6) (t0 : 1 ≤ t) (t1 : t ≤ 9999) : -59994 ≤ c * t ∧ c * t ≤ 59994 := by
  have a : c * t ≤ 6 * t := Int.mul_le_mul_of_nonneg_right c1 (by omega)
  have b : -6 * t ≤ c * t := Int.mul_le_mul_of_nonneg_right c0 (by omega)
  omega
theorem Hg.parts {r : Int} {ts cs : List Int} (h : Hg.ok r ts cs = true) : (-1000000000 ≤ r ∧ r ≤ 1000000000) ∧ (1 ≤ ts.length ∧ ts.length ≤ 3) ∧ cs.length = ts.length ∧ (∀ i, i < ts.length → 1 ≤ ts.getD i 0 ∧ ts.getD i 0 ≤ 9999) ∧ (∀ i, i < ts.length → -6 ≤ cs.getD i 0 ∧ cs.getD i 0 ≤ 6) := by
  unfold Hg.ok Hg.okT at h
  simp only [Bool.and_eq_true, btw_iff] at h
  obtain ⟨⟨hr, hl, ht⟩, hc, hcs⟩ := h
  refine ⟨hr, by omega, by omega, fun i hi => btw_iff.1 (allB_at 0 ht hi), fun i hi => btw_iff.1 (allB_at 0 hcs (by omega))⟩
theorem Hg.bd {r : Int} {ts cs : List Int} (h : Hg.ok r ts cs = true) : ∀ k : Nat, k ≤ ts.length → -1000000000 - 59994 * (k : Int) ≤ Hg.left r ts cs k ∧ Hg.left r ts cs k ≤ 1000000000 + 59994 * (k : Int)
  | 0, _ => by have := (Hg.parts h).1; unfold Hg.left; omega
  | k + 1, hk => by
    have ih := Hg.bd h k (by omega)
    obtain ⟨-, -, -, ht, hc⟩ := Hg.parts h
    have a := ht k (by omega)
    have b := hc k (by omega)
    have q := prod6 b.1 b.2 a.1 a.2
    unfold Hg.left
    omega
set_option maxHeartbeats 400000 in
theorem absB_any (n : Int) (w : World) (h0 : -1000000000000000000 ≤ n) (h1 : n ≤ 1000000000000000000) : Calls Try.prog 51 #[.int .i64 n] w fun e w' => e = .returned (.int .i64 (max n (-n))) ∧ w = w' := by
  obtain ⟨t, ht⟩ : ∃ t, t = max n (-n) := ⟨_, rfl⟩
  have fmax : ∀ W : World, (Builtin.max_ #[3, 3] 3 #[.int .i64 n, .int .i64 (-n)]).run Try.prog W = .ok (.int .i64 t) W := fun W => by rw [ht]; exact run_max2' _ _ _ _ W
  rw [← ht]
  clear ht
  go_enter Try.func51, Try.ntmps51
  go_wp2_with fail
  go_ret
  exact ⟨rfl, rfl⟩
set_option maxHeartbeats 400000 in
theorem distB_any (n : Int) (w : World) (h0 : -1000000000000000000 ≤ n) (h1 : n ≤ 1000000000000000000) : Calls Try.prog 67 #[.int .i64 n] w fun e w' => e = .returned (.int .i64 (max n (-n))) ∧ w = w' := by
  by_cases h : n < 0
  · have E := Lib.hid (show max n (-n) = -n by omega)
    go_enter Try.func67, Try.ntmps67
    go_wp2_with fail
    go_ret
    exact ⟨ret_int E.out.symm, rfl⟩
  · have E := Lib.hid (show max n (-n) = n by omega)
    go_enter Try.func67, Try.ntmps67
    go_wp2_with fail
    go_ret
    exact ⟨ret_int E.out.symm, rfl⟩
set_option maxHeartbeats 800000 in
theorem vhedge_any (r : Int) (w : World) (v : Value) (ts : List Int) (hv : R1o w v ts) (hm : ts.length ≤ 9223372036854775807) :
    Calls Try.prog 48 #[.int .i64 r, v] w fun e w' => e = .returned (.bool (Hg.okT r ts)) ∧ Below w.heap.size w w' := by
  have HX := Lib.hid (av_Tool w v ts 1 3 hv hm)
  obtain ⟨⟨a, c, rfl⟩, -⟩ := hv
  cases h0 : btw r (-1000000000) 1000000000 with
  | false =>
    have E := Lib.hid (show Hg.okT r ts = false by unfold Hg.okT; rw [h0]; rfl)
    go_enter Try.func48, Try.ntmps48
    go_wp2_with fail
    refine (vamountI_any _ _).mono ?_
    rintro e w1 ⟨rfl, rfl⟩
    rw [h0]
    go_wp2_with fail
    go_ret
    exact ⟨ret_bool E.out.symm, Below.refl _ _⟩
  | true =>
    have E := Lib.hid (show Hg.okT r ts = (btw ts.length 1 3 && ts.all tlB) by unfold Hg.okT; rw [h0]; rfl)
    go_enter Try.func48, Try.ntmps48
    go_wp2_with fail
    refine (vamountI_any _ _).mono ?_
    rintro e w1 ⟨rfl, rfl⟩
    rw [h0]
    go_wp2_with fail
    refine HX.out.mono ?_
    rintro e w1 ⟨rfl, hb⟩
    go_wp2_with fail
    go_ret
    exact ⟨ret_bool E.out.symm, hb⟩
set_option maxHeartbeats 800000 in
theorem svhedge_any (r : Int) (w : World) (v : Value) (ts : List Int) (hv : R1o w v ts) (hm : ts.length ≤ 9223372036854775807) :
    Calls Try.prog 52 #[.int .i64 r, v] w fun e w' => e = .returned (.bool (Hg.okT r ts)) ∧ w = w' := by
  have HX := Lib.hid (allIn_any w v ts 1 9999 hv hm)
  obtain ⟨⟨a, c, rfl⟩, -⟩ := hv
  cases h0 : btw r (-1000000000) 1000000000 with
  | false =>
    have E := Lib.hid (show Hg.okT r ts = false by unfold Hg.okT; rw [h0]; rfl)
    go_enter Try.func52, Try.ntmps52
    go_wp2_with fail
    refine (inRange_any _ _ _ _).mono ?_
    rintro e w1 ⟨rfl, rfl⟩
    rw [h0]
    go_wp2_with fail
    go_ret
    exact ⟨ret_bool E.out.symm, rfl⟩
  | true =>
    cases h1 : btw ts.length 1 3 with
    | false =>
      have E := Lib.hid (show Hg.okT r ts = false by unfold Hg.okT; rw [h0, h1]; rfl)
      go_enter Try.func52, Try.ntmps52
      go_wp2_with fail
      refine (inRange_any _ _ _ _).mono ?_
      rintro e w1 ⟨rfl, rfl⟩
      rw [h0]
      go_wp2_with fail
      refine (inRange_any _ _ _ _).mono ?_
      rintro e w1 ⟨rfl, rfl⟩
      rw [h1]
      go_wp2_with fail
      go_ret
      exact ⟨ret_bool E.out.symm, rfl⟩
    | true =>
      have E := Lib.hid (show Hg.okT r ts = (ts.all fun x => btw x 1 9999) by unfold Hg.okT; rw [h0, h1]; rfl)
      go_enter Try.func52, Try.ntmps52
      go_wp2_with fail
      refine (inRange_any _ _ _ _).mono ?_
      rintro e w1 ⟨rfl, rfl⟩
      rw [h0]
      go_wp2_with fail
      refine (inRange_any _ _ _ _).mono ?_
      rintro e w1 ⟨rfl, rfl⟩
      rw [h1]
      go_wp2_with fail
      refine HX.out.mono ?_
      rintro e w1 ⟨rfl, rfl⟩
      go_wp2_with fail
      go_ret
      exact ⟨ret_bool E.out.symm, rfl⟩
set_option maxRecDepth 8000 in
set_option maxHeartbeats 2000000 in
theorem hedge_any (r : Int) (w : World) (v u : Value) (ts cs : List Int) (hv : R1o w v ts) (hu : R1o w u cs) (hm : ts.length ≤ 9223372036854775807) (hm2 : cs.length ≤ 9223372036854775807) :
    Calls Try.prog 28 #[.int .i64 r, v, u] w fun e w' => e = .returned (.int .i64 (Hg.err r ts cs)) ∧ Below w.heap.size w w' := by
  have HV := Lib.hid hv
  have HU := Lib.hid hu
  obtain ⟨⟨a, c, rfl⟩, -⟩ := hv
  obtain ⟨⟨a2, c2, rfl⟩, -⟩ := hu
  cases h0 : Hg.okT r ts with
  | false =>
    have E := Lib.hid (Hg.no (r := r) (ts := ts) (cs := cs) (by unfold Hg.ok; rw [h0]; rfl))
    go_enter Try.func28, Try.ntmps28
    go_wp2_with fail
    refine (vhedge_any _ _ _ _ HV.out hm).mono ?_
    rintro e w1 ⟨rfl, hb⟩
    rw [h0]
    go_wp2_with fail
    go_ret
    exact ⟨ret_int E.out.symm, hb⟩
  | true =>
    cases h1 : (btw cs.length ts.length ts.length && cs.all cntB) with
    | false =>
      have E := Lib.hid (Hg.no (r := r) (ts := ts) (cs := cs) (by unfold Hg.ok; rw [h0, h1]; rfl))
      go_enter Try.func28, Try.ntmps28
      go_wp2_with fail
      refine (vhedge_any _ _ _ _ HV.out hm).mono ?_
      rintro e w1 ⟨rfl, hb⟩
      rw [h0]
      have HB := Lib.hid hb
      clear hb
      go_wp2_with fail
      refine (av_Cnt _ _ _ _ _ (HU.out.below HB.out (Nat.le_refl _)) hm2).mono ?_
      rw [h1]
      rintro e w2 ⟨rfl, hb2⟩
      go_wp2_with fail
      go_ret
      exact ⟨ret_int E.out.symm, HB.out.trans (hb2.mono HB.out.size)⟩
    | true =>
      have hok : Hg.ok r ts cs = true := by unfold Hg.ok; rw [h0, h1]; rfl
      have E := Lib.hid (Hg.yes hok)
      obtain ⟨-, ⟨l0, l1⟩, hcl, hT, hC⟩ := Hg.parts hok
      have HT := Lib.hid hT
      have HC := Lib.hid hC
      have HBd := Lib.hid (fun k hk => Hg.bd hok k hk)
      have HCL := Lib.hid hcl
      have HST := Lib.hid (show ∀ k, Hg.left r ts cs (k + 1) = Hg.left r ts cs k - cs.getD k 0 * ts.getD k 0 from fun _ => rfl)
      have H1 := Lib.hid h1
      clear hok hT hC hcl h1
      go_enter Try.func28, Try.ntmps28
      go_wp2_with fail
      refine (vhedge_any _ _ _ _ HV.out hm).mono ?_
      rintro e w1 ⟨rfl, hb⟩
      rw [h0]
      have HB := Lib.hid hb
      clear hb
      go_wp2_with fail
      refine (av_Cnt _ _ _ _ _ (HU.out.below HB.out (Nat.le_refl _)) hm2).mono ?_
      rw [H1.out]
      rintro e w2 ⟨rfl, hb2⟩
      have HB2 := Lib.hid (HB.out.trans (hb2.mono HB.out.size))
      have HV2 := Lib.hid (HV.out.below HB2.out (Nat.le_refl _)).2
      have HU2 := Lib.hid (HU.out.below HB2.out (Nat.le_refl _)).2
      clear hb2
      rw [HCL.out]
      go_wp2_with fail
      go_loop [0, 24] (fun o y => ∃ k : Nat, k ≤ ts.length ∧ y = .int .i64 k ∧ o = .int .i64 (Hg.left r ts cs k)) (fun _ y => ts.length - (intOf y).toNat)
      case atStart => exact ⟨0, Nat.zero_le _, rfl, rfl⟩
      case round =>
        obtain ⟨k, hk, rfl, rfl⟩ := hrel
        by_cases hlt : k < ts.length
        · obtain ⟨b, off, d', e, hbl, hc⟩ := HV2.out (by omega)
          simp only [Value.slice.injEq, true_and] at e
          obtain ⟨rfl, rfl⟩ := e
          obtain ⟨b3, off3, d3, e3, hbl3, hc3⟩ := HU2.out (by rw [HCL.out]; omega)
          rw [HCL.out] at e3 hc3
          simp only [Value.slice.injEq, true_and] at e3
          obtain ⟨rfl, rfl⟩ := e3
          have c0 := hc k hlt
          have c1 := hc3 k hlt
          clear hc hc3
          obtain ⟨t0, t1⟩ := HT.out k hlt
          obtain ⟨q0, q1⟩ := HC.out k hlt
          obtain ⟨p0, p1⟩ := prod6 q0 q1 t0 t1
          obtain ⟨s0, s1⟩ := HBd.out k (by omega)
          have HS := Lib.hid (HST.out k)
          generalize ts.getD k 0 = t at c0 t0 t1 p0 p1 HS
          generalize cs.getD k 0 = q at c1 q0 q1 p0 p1 HS
          generalize Hg.left r ts cs k = S at s0 s1 HS
          go_wp2_with fail
          go_round
          case rel => exact ⟨k + 1, by omega, by go_num, by rw [HS.out]⟩
          case measure => simp [intOf] <;> omega
        · obtain rfl : k = ts.length := by omega
          obtain ⟨s0, s1⟩ := HBd.out ts.length (Nat.le_refl _)
          generalize Hg.left r ts cs ts.length = S at *
          go_wp2_with fail
          refine (absB_any _ _ (by omega) (by omega)).mono ?_
          rintro e w3 ⟨rfl, rfl⟩
          go_wp2_with fail
          go_ret
          exact ⟨ret_int E.out.symm, HB2.out⟩
set_option maxRecDepth 8000 in
set_option maxHeartbeats 2000000 in
theorem shErr_any (r : Int) (w : World) (v u : Value) (ts cs : List Int) (hv : R1o w v ts) (hu : R1o w u cs) (hok : Hg.ok r ts cs = true) :
    Calls Try.prog 54 #[.int .i64 r, v, u] w fun e w' => e = .returned (.int .i64 (Hg.err r ts cs)) ∧ Below w.heap.size w w' := by
  have E := Lib.hid (Hg.yes hok)
  obtain ⟨-, ⟨l0, l1⟩, hcl, hT, hC⟩ := Hg.parts hok
  have HT := Lib.hid hT
  have HC := Lib.hid hC
  have HBd := Lib.hid (fun k hk => Hg.bd hok k hk)
  have HCL := Lib.hid hcl
  have HST := Lib.hid (show ∀ k, Hg.left r ts cs (k + 1) = Hg.left r ts cs k - cs.getD k 0 * ts.getD k 0 from fun _ => rfl)
  obtain ⟨⟨a, c, rfl⟩, h1⟩ := hv
  obtain ⟨⟨a2, c2, rfl⟩, h2⟩ := hu
  have HV2 := Lib.hid h1
  have HU2 := Lib.hid h2
  clear hok hT hC hcl h1 h2
  rw [HCL.out]
  go_enter Try.func54, Try.ntmps54
  go_wp2_with fail
  go_loopw [0, 7] (fun o y wr => ∃ k : Nat, k ≤ ts.length ∧ y = .int .i64 k ∧ o = .int .i64 (Hg.left r ts cs k) ∧ ∃ m, wr = w.drewN m) (fun _ y _ => ts.length - (intOf y).toNat)
  case atStart => exact ⟨0, Nat.zero_le _, rfl, rfl, 0, rfl⟩
  case round =>
    obtain ⟨k, hk, rfl, rfl, m, rfl⟩ := hrel
    by_cases hlt : k < ts.length
    · obtain ⟨b, off, d', e, hbl, hc⟩ := HV2.out (by omega)
      simp only [Value.slice.injEq, true_and] at e
      obtain ⟨rfl, rfl⟩ := e
      obtain ⟨b3, off3, d3, e3, hbl3, hc3⟩ := HU2.out (by rw [HCL.out]; omega)
      rw [HCL.out] at e3 hc3
      simp only [Value.slice.injEq, true_and] at e3
      obtain ⟨rfl, rfl⟩ := e3
      have c0 := hc k hlt
      have c1 := hc3 k hlt
      clear hc hc3
      obtain ⟨t0, t1⟩ := HT.out k hlt
      obtain ⟨q0, q1⟩ := HC.out k hlt
      obtain ⟨p0, p1⟩ := prod6 q0 q1 t0 t1
      obtain ⟨s0, s1⟩ := HBd.out k (by omega)
      have HS := Lib.hid (HST.out k)
      rw [Int.mul_comm] at HS p0 p1
      generalize ts.getD k 0 = t at c0 t0 t1 p0 p1 HS
      generalize cs.getD k 0 = q at c1 q0 q1 p0 p1 HS
      generalize Hg.left r ts cs k = S at s0 s1 HS
      have hki : (k : Int) < ts.length := by omega
      have W1 : IntKind.i64.wrap (t * q) = t * q := IntWalk.i64_in _ (by omega)
      have W2 : IntKind.i64.wrap (S - t * q) = S - t * q := IntWalk.i64_in _ (by omega)
      go_wp2_with fail
      go_quiet (fail)
      go_wp2_with fail
      go_roundw
      case rel => exact ⟨k + 1, by omega, by go_num, by rw [HS.out], _, (by first | exact World.drewN_drewN _ _ _ | rfl)⟩
      case measure => simp [intOf] <;> omega
    · obtain rfl : k = ts.length := by omega
      obtain ⟨s0, s1⟩ := HBd.out ts.length (Nat.le_refl _)
      generalize Hg.left r ts cs ts.length = S at *
      go_wp2_with fail
      refine (distB_any _ _ (by omega) (by omega)).mono ?_
      rintro e w3 ⟨rfl, rfl⟩
      go_wp2_with fail
      go_ret
      exact ⟨ret_int E.out.symm, belowD (Below.refl _ _) _⟩
set_option maxRecDepth 8000 in
set_option maxHeartbeats 2000000 in
theorem shedge_any (r : Int) (w : World) (v u : Value) (ts cs : List Int) (hv : R1o w v ts) (hu : R1o w u cs) (hm : ts.length ≤ 9223372036854775807) (hm2 : cs.length ≤ 9223372036854775807) :
    Calls Try.prog 29 #[.int .i64 r, v, u] w fun e w' => e = .returned (.int .i64 (Hg.err r ts cs)) ∧ Below w.heap.size w w' := by
  have HV := Lib.hid hv
  have HU := Lib.hid hu
  obtain ⟨⟨a, c, rfl⟩, -⟩ := hv
  obtain ⟨⟨a2, c2, rfl⟩, -⟩ := hu
  cases h0 : Hg.okT r ts with
  | false =>
    have E := Lib.hid (Hg.no (r := r) (ts := ts) (cs := cs) (by unfold Hg.ok; rw [h0]; rfl))
    go_enter Try.func29, Try.ntmps29
    go_wp2_with fail
    refine (svhedge_any _ _ _ _ HV.out hm).mono ?_
    rintro e w1 ⟨rfl, rfl⟩
    rw [h0]
    go_wp2_with fail
    go_ret
    exact ⟨ret_int E.out.symm, Below.refl _ _⟩
  | true =>
    by_cases hl : cs.length = ts.length
    · have hbt : btw cs.length ts.length ts.length = true := btw_t (by omega) (by omega)
      have hne : ((cs.length : Int) != (ts.length : Int)) = false := by simp [hl]
      cases h1 : cs.all cntB with
      | false =>
        have E := Lib.hid (Hg.no (r := r) (ts := ts) (cs := cs) (by unfold Hg.ok; rw [h0, h1, hbt]; rfl))
        have H1 := Lib.hid (show (cs.all fun x => btw x (-6) 6) = false from h1)
        clear hl hbt h1
        go_enter Try.func29, Try.ntmps29
        go_wp2_with fail
        refine (svhedge_any _ _ _ _ HV.out hm).mono ?_
        rintro e w1 ⟨rfl, rfl⟩
        rw [h0]
        go_wp2_with fail
        refine (allIn_any _ _ _ _ _ HU.out hm2).mono ?_
        rw [H1.out]
        rintro e w1 ⟨rfl, rfl⟩
        go_wp2_with fail
        go_ret
        exact ⟨ret_int E.out.symm, Below.refl _ _⟩
      | true =>
        have HOK := Lib.hid (show Hg.ok r ts cs = true by unfold Hg.ok; rw [h0, h1, hbt]; rfl)
        have H1 := Lib.hid (show (cs.all fun x => btw x (-6) 6) = true from h1)
        clear hl hbt h1
        go_enter Try.func29, Try.ntmps29
        go_wp2_with fail
        refine (svhedge_any _ _ _ _ HV.out hm).mono ?_
        rintro e w1 ⟨rfl, rfl⟩
        rw [h0]
        go_wp2_with fail
        refine (allIn_any _ _ _ _ _ HU.out hm2).mono ?_
        rw [H1.out]
        rintro e w1 ⟨rfl, rfl⟩
        go_wp2_with fail
        refine (shErr_any _ _ _ _ _ _ HV.out HU.out HOK.out).mono ?_
        rintro e w2 ⟨rfl, hb⟩
        go_wp2_with fail
        go_ret
        exact ⟨rfl, hb⟩
    · have hbt : btw cs.length ts.length ts.length = false := btw_f (by omega)
      have hne : ((cs.length : Int) != (ts.length : Int)) = true := by simp; omega
      have E := Lib.hid (Hg.no (r := r) (ts := ts) (cs := cs) (by unfold Hg.ok; rw [h0, hbt]; rfl))
      clear hl hbt
      go_enter Try.func29, Try.ntmps29
      go_wp2_with fail
      refine (svhedge_any _ _ _ _ HV.out hm).mono ?_
      rintro e w1 ⟨rfl, rfl⟩
      rw [h0]
      go_wp2_with fail
      go_ret
      exact ⟨ret_int E.out.symm, Below.refl _ _⟩
end Go.Proofs.Ytckekkfdkbekmaa
