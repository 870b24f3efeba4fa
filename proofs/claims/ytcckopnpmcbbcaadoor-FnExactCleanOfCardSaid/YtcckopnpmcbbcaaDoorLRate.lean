/- The law of payments and rates. -/
import Derived.Test.YtcckopnpmcbbcaaDoorLFlow
namespace Go.Proofs.YtcckopnpmcbbcaaDoor
open Go.RowKit
theorem near_up {a b d : Int} (hd : 1 ≤ d) (h : a ≤ b) : Rt.near a d ≤ Rt.near b d := by unfold Rt.near; exact Int.ediv_le_ediv (by omega) (by omega)
theorem near_0 {d : Int} (hd : 1 ≤ d) : Rt.near 0 d = 0 := by unfold Rt.near; exact Int.ediv_eq_zero_of_lt (by omega) (by omega)
theorem whole_up {m r : Int} (m0 : 1 ≤ m) : wholeV m r ≤ wholeV m (r + 1) := by
  unfold wholeV
  refine near_up (by decide) ?_
  rw [Int.mul_add, Int.add_mul]
  omega
theorem cpn_up {m r f t : Int} (z : Bool) (m0 : 1 ≤ m) (f1 : f < t) (hA : addV t (-m) < t) : cpnV m r f t z ≤ cpnV m (r + 1) f t z := by
  unfold cpnV
  have hw := whole_up (r := r) m0
  split
  · exact hw
  · have h1 : fullF m f t < t := by unfold fullF; split <;> omega
    exact near_up (by omega) (Int.mul_le_mul_of_nonneg_right hw (by omega))
theorem cpn_0 {m f t : Int} (z : Bool) (f1 : f < t) (hA : addV t (-m) < t) : cpnV m 0 f t z = 0 := by
  have hw : wholeV m 0 = 0 := by unfold wholeV; rw [show 10000 * (0 : Int) * m = 0 by simp]; exact near_0 (by decide)
  unfold cpnV
  rw [hw]
  split
  · rfl
  · have h1 : fullF m f t < t := by unfold fullF; split <;> omega
    rw [Int.zero_mul]; exact near_0 (by omega)
theorem perL_rate {s e m r r' : Int} (h : btw r 0 3000 = true) (h' : btw r' 0 3000 = true) : perL s e m r = perL s e m r' := by unfold perL; rw [if_pos h, if_pos h']
theorem flo_at {s e m r : Int} {i : Nat} (hi : i < (perL s e m r).length) : (floL s e m r).getD i f0 = (((perL s e m r).getD i p0).2.1, cpnV m r ((perL s e m r).getD i p0).1 ((perL s e m r).getD i p0).2.1 ((perL s e m r).getD i p0).2.2 + (if i = (perL s e m r).length - 1 then 10000 else 0)) := by
  have hcl := cpnL_len s e m r
  have hg : ∀ j, j < (perL s e m r).length → (cpnL s e m r).getD j f0 = (((perL s e m r).getD j p0).2.1, cpnV m r ((perL s e m r).getD j p0).1 ((perL s e m r).getD j p0).2.1 ((perL s e m r).getD j p0).2.2) := fun j hj => by
    rw [show cpnL s e m r = (perL s e m r).map fun p => (p.2.1, cpnV m r p.1 p.2.1 p.2.2) from rfl, map_at _ (perL s e m r) p0 f0 hj]
  unfold floL faced
  rw [set_at _ _ _ _ (by omega), hcl]
  by_cases c : i = (perL s e m r).length - 1
  · rw [if_pos c, if_pos c, ← c, hg i hi]
  · rw [if_neg c, if_neg c, hg i hi, Int.add_zero]
theorem per_ne {s e m r : Int} (h : floL s e m r ≠ []) : perL s e m r ≠ [] := fun k => by
  have hl := floL_len s e m r
  rw [k] at hl
  exact h (List.eq_nil_of_length_eq_zero hl)
theorem flo_rate {s e m r : Int} (h : floL s e m r ≠ []) : (0 ≤ r ∧ r ≤ 3000) ∧ (r ≠ 3000 → (floL s e m (r + 1)).length = (floL s e m r).length ∧ ∀ i, i < (floL s e m r).length → ((floL s e m r).getD i f0).2 ≤ ((floL s e m (r + 1)).getD i f0).2 ∧ ((floL s e m (r + 1)).getD i f0).1 = ((floL s e m r).getD i f0).1) := by
  obtain ⟨⟨m0, m1⟩, ⟨r0, r1⟩, -, hpf⟩ := per_facts (per_ne h)
  refine ⟨⟨r0, r1⟩, fun h3 => ?_⟩
  have hp : perL s e m (r + 1) = perL s e m r := perL_rate (btw_t (by omega) (by omega)) (btw_t r0 r1)
  have hl := floL_len s e m r
  have hl2 := floL_len s e m (r + 1)
  rw [hp] at hl2
  refine ⟨by omega, fun i hi => ?_⟩
  rw [flo_at (r := r) (by omega), flo_at (r := r + 1) (by rw [hp]; omega), hp]
  obtain ⟨f, t, z, hg, a0, a1, a2, hA⟩ := hpf i (by omega)
  rw [hg]
  dsimp only
  have := cpn_up (r := r) z m0 a1 hA
  exact ⟨by omega, rfl⟩
theorem sum_0 {fs : List Flo} {n : Nat} (h : ∀ i, i < n → (fs.getD i f0).2 = if i = n - 1 then 10000 else 0) : ∀ i, i < n → sumTo fs i = 0
  | 0, _ => rfl
  | i + 1, hi => by
    simp only [sumTo]
    rw [sum_0 h i (by omega), h i (by omega), if_neg (by omega)]
    rfl
theorem flo_zero {s e m r : Int} (h : floL s e m r ≠ []) : totV s e m 0 = 10000 := by
  obtain ⟨⟨m0, m1⟩, ⟨r0, r1⟩, -, hpf⟩ := per_facts (per_ne h)
  have hp : perL s e m 0 = perL s e m r := perL_rate (by decide) (btw_t r0 r1)
  have hl := floL_len s e m r
  have hl2 := floL_len s e m 0
  rw [hp] at hl2
  have hn : (floL s e m r).length ≠ 0 := fun k => h (List.eq_nil_of_length_eq_zero k)
  unfold totV
  rw [if_neg (by omega)]
  obtain ⟨k, hk⟩ : ∃ k, (floL s e m 0).length = k + 1 := ⟨(floL s e m 0).length - 1, by omega⟩
  have hv : ∀ i, i < k + 1 → ((floL s e m 0).getD i f0).2 = if i = k + 1 - 1 then 10000 else 0 := fun i hi => by
    rw [flo_at (r := 0) (by rw [hp]; omega), hp, show (perL s e m r).length = k + 1 by omega]
    obtain ⟨f, t, z, hg, a0, a1, a2, hA⟩ := hpf i (by omega)
    rw [hg]
    dsimp only
    rw [cpn_0 z a1 hA, Int.zero_add]
  rw [hk]
  simp only [sumTo]
  rw [sum_0 hv k (by omega), hv k (by omega)]
  simp
set_option maxRecDepth 8000 in
set_option maxHeartbeats 4000000 in
theorem lawFlowsOfRate (a : Option Addr) (len cap : Nat) (zs : List Int) (w : World) (h : IsRow .u8 w a len cap zs) (hT : Tab w) :
    Calls Tryd.prog 5 #[.slice a len cap] w fun e w' => e = .returned (.bool true) ∧ Below w.heap.size w w' := by
  have H := Lib.hid h; clear h
  have HT := Lib.hid hT; clear hT
  by_cases hl : 1048576 < (len : Int)
  · go_enter Tryd.func5, Tryd.ntmps5
    go_wp2_with fail
    go_ret
    exact ⟨rfl, Below.refl _ _⟩
  · have hl' := decide_eq_false hl
    clear hl
    go_enter Tryd.func5, Tryd.ntmps5
    go_wp2_with fail
    refine (drawFlowsOf_any _ _ _ _ _ H.out).mono ?_
    rintro x w0 ⟨s, e, m, r, rfl, hs, he, hm, hr, hB0⟩
    have HS := Lib.hid (sFlowsOf_any s e m r)
    have HF := Lib.hid (flowsOf_any s e m r)
    have hl40 : (floL s e m r).length ≤ 40 := by rw [floL_len]; exact perL_len s e m r
    have HBD := Lib.hid (fun i hi => @flo_bd s e m r i hi)
    have HRT := Lib.hid (@flo_rate s e m r)
    have HF2 := Lib.hid (flowsOf_any s e m (r + 1))
    have HZ0 := Lib.hid (@flo_zero s e m r)
    have HTT := Lib.hid (totalOf_any s e m 0)
    have HT0 := Lib.hid (HT.out.below hB0 HT.out.pos)
    have HB := Lib.hid (hB0.alloc hB0.size (.cells #[.int .i64 s, .int .i64 e, .int .i64 m, .int .i64 r] 24))
    have KB := Lib.hid (Blk.new w0 #[.int .i64 s, .int .i64 e, .int .i64 m, .int .i64 r] 24)
    have HTA := Lib.hid (HT0.out.alloc (.cells #[.int .i64 s, .int .i64 e, .int .i64 m, .int .i64 r] 24))
    obtain ⟨fs, hfs⟩ : ∃ fs, fs = floL s e m r := ⟨_, rfl⟩
    rw [← hfs] at HF HS hl40 HBD HRT HZ0
    clear hfs
    go_wp2_with fail
    refine (HF.out _ HTA.out).mono ?_
    rintro x w1 ⟨v1, rfl, hr1, hn1, hb1⟩
    have HR1 := Lib.hid hr1.rd
    have HN1 := Lib.hid hn1
    have K1 := Lib.hid (KB.out.below hb1 KB.out.lt)
    have HB1 := Lib.hid (HB.out.trans (hb1.mono HB.out.size))
    clear hb1 hr1 hn1
    obtain ⟨c0, c1, c2, c3⟩ := K1.out.four
    go_wp2_with fail
    clear c0 c1 c2 c3
    refine (HS.out _).mono ?_
    rintro x w2 ⟨v2, rfl, hr2, -, hb2⟩
    have HR2 := Lib.hid hr2.rd
    have HR12 := Lib.hid (HR1.out.below hb2 (Nat.le_refl _))
    have K2 := Lib.hid (K1.out.below hb2 K1.out.lt)
    have HB2 := Lib.hid (HB1.out.trans (hb2.mono HB1.out.size))
    clear hb2 hr2
    go_wp2_with fail
    refine (eqF_same _ _ _ fs HR12.out HR2.out (by omega)).mono ?_
    rintro x w3 ⟨rfl, hb3⟩
    have HR13 := Lib.hid (HR12.out.below hb3 (Nat.le_refl _))
    have K3 := Lib.hid (K2.out.below hb3 K2.out.lt)
    have HB3 := Lib.hid (HB2.out.trans (hb3.mono HB2.out.size))
    clear hb3
    obtain ⟨c0, c1, c2, c3⟩ := K3.out.four
    by_cases hz : fs = []
    · have z1 := HN1.out.2 hz
      subst z1
      go_wp2_with fail
      clear c0 c1 c2 c3
      refine (HS.out _).mono ?_
      rintro x w4 ⟨v4, rfl, hr4, -, hb4⟩
      have HR4 := Lib.hid hr4.rd
      have HR14 := Lib.hid (HR13.out.below hb4 (Nat.le_refl _))
      have HB4 := Lib.hid (HB3.out.trans (hb4.mono HB3.out.size))
      clear hb4 hr4
      go_wp2_with fail
      refine (eqF_same _ _ _ fs HR14.out HR4.out (by omega)).mono ?_
      rintro x w5 ⟨rfl, hb5⟩
      have HB5 := HB4.out.trans (hb5.mono HB4.out.size)
      go_wp2_with fail
      go_ret
      exact ⟨rfl, HB5⟩
    · have hbt := HRT.out hz
      obtain ⟨⟨r0, r1⟩, hrate⟩ := hbt
      have HRATE := Lib.hid hrate
      have HTZ := Lib.hid (HZ0.out hz)
      clear hrate
      obtain ⟨n, hn⟩ : ∃ n, n = fs.length := ⟨_, rfl⟩
      have n1 : 1 ≤ n := by
        rcases Nat.eq_zero_or_pos n with h | h
        · exact absurd (List.eq_nil_of_length_eq_zero (by omega)) hz
        · exact h
      obtain ⟨b, c, rfl, hbl, hc⟩ := HR13.out.2 (by omega)
      have HC := Lib.hid hc
      clear hc hz
      have nz : ((n : Int) == 0) = false := by simp; omega
      by_cases hr3 : r = 3000
      · have e3 : (r == 3000) = true := by simp [hr3]
        have HN := Lib.hid hn
        rw [← hn]
        rw [← hn] at hl40
        clear hn hr3
        go_wp2_with fail
        clear c0 c1 c2 c3
        refine (HS.out _).mono ?_
        rintro x w4 ⟨v4, rfl, hr4, -, hb4⟩
        have HR4 := Lib.hid hr4.rd
        have HR14 := HR13.out.below hb4 (Nat.le_refl _)
        rw [← HN.out] at HR14
        have HR15 := Lib.hid HR14
        have HB4 := Lib.hid (HB3.out.trans (hb4.mono HB3.out.size))
        clear hb4 hr4 HR14
        go_wp2_with fail
        refine (eqF_same _ _ _ fs HR15.out HR4.out (by rw [← HN.out]; omega)).mono ?_
        rintro x w5 ⟨rfl, hb5⟩
        have HB5 := HB4.out.trans (hb5.mono HB4.out.size)
        go_wp2_with fail
        go_ret
        exact ⟨rfl, HB5⟩
      · have e3 : (r == 3000) = false := by simp [hr3]
        obtain ⟨hlen2, hgrow2⟩ := HRATE.out hr3
        have HG2 := Lib.hid hgrow2
        have HL2 := Lib.hid hlen2
        have HT3 := Lib.hid (HTA.out)
        rw [← hn] at HC hl40 ⊢
        have HN := Lib.hid hn
        clear hgrow2 hlen2 hn
        go_wp2_with fail
        clear c0 c1 c2 c3
        refine (HF2.out _ (HT.out.below HB3.out HT.out.pos)).mono ?_
        rintro x w4 ⟨v4, rfl, hr4, -, hb4⟩
        have hr4' := hr4.rd
        obtain ⟨bm, cm, rfl, hbm, hcm⟩ := hr4'.2 (by rw [HL2.out, ← HN.out]; omega)
        rw [HL2.out, ← HN.out] at hcm ⊢
        have HCM := Lib.hid hcm
        have hbl4 := Nat.lt_of_lt_of_le hbl hb4.size
        have HC4 : Hid (∀ i, i < n → w4.cell? ⟨b, i * 2, none⟩ = some (.int .i64 (fs.getD i f0).1) ∧ w4.cell? ⟨b, i * 2 + 1, none⟩ = some (.int .i64 (fs.getD i f0).2)) := Lib.hid (fun i hi => ⟨(hb4.cell (p := ⟨b, i * 2, none⟩) hbl).trans (HC.out i hi).1, (hb4.cell (p := ⟨b, i * 2 + 1, none⟩) hbl).trans (HC.out i hi).2⟩)
        have K4 := Lib.hid (K3.out.below hb4 K3.out.lt)
        have HB4 := Lib.hid (HB3.out.trans (hb4.mono HB3.out.size))
        have HG3 : Hid (∀ i, i < n → (fs.getD i f0).2 ≤ ((floL s e m (r + 1)).getD i f0).2 ∧ ((floL s e m (r + 1)).getD i f0).1 = (fs.getD i f0).1) := Lib.hid (fun i hi => HG2.out i (by rw [← HN.out]; exact hi))
        clear hb4 hr4 hr4' hcm HG2
        obtain ⟨gs, hgs⟩ : ∃ gs, gs = floL s e m (r + 1) := ⟨_, rfl⟩
        rw [← hgs] at HCM HG3
        clear hgs
        go_wp2_with fail
        go_loopw [6] (fun x wr => ∃ i : Nat, i ≤ n ∧ x = .int .i64 i ∧ Below w4.heap.size w4 wr) (fun x _ => n - (intOf x).toNat)
        case atStart => exact ⟨0, Nat.zero_le _, rfl, Below.refl _ _⟩
        case round =>
          obtain ⟨i, hi, rfl, hb⟩ := hrel
          by_cases hlt : i < n
          · obtain ⟨d0, d1⟩ := HC4.out i hlt
            obtain ⟨g0, g1⟩ := HCM.out i hlt
            obtain ⟨hle, hde⟩ := HG3.out i hlt
            replace d0 := (hb.cell (p := ⟨b, i * 2, none⟩) hbl4).trans d0
            replace d1 := (hb.cell (p := ⟨b, i * 2 + 1, none⟩) hbl4).trans d1
            replace g0 := (hb.cell (p := ⟨bm, i * 2, none⟩) hbm).trans g0
            replace g1 := (hb.cell (p := ⟨bm, i * 2 + 1, none⟩) hbm).trans g1
            rw [hde] at g0
            generalize (fs.getD i f0).1 = D at d0 g0
            generalize (fs.getD i f0).2 = A at d1 hle
            generalize (gs.getD i f0).2 = A' at g1 hle
            have e1 : decide (A' < A) = false := decide_eq_false (by omega)
            have e2 : (D != D) = false := by simp
            have e4 : decide ((n : Int) ≤ (i : Int)) = false := decide_eq_false (by omega)
            have e5 : decide (n ≤ i) = false := decide_eq_false (by omega)
            clear hle hde
            go_wp2_with fail
            go_quiet (fail)
            go_wp2_with fail
            go_roundw
            case rel => exact ⟨i + 1, by omega, by go_num, below_drewN hb _⟩
            case measure => simp [intOf] <;> omega
          · obtain rfl : i = n := by omega
            obtain ⟨c0, c1, c2, c3⟩ := (K4.out.below hb K4.out.lt).four
            have HTr := Lib.hid (HT.out.below (HB4.out.trans (hb.mono HB4.out.size)) HT.out.pos)
            have hsz := hb.size
            go_wp2_with fail
            refine (HTT.out _ HTr.out).mono ?_
            rintro x w5 ⟨rfl, hb5⟩
            rw [HTZ.out]
            have HB5 := Lib.hid ((HB4.out.trans (hb.mono HB4.out.size)).trans (hb5.mono (by have := HB4.out.size; omega)))
            go_wp2_with fail
            go_ret
            exact ⟨ret_bool (by simp), HB5.out⟩
end Go.Proofs.YtcckopnpmcbbcaaDoor
