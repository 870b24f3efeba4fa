/- Totals, on both sides; the exact law. -/
import Derived.Test.YtcckopnpmcbbcaaDoorFlowX
namespace Go.Proofs.YtcckopnpmcbbcaaDoor
open Go.RowKit
/-- The sum of the first i amounts. -/
def sumTo (fs : List Flo) : Nat → Int
  | 0 => 0
  | i + 1 => sumTo fs i + (fs.getD i f0).2
noncomputable def totV (s e m r : Int) : Int := if (floL s e m r).length = 0 then -1 else sumTo (floL s e m r) (floL s e m r).length
theorem flo_bd (s e m r : Int) {i : Nat} (hi : i < (floL s e m r).length) : 0 ≤ ((floL s e m r).getD i f0).2 ∧ ((floL s e m r).getD i f0).2 ≤ 130000000 := by
  have hl := floL_len s e m r
  have hz : perL s e m r ≠ [] := fun h => by rw [h] at hl; have hl0 : (floL s e m r).length = 0 := hl; omega
  obtain ⟨⟨m0, m1⟩, ⟨r0, r1⟩, -, hpf⟩ := per_facts hz
  have hc : ∀ j, j < (perL s e m r).length → 0 ≤ ((cpnL s e m r).getD j f0).2 ∧ ((cpnL s e m r).getD j f0).2 ≤ 120000000 := fun j hj => by
    obtain ⟨f, t, z, hg, h0, h1, h2, hA⟩ := hpf j hj
    rw [show cpnL s e m r = (perL s e m r).map fun p => (p.2.1, cpnV m r p.1 p.2.1 p.2.2) from rfl, map_at _ (perL s e m r) p0 f0 hj, hg]
    exact cpn_bd z m0 m1 r0 r1 h0 h1 h2 hA
  unfold floL faced
  have hcl := cpnL_len s e m r
  rw [set_at _ _ _ _ (by omega)]
  by_cases c : i = (cpnL s e m r).length - 1
  · rw [if_pos c]
    have := hc ((cpnL s e m r).length - 1) (by omega)
    dsimp only
    omega
  · rw [if_neg c]
    have := hc i (by omega)
    omega
theorem sumTo_bd {fs : List Flo} {n : Nat} (h : ∀ i, i < n → 0 ≤ (fs.getD i f0).2 ∧ (fs.getD i f0).2 ≤ 130000000) : ∀ i, i ≤ n → 0 ≤ sumTo fs i ∧ sumTo fs i ≤ 130000000 * i
  | 0, _ => by simp [sumTo]
  | i + 1, hi => by
    have := sumTo_bd h i (by omega)
    have := h i (by omega)
    simp only [sumTo]
    omega
set_option maxRecDepth 8000 in
set_option maxHeartbeats 1000000 in
theorem totalOf_any (s e m r : Int) (w : World) (hT : Tab w) :
    Calls Tryd.prog 26 #[.agg #[.int .i64 s, .int .i64 e, .int .i64 m, .int .i64 r]] w fun x w' => x = .returned (.int .i64 (totV s e m r)) ∧ Below w.heap.size w w' := by
  have HT := Lib.hid hT; clear hT
  have HI := Lib.hid (flowsOf_any s e m r)
  have HV : Hid (totV s e m r = if (floL s e m r).length = 0 then -1 else sumTo (floL s e m r) (floL s e m r).length) := Lib.hid rfl
  have hlen : (floL s e m r).length ≤ 40 := by rw [floL_len]; exact perL_len s e m r
  have HBD := Lib.hid (fun i hi => @flo_bd s e m r i hi)
  have HT1 := Lib.hid (HT.out.alloc (.cells #[.int .i64 s, .int .i64 e, .int .i64 m, .int .i64 r] 24))
  have HB := Lib.hid ((Below.refl w.heap.size w).alloc (Nat.le_refl _) (.cells #[.int .i64 s, .int .i64 e, .int .i64 m, .int .i64 r] 24))
  obtain ⟨fs, hfs⟩ : ∃ fs, fs = floL s e m r := ⟨_, rfl⟩
  rw [← hfs] at HI HV hlen HBD
  clear hfs
  obtain ⟨n, hn⟩ : ∃ n, n = fs.length := ⟨_, rfl⟩
  rw [← hn] at HV hlen
  have HN := Lib.hid hn
  by_cases hz : n = 0
  · have E := Lib.hid (show totV s e m r = -1 by rw [HV.out, if_pos hz])
    go_enter Tryd.func26, Tryd.ntmps26
    go_wp2_with fail
    refine (HI.out _ HT1.out).mono ?_
    rintro x w1 ⟨v, rfl, hr, hnil, hb⟩
    have hv := hnil.2 (List.eq_nil_of_length_eq_zero (by omega))
    subst hv
    have HB1 := Lib.hid (HB.out.trans (hb.mono (by simp)))
    clear hb hr hnil
    go_wp2_with fail
    go_ret
    exact ⟨ret_int E.out.symm, HB1.out⟩
  · have E := Lib.hid (show totV s e m r = sumTo fs n by rw [HV.out, if_neg hz])
    have nz : ((n : Int) == 0) = false := by simp; omega
    go_enter Tryd.func26, Tryd.ntmps26
    go_wp2_with fail
    refine (HI.out _ HT1.out).mono ?_
    rintro x w1 ⟨v, rfl, hr, hnil, hb⟩
    obtain ⟨b, c, rfl, hbl, hc⟩ := hr.rd.2 (by omega)
    have HC := Lib.hid hc
    have HB1 := Lib.hid (HB.out.trans (hb.mono (by simp)))
    clear hb hr hnil hc
    rw [← hn] at HC ⊢
    clear hn
    go_wp2_with fail
    have HS := Lib.hid (sumTo_bd (fs := fs) (n := n) (fun i hi => HBD.out i (by rw [← HN.out]; exact hi)))
    go_loopw [4, 14] (fun a x wr => ∃ i : Nat, i ≤ n ∧ x = .int .i64 i ∧ a = .int .i64 (sumTo fs i) ∧ Below w1.heap.size w1 wr) (fun _ x _ => n - (intOf x).toNat)
    case atStart => exact ⟨0, Nat.zero_le _, rfl, rfl, Below.refl _ _⟩
    case round =>
      obtain ⟨i, hi, rfl, rfl, hbr⟩ := hrel
      obtain ⟨s0, s1⟩ := HS.out i hi
      have hszr := hbr.size
      by_cases hlt : i < n
      · obtain ⟨c0, c1⟩ := HC.out i hlt
        replace c0 := (hbr.cell (p := ⟨b, i * 2, none⟩) hbl).trans c0
        replace c1 := (hbr.cell (p := ⟨b, i * 2 + 1, none⟩) hbl).trans c1
        obtain ⟨d0, d1⟩ := HBD.out i (by rw [← HN.out]; exact hlt)
        have HSS := Lib.hid (show sumTo fs (i + 1) = sumTo fs i + (fs.getD i f0).2 from rfl)
        obtain ⟨p, hp⟩ : ∃ p, p = fs.getD i f0 := ⟨_, rfl⟩
        rw [← hp] at c0 c1 d0 d1 HSS
        clear hp
        obtain ⟨u, v⟩ := p
        dsimp only at c0 c1 d0 d1
        obtain ⟨A, hA⟩ : ∃ A, A = sumTo fs i := ⟨_, rfl⟩
        rw [← hA] at HSS s0 s1 ⊢
        clear hA
        go_wp2_with fail
        go_roundw
        case rel => exact ⟨i + 1, by omega, by go_num, by rw [HSS.out], hbr.alloc hszr _⟩
        case measure => simp [intOf] <;> omega
      · obtain rfl : i = n := by omega
        go_wp2_with fail
        go_ret
        exact ⟨ret_int E.out.symm, HB1.out.trans (hbr.mono HB1.out.size)⟩
set_option maxRecDepth 8000 in
set_option maxHeartbeats 1000000 in
theorem sTotalOf_any (s e m r : Int) (w : World) :
    Calls Tryd.prog 28 #[.agg #[.int .i64 s, .int .i64 e, .int .i64 m, .int .i64 r]] w fun x w' => x = .returned (.int .i64 (totV s e m r)) ∧ Below w.heap.size w w' := by
  have HVB := Lib.hid (sVBond_any s e m r)
  have HV : Hid (totV s e m r = if (floL s e m r).length = 0 then -1 else sumTo (floL s e m r) (floL s e m r).length) := Lib.hid rfl
  have hlen : (floL s e m r).length ≤ 40 := by rw [floL_len]; exact perL_len s e m r
  have HBD := Lib.hid (fun i hi => @flo_bd s e m r i hi)
  have HFW := Lib.hid (sFlows_any s e m r)
  have HB := Lib.hid ((Below.refl w.heap.size w).alloc (Nat.le_refl _) (.cells #[.int .i64 s, .int .i64 e, .int .i64 m, .int .i64 r] 24))
  have HKB := Lib.hid (Blk.new w #[.int .i64 s, .int .i64 e, .int .i64 m, .int .i64 r] 24)
  have HSZ := Lib.hid (show w.heap.size < (w.alloc (.cells #[.int .i64 s, .int .i64 e, .int .i64 m, .int .i64 r] 24)).heap.size by simp)
  have hl := floL_len s e m r
  have hvb : vbB s e m r = decide (0 < (floL s e m r).length) := by rw [hl]; rfl
  have hz' : (floL s e m r).length ≠ 0 → perL s e m r ≠ [] := fun h k => by rw [k] at hl; exact h hl
  obtain ⟨fs, hfs⟩ : ∃ fs, fs = floL s e m r := ⟨_, rfl⟩
  unfold FlowsL at HFW
  rw [← hfs] at HV hlen HBD hvb hz' HFW
  clear hfs hl
  obtain ⟨n, hn⟩ : ∃ n, n = fs.length := ⟨_, rfl⟩
  rw [← hn] at HV hlen hvb hz'
  have HN := Lib.hid hn
  by_cases hz : n = 0
  · have E := Lib.hid (show totV s e m r = -1 by rw [HV.out, if_pos hz])
    rw [hvb, decide_eq_false (by omega)] at HVB
    clear hvb hz'
    go_enter Tryd.func28, Tryd.ntmps28
    go_wp2_with fail
    refine (HVB.out _).mono ?_
    rintro x w1 ⟨rfl, hb⟩
    have HB1 := Lib.hid (HB.out.trans (hb.mono (Nat.le_of_lt HSZ.out)))
    clear hb
    go_wp2_with fail
    go_ret
    exact ⟨ret_int E.out.symm, HB1.out⟩
  · have E := Lib.hid (show totV s e m r = sumTo fs n by rw [HV.out, if_neg hz])
    rw [hvb, decide_eq_true (by omega)] at HVB
    have HZ := Lib.hid (hz' hz)
    have HS := Lib.hid (sumTo_bd (fs := fs) (n := n) (fun i hi => HBD.out i (by rw [← HN.out]; exact hi)))
    clear hvb hz'
    go_enter Tryd.func28, Tryd.ntmps28
    go_wp2_with fail
    refine (HVB.out _).mono ?_
    rintro x w0 ⟨rfl, hb⟩
    obtain ⟨k0, k1, k2, k3⟩ := (HKB.out.below hb HSZ.out).four
    have HB0 := Lib.hid (HB.out.trans (hb.mono (Nat.le_of_lt HSZ.out)))
    clear hb
    go_wp2_with fail
    refine (HFW.out _ HZ.out).mono ?_
    rintro x w1 ⟨v, rfl, hr, hb⟩
    obtain ⟨b, c, rfl, hbl, hc⟩ := hr.1.rd.2 (by omega)
    have HC := Lib.hid hc
    have HB1 := Lib.hid (HB0.out.trans (hb.mono HB0.out.size))
    clear hb hr hc k0 k1 k2 k3
    rw [← hn] at HC ⊢
    clear hn
    go_wp2_with fail
    go_loopw [3, 5] (fun a x wr => ∃ i : Nat, i ≤ n ∧ x = .int .i64 i ∧ a = .int .i64 (sumTo fs i) ∧ Below w1.heap.size w1 wr) (fun _ x _ => n - (intOf x).toNat)
    case atStart => exact ⟨0, Nat.zero_le _, rfl, rfl, Below.refl _ _⟩
    case round =>
      obtain ⟨i, hi, rfl, rfl, hbr⟩ := hrel
      obtain ⟨s0, s1⟩ := HS.out i hi
      have hszr := hbr.size
      by_cases hlt : i < n
      · obtain ⟨c0, c1⟩ := HC.out i hlt
        replace c0 := (hbr.cell (p := ⟨b, i * 2, none⟩) hbl).trans c0
        replace c1 := (hbr.cell (p := ⟨b, i * 2 + 1, none⟩) hbl).trans c1
        obtain ⟨d0, d1⟩ := HBD.out i (by rw [← HN.out]; exact hlt)
        have HSS := Lib.hid (show sumTo fs (i + 1) = sumTo fs i + (fs.getD i f0).2 from rfl)
        obtain ⟨p, hp⟩ : ∃ p, p = fs.getD i f0 := ⟨_, rfl⟩
        rw [← hp] at c0 c1 d0 d1 HSS
        clear hp
        obtain ⟨u, v⟩ := p
        dsimp only at c0 c1 d0 d1
        obtain ⟨A, hA⟩ : ∃ A, A = sumTo fs i := ⟨_, rfl⟩
        rw [← hA] at HSS s0 s1 ⊢
        clear hA
        go_wp2_with fail
        go_roundw
        case rel => exact ⟨i + 1, by omega, by go_num, by rw [HSS.out], hbr⟩
        case measure => simp [intOf] <;> omega
      · obtain rfl : i = n := by omega
        go_wp2_with fail
        go_ret
        exact ⟨ret_int E.out.symm, HB1.out.trans (hbr.mono HB1.out.size)⟩
set_option maxRecDepth 8000 in
set_option maxHeartbeats 1000000 in
theorem exTotalOf (s e m r : Int) (w : World) (hT : Tab w) :
    Calls Tryd.prog 9 #[.agg #[.int .i64 s, .int .i64 e, .int .i64 m, .int .i64 r]] w fun x w' => x = .returned (.bool true) ∧ Below w.heap.size w w' := by
  have HT := Lib.hid hT; clear hT
  have kB := Blk.new w #[.int .i64 s, .int .i64 e, .int .i64 m, .int .i64 r] 36
  have hB := (Below.refl w.heap.size w).alloc (Nat.le_refl _) (.cells #[.int .i64 s, .int .i64 e, .int .i64 m, .int .i64 r] 36)
  have KB := Lib.hid kB
  obtain ⟨c0, c1, c2, c3⟩ := kB.four
  clear kB
  have hne : (totV s e m r != totV s e m r) = false := by simp
  go_enter Tryd.func9, Tryd.ntmps9
  go_wp2_with fail
  clear c0 c1 c2 c3
  refine (toBond_any _ _ _ _ _).mono ?_
  rintro x w1 ⟨rfl, hb1⟩
  have C1 := Lib.hid (hB.trans (hb1.mono hB.size))
  have K1 := Lib.hid (KB.out.below hb1 KB.out.lt)
  clear hb1
  go_wp2_with fail
  refine (sTotalOf_any _ _ _ _ _).mono ?_
  rintro x w2 ⟨rfl, hb2⟩
  have C2 := Lib.hid (C1.out.trans (hb2.mono C1.out.size))
  have K2 := K1.out.below hb2 K1.out.lt
  clear hb2
  have lt2 := K2.lt
  obtain ⟨c0, c1, c2, c3⟩ := K2.four
  go_wp2_with fail
  clear c0 c1 c2 c3
  refine (toBond_any _ _ _ _ _).mono ?_
  rintro x w3 ⟨rfl, hb3⟩
  have C3 := Lib.hid (C2.out.trans (hb3.mono C2.out.size))
  clear hb3
  go_wp2_with fail
  refine (totalOf_any _ _ _ _ _ (HT.out.below C3.out HT.out.pos)).mono ?_
  rintro x w4 ⟨rfl, hb4⟩
  have C4 := C3.out.trans (hb4.mono C3.out.size)
  go_wp2_with fail
  go_ret
  exact ⟨rfl, C4⟩
end Go.Proofs.YtcckopnpmcbbcaaDoor
