/- The law of totals. -/
import Derived.Test.YtcckopnpmcbbcaaDoorLBond
namespace Go.Proofs.YtcckopnpmcbbcaaDoor
open Go.RowKit
theorem sumTo_low {fs : List Flo} {n : Nat} (h : ∀ i, i < n → 0 ≤ (fs.getD i f0).2) : ∀ i, i ≤ n → 0 ≤ sumTo fs i
  | 0, _ => by simp [sumTo]
  | i + 1, hi => by
    have := sumTo_low h i (by omega)
    have := h i (by omega)
    simp only [sumTo]
    omega
theorem flo_top {s e m r : Int} (n : Nat) (hn : n = (floL s e m r).length) (h1 : 1 ≤ n) : 10000 ≤ sumTo (floL s e m r) n := by
  have hb := sumTo_low (fs := floL s e m r) (n := n) (fun i hi => (flo_bd s e m r (i := i) (by omega)).1) (n - 1) (by omega)
  have hlast : 10000 ≤ ((floL s e m r).getD (n - 1) f0).2 := by
    have hl := floL_len s e m r
    have hz : perL s e m r ≠ [] := fun h => by rw [h] at hl; have hl0 : (floL s e m r).length = 0 := hl; omega
    obtain ⟨⟨m0, m1⟩, ⟨r0, r1⟩, -, hpf⟩ := per_facts hz
    have hcl := cpnL_len s e m r
    unfold floL faced
    rw [set_at _ _ _ _ (by omega), if_pos (by omega)]
    obtain ⟨f, t, z, hg, h0, h1', h2, hA⟩ := hpf ((cpnL s e m r).length - 1) (by omega)
    dsimp only
    have : ((cpnL s e m r).getD ((cpnL s e m r).length - 1) f0).2 = cpnV m r f t z := by
      rw [show cpnL s e m r = (perL s e m r).map fun p => (p.2.1, cpnV m r p.1 p.2.1 p.2.2) from rfl, List.length_map, map_at _ (perL s e m r) p0 f0 (by omega), show (perL s e m r).length - 1 = (cpnL s e m r).length - 1 by omega, hg]
    rw [this]
    have := cpn_bd z m0 m1 r0 r1 h0 h1' h2 hA
    omega
  obtain ⟨k, rfl⟩ : ∃ k, n = k + 1 := ⟨n - 1, by omega⟩
  simp only [sumTo]
  rw [show k + 1 - 1 = k from rfl] at hb hlast
  omega
set_option maxHeartbeats 1000000 in
theorem drawTotalOf_any (w : World) (a : Option Addr) (len cap : Nat) (zs : List Int) (h : IsRow .u8 w a len cap zs) :
    Calls Tryd.prog 27 #[.slice a len cap] w (DBn w) := by
  have H := Lib.hid h; clear h
  have HB0 := Lib.hid ((Below.refl w.heap.size w).alloc (Nat.le_refl _) (.cells #[.int .i64 0, .int .i64 0, .int .i64 0, .int .i64 0] 24))
  have KR0 := Lib.hid (Blk.new w #[.int .i64 0, .int .i64 0, .int .i64 0, .int .i64 0] 24)
  have H1 := Lib.hid (isRow_below' H.out HB0.out)
  go_enter Tryd.func27, Tryd.ntmps27
  go_wp2_with fail
  refine (newReader_any _ _ _ _ _ H1.out).mono ?_
  rintro x w1 ⟨g, rfl, hg, hr, hb⟩
  have KR1 := Lib.hid (KR0.out.below hb KR0.out.lt)
  have HB1 := Lib.hid (HB0.out.trans (hb.mono HB0.out.size))
  have hg0 : w.heap.size < g := Nat.lt_of_lt_of_le KR0.out.lt hg
  clear hb
  go_wp2_with fail
  refine (anyBond_any _ _ _ hr (by omega)).mono ?_
  rintro x w2 ⟨s, e, m, r, rfl, hs, he, hm, hr', hrd, hg2⟩
  have KR2 := Lib.hid (KR1.out.grown hg2 (by omega))
  have HB2 := Lib.hid (HB1.out.grown hg2 HB1.out.size (fun j hj => by injection hj with hj; omega))
  obtain ⟨x0, x1, x2, x3⟩ := KR2.out.four
  obtain ⟨z0, z1, z2, z3⟩ := fourFz KR2.out
  clear hg2
  go_wp2_with fail
  have k2 := put4_blk KR2.out s e m r
  obtain ⟨r0', r1', r2', r3'⟩ := k2.four
  unfold put4 at r0' r1' r2' r3'
  refine bodyPost_ret (v := .agg #[.int .i64 s, .int .i64 e, .int .i64 m, .int .i64 r]) (by simp [results, Tryd.results27, go_sem, r0', r1', r2', r3']) rfl ⟨s, e, m, r, rfl, hs, he, hm, hr', ?_⟩
  exact (((HB2.out.setCell (Nat.le_refl _) _).setCell (Nat.le_refl _) _).setCell (Nat.le_refl _) _).setCell (Nat.le_refl _) _
set_option maxHeartbeats 2000000 in
theorem lawTotalOf (a : Option Addr) (len cap : Nat) (zs : List Int) (w : World) (h : IsRow .u8 w a len cap zs) (hT : Tab w) :
    Calls Tryd.prog 6 #[.slice a len cap] w fun e w' => e = .returned (.bool true) ∧ Below w.heap.size w w' := by
  have H := Lib.hid h; clear h
  have HT := Lib.hid hT; clear hT
  by_cases hl : 1048576 < (len : Int)
  · go_enter Tryd.func6, Tryd.ntmps6
    go_wp2_with fail
    go_ret
    exact ⟨rfl, Below.refl _ _⟩
  · have hl' := decide_eq_false hl
    clear hl
    go_enter Tryd.func6, Tryd.ntmps6
    go_wp2_with fail
    refine (drawTotalOf_any _ _ _ _ _ H.out).mono ?_
    rintro x w0 ⟨s, e, m, r, rfl, hs, he, hm, hr, hB0⟩
    have HI := Lib.hid (totalOf_any s e m r)
    have HS := Lib.hid (sTotalOf_any s e m r)
    have HF := Lib.hid (flowsOf_any s e m r)
    have hV : totV s e m r = if (floL s e m r).length = 0 then -1 else sumTo (floL s e m r) (floL s e m r).length := rfl
    have hl40 : (floL s e m r).length ≤ 40 := by rw [floL_len]; exact perL_len s e m r
    have HBD := Lib.hid (fun i hi => @flo_bd s e m r i hi)
    have HTOP := Lib.hid (@flo_top s e m r)
    have HT0 := Lib.hid (HT.out.below hB0 HT.out.pos)
    have HB := Lib.hid (hB0.alloc hB0.size (.cells #[.int .i64 s, .int .i64 e, .int .i64 m, .int .i64 r] 24))
    have KB := Lib.hid (Blk.new w0 #[.int .i64 s, .int .i64 e, .int .i64 m, .int .i64 r] 24)
    have HTA := Lib.hid (HT0.out.alloc (.cells #[.int .i64 s, .int .i64 e, .int .i64 m, .int .i64 r] 24))
    obtain ⟨fs, hfs⟩ : ∃ fs, fs = floL s e m r := ⟨_, rfl⟩
    rw [← hfs] at HF hV hl40 HBD HTOP
    clear hfs
    obtain ⟨n, hn⟩ : ∃ n, n = fs.length := ⟨_, rfl⟩
    rw [← hn] at hV hl40
    have HN := Lib.hid hn
    clear hn
    have hS := sumTo_bd (fs := fs) (n := n) (fun i hi => HBD.out i (by rw [← HN.out]; exact hi))
    have HSS := Lib.hid hS
    obtain ⟨T, hT⟩ : ∃ T, T = totV s e m r := ⟨_, rfl⟩
    rw [← hT] at HI HS hV
    have kk : (T != T) = false := by simp
    have kk2 : (T == T) = true := by simp
    have hTb : -1 ≤ T ∧ T ≤ 130000000 * 40 := by
      rw [hV]; split
      · omega
      · have := hS n (Nat.le_refl _); omega
    have HV := Lib.hid hV
    clear hT hS hV
    go_wp2_with fail
    refine (HI.out _ HTA.out).mono ?_
    rintro x w1 ⟨rfl, hb1⟩
    have K1 := Lib.hid (KB.out.below hb1 KB.out.lt)
    have HB1 := Lib.hid (HB.out.trans (hb1.mono HB.out.size))
    have HT1 := Lib.hid (HTA.out.below hb1 HTA.out.pos)
    clear hb1
    obtain ⟨c0, c1, c2, c3⟩ := K1.out.four
    go_wp2_with fail
    clear c0 c1 c2 c3
    refine (HS.out _).mono ?_
    rintro x w2 ⟨rfl, hb2⟩
    have K2 := Lib.hid (K1.out.below hb2 K1.out.lt)
    have HB2 := Lib.hid (HB1.out.trans (hb2.mono HB1.out.size))
    have HT2 := Lib.hid (HT1.out.below hb2 HT1.out.pos)
    clear hb2
    obtain ⟨c0, c1, c2, c3⟩ := K2.out.four
    by_cases hz : n = 0
    · have e1 : T = -1 := by rw [HV.out, if_pos hz]
      have e2 : decide (T < 0) = true := decide_eq_true (by omega)
      clear e1
      go_wp2_with fail
      clear c0 c1 c2 c3
      refine (HS.out _).mono ?_
      rintro x w3 ⟨rfl, hb3⟩
      have HB3 := Lib.hid (HB2.out.trans (hb3.mono HB2.out.size))
      clear hb3
      go_wp2_with fail
      go_ret
      exact ⟨ret_bool (by simp), HB3.out⟩
    · have e1 : T = sumTo fs n := by rw [HV.out, if_neg hz]
      have h10 : 10000 ≤ T := by rw [e1]; exact HTOP.out n HN.out (by omega)
      have E1 := Lib.hid e1
      have e2 : decide (T < 0) = false := decide_eq_false (by omega)
      clear e1
      go_wp2_with fail
      clear c0 c1 c2 c3
      refine (HF.out _ HT2.out).mono ?_
      rintro x w3 ⟨v, rfl, hrw, -, hb3⟩
      obtain ⟨b, c, rfl, hbl, hc⟩ := hrw.rd.2 (by rw [← HN.out]; omega)
      have HC := Lib.hid hc
      have HB3 := Lib.hid (HB2.out.trans (hb3.mono HB2.out.size))
      clear hb3 hrw hc
      rw [← HN.out] at HC ⊢
      go_wp2_with fail
      go_loopw [6, 7] (fun a x wr => ∃ i : Nat, i ≤ n ∧ x = .int .i64 i ∧ a = .int .i64 (sumTo fs i) ∧ Below w3.heap.size w3 wr) (fun _ x _ => n - (intOf x).toNat)
      case atStart => exact ⟨0, Nat.zero_le _, rfl, rfl, Below.refl _ _⟩
      case round =>
        obtain ⟨i, hi, rfl, rfl, hbr⟩ := hrel
        obtain ⟨s0, s1⟩ := HSS.out i hi
        by_cases hlt : i < n
        · obtain ⟨c0, c1⟩ := HC.out i hlt
          replace c0 := (hbr.cell (p := ⟨b, i * 2, none⟩) hbl).trans c0
          replace c1 := (hbr.cell (p := ⟨b, i * 2 + 1, none⟩) hbl).trans c1
          obtain ⟨d0, d1⟩ := HBD.out i (by rw [← HN.out]; exact hlt)
          have HST := Lib.hid (show sumTo fs (i + 1) = sumTo fs i + (fs.getD i f0).2 from rfl)
          obtain ⟨p, hp⟩ : ∃ p, p = fs.getD i f0 := ⟨_, rfl⟩
          rw [← hp] at c0 c1 d0 d1 HST
          clear hp
          obtain ⟨u, v⟩ := p
          dsimp only at c0 c1 d0 d1
          obtain ⟨A, hA⟩ : ∃ A, A = sumTo fs i := ⟨_, rfl⟩
          rw [← hA] at HST s0 s1 ⊢
          clear hA
          go_wp2_with fail
          go_roundw
          case rel => exact ⟨i + 1, by omega, by go_num, by rw [HST.out], hbr⟩
          case measure => simp [intOf] <;> omega
        · obtain rfl : i = n := by omega
          rw [← E1.out]
          have e9 : decide (10000 ≤ T) = true := decide_eq_true h10
          clear s0 s1
          go_wp2_with fail
          go_ret
          exact ⟨ret_bool (by simp), HB3.out.trans (hbr.mono HB3.out.size)⟩
end Go.Proofs.YtcckopnpmcbbcaaDoor
