/- The law of payments. -/
import Derived.Test.YtcckopnpmcbbcaaDoorLBond
import Derived.Outline
namespace Go.Proofs.YtcckopnpmcbbcaaDoor
open Go.RowKit
theorem flo_day (s e m r : Int) {i : Nat} (hi : i < (perL s e m r).length) : ((floL s e m r).getD i f0).1 = ((perL s e m r).getD i p0).2.1 := by
  have hcl := cpnL_len s e m r
  have hg : ∀ j, j < (perL s e m r).length → ((cpnL s e m r).getD j f0).1 = ((perL s e m r).getD j p0).2.1 := fun j hj => by
    rw [show cpnL s e m r = (perL s e m r).map fun p => (p.2.1, cpnV m r p.1 p.2.1 p.2.2) from rfl, map_at _ (perL s e m r) p0 f0 hj]
  unfold floL faced
  rw [set_at _ _ _ _ (by omega)]
  by_cases c : i = (cpnL s e m r).length - 1
  · rw [if_pos c]; dsimp only; rw [← c]; exact hg i hi
  · rw [if_neg c]; exact hg i hi
theorem flo_order {s e m r : Int} (n : Nat) (hn : n = (floL s e m r).length) (h1 : 1 ≤ n) :
    (∀ i, 0 < i → i < n → ((floL s e m r).getD (i - 1) f0).1 < ((floL s e m r).getD i f0).1) ∧ ((floL s e m r).getD (n - 1) f0).1 = e ∧ 10000 ≤ ((floL s e m r).getD (n - 1) f0).2 := by
  have hl := floL_len s e m r
  have hz : perL s e m r ≠ [] := fun h => by rw [h] at hl; have hl0 : (floL s e m r).length = 0 := hl; omega
  have hp : perL s e m r = Sc.sch s e m := by
    unfold perL at hz ⊢
    by_cases c : btw r 0 3000 = true
    · rw [if_pos c]
    · rw [if_neg c] at hz; exact absurd rfl hz
  have hz2 := hz
  rw [hp] at hz2
  obtain ⟨ok, hN, hall⟩ := Sc.sch_pos hz2
  have hlen : (perL s e m r).length = Sc.N s e m := by rw [hp, hall, Sc.all_len]
  have hf := fun i hi => @Sc.all_facts s e m ok hN i hi
  rw [← hall, ← hp] at hf
  refine ⟨fun i i0 hi => ?_, ?_, ?_⟩
  · rw [flo_day s e m r (by omega), flo_day s e m r (by omega)]
    obtain ⟨f, t, b, hg, hlt, -, -, -, -, -, hpre⟩ := hf i (by omega)
    obtain ⟨-, hq⟩ := hpre i0
    rw [show (perL s e m r).getD i p0 = (f, t, b) from hg]
    show ((perL s e m r).getD (i - 1) (0, 0, false)).2.1 < t
    omega
  · rw [flo_day s e m r (by omega)]
    obtain ⟨f, t, b, hg, -, -, -, -, -, he, -⟩ := hf (n - 1) (by omega)
    rw [show (perL s e m r).getD (n - 1) p0 = (f, t, b) from hg]
    exact he (by omega)
  · obtain ⟨⟨m0, m1⟩, ⟨r0, r1⟩, -, hpf⟩ := per_facts hz
    have hcl := cpnL_len s e m r
    unfold floL faced
    rw [set_at _ _ _ _ (by omega), if_pos (by omega)]
    obtain ⟨f, t, z, hg, h0, h1', h2, hA⟩ := hpf ((cpnL s e m r).length - 1) (by omega)
    dsimp only
    have : ((cpnL s e m r).getD ((cpnL s e m r).length - 1) f0).2 = cpnV m r f t z := by
      rw [show cpnL s e m r = (perL s e m r).map fun p => (p.2.1, cpnV m r p.1 p.2.1 p.2.2) from rfl, List.length_map, map_at _ (perL s e m r) p0 f0 (by omega), show (perL s e m r).length - 1 = (cpnL s e m r).length - 1 by omega, hg]
    rw [this]
    have := cpn_bd z m0 m1 r0 r1 h0 h1' h2 hA
    omega
set_option maxRecDepth 8000 in
set_option maxHeartbeats 1000000 in
theorem eqF_same (w : World) (v u : Value) (fs : List Flo) (hv : RdF w v fs) (hu : RdF w u fs) (hm : fs.length ≤ 1000) :
    Calls Tryd.prog 24 #[v, u] w fun e w' => e = .returned (.bool true) ∧ Below w.heap.size w w' := by
  obtain ⟨⟨a, c, rfl⟩, h1⟩ := hv
  obtain ⟨⟨a', c', rfl⟩, h2⟩ := hu
  have H1 := Lib.hid h1; clear h1
  have H2 := Lib.hid h2; clear h2
  obtain ⟨n, hn⟩ : ∃ n, n = fs.length := ⟨_, rfl⟩
  rw [← hn] at hm ⊢
  have HN := Lib.hid hn; clear hn
  go_enter Tryd.func24, Tryd.ntmps24
  go_wp2_with fail
  go_loopw [5] (fun x wr => ∃ i : Nat, i ≤ n ∧ x = .int .i64 i ∧ Below w.heap.size w wr) (fun x _ => n - (intOf x).toNat)
  case atStart => exact ⟨0, Nat.zero_le _, rfl, Below.refl _ _⟩
  case round =>
    obtain ⟨i, hi, rfl, hb⟩ := hrel
    by_cases hlt : i < n
    · obtain ⟨b, d, e, hbl, hc⟩ := H1.out (by rw [← HN.out]; omega)
      obtain ⟨b', d', e', hbl', hc'⟩ := H2.out (by rw [← HN.out]; omega)
      rw [← HN.out] at e e'
      simp only [Value.slice.injEq, true_and] at e e'
      obtain ⟨rfl, rfl⟩ := e
      obtain ⟨rfl, rfl⟩ := e'
      obtain ⟨c0, c1⟩ := hc i (by rw [← HN.out]; exact hlt)
      obtain ⟨g0, g1⟩ := hc' i (by rw [← HN.out]; exact hlt)
      replace c0 := (hb.cell (p := ⟨b, i * 2, none⟩) hbl).trans c0
      replace c1 := (hb.cell (p := ⟨b, i * 2 + 1, none⟩) hbl).trans c1
      replace g0 := (hb.cell (p := ⟨b', i * 2, none⟩) hbl').trans g0
      replace g1 := (hb.cell (p := ⟨b', i * 2 + 1, none⟩) hbl').trans g1
      clear hc hc'
      obtain ⟨p, hp⟩ : ∃ p, p = fs.getD i f0 := ⟨_, rfl⟩
      rw [← hp] at c0 c1 g0 g1
      clear hp
      obtain ⟨p1, p2⟩ := p
      dsimp only at c0 c1 g0 g1
      go_wp2_with fail
      go_quiet (fail)
      go_wp2_with fail
      go_roundw
      case rel => exact ⟨i + 1, by omega, by go_num, below_drewN hb _⟩
      case measure => simp [intOf]; omega
    · obtain rfl : i = n := by omega
      go_wp2_with fail
      go_ret
      exact ⟨rfl, hb⟩
set_option maxRecDepth 8000 in
set_option maxHeartbeats 1000000 in
theorem drawFlowsOf_any (w : World) (a : Option Addr) (len cap : Nat) (zs : List Int) (h : IsRow .u8 w a len cap zs) :
    Calls Tryd.prog 23 #[.slice a len cap] w (DBn w) := by
  have H := Lib.hid h; clear h
  have HB0 := Lib.hid ((Below.refl w.heap.size w).alloc (Nat.le_refl _) (.cells #[.int .i64 0, .int .i64 0, .int .i64 0, .int .i64 0] 24))
  have KR0 := Lib.hid (Blk.new w #[.int .i64 0, .int .i64 0, .int .i64 0, .int .i64 0] 24)
  have H1 := Lib.hid (isRow_below' H.out HB0.out)
  go_enter Tryd.func23, Tryd.ntmps23
  go_wp2_with fail
  refine (newReader_any _ _ _ _ _ H1.out).mono ?_
  rintro x w1 ⟨g, rfl, hg, hr, hb⟩
  have KR1 := Lib.hid (KR0.out.below hb KR0.out.lt)
  have HB1 := Lib.hid (HB0.out.trans (hb.mono HB0.out.size))
  have hg0 : w.heap.size < g := Nat.lt_of_lt_of_le KR0.out.lt hg
  clear hb
  go_wp2_with fail
  refine (anyBond_any _ _ _ hr (by omega)).mono ?_
  rintro x w2 ⟨s, e, m, r, rfl, hs, he, hm, hr', hrd, hg2⟩
  have KR2 := Lib.hid (KR1.out.grown hg2 (by omega))
  have HB2 := Lib.hid (HB1.out.grown hg2 HB1.out.size (fun j hj => by injection hj with hj; omega))
  obtain ⟨x0, x1, x2, x3⟩ := KR2.out.four
  obtain ⟨z0, z1, z2, z3⟩ := fourFz KR2.out
  clear hg2
  go_wp2_with fail
  have k2 := put4_blk KR2.out s e m r
  obtain ⟨r0', r1', r2', r3'⟩ := k2.four
  unfold put4 at r0' r1' r2' r3'
  refine bodyPost_ret (v := .agg #[.int .i64 s, .int .i64 e, .int .i64 m, .int .i64 r]) (by simp [results, Tryd.results23, go_sem, r0', r1', r2', r3']) rfl ⟨s, e, m, r, rfl, hs, he, hm, hr', ?_⟩
  exact (((HB2.out.setCell (Nat.le_refl _) _).setCell (Nat.le_refl _) _).setCell (Nat.le_refl _) _).setCell (Nat.le_refl _) _
set_option maxRecDepth 8000 in
set_option maxHeartbeats 4000000 in
theorem lawFlowsOf (a : Option Addr) (len cap : Nat) (zs : List Int) (w : World) (h : IsRow .u8 w a len cap zs) (hT : Tab w) :
    Calls Tryd.prog 4 #[.slice a len cap] w fun e w' => e = .returned (.bool true) ∧ Below w.heap.size w w' := by
  have H := Lib.hid h; clear h
  have HT := Lib.hid hT; clear hT
  by_cases hl : 1048576 < (len : Int)
  · go_enter Tryd.func4, Tryd.ntmps4
    go_wp2_with fail
    go_ret
    exact ⟨rfl, Below.refl _ _⟩
  · have hl' := decide_eq_false hl
    clear hl
    go_enter Tryd.func4, Tryd.ntmps4
    go_wp2_with fail
    refine (drawFlowsOf_any _ _ _ _ _ H.out).mono ?_
    rintro x w0 ⟨s, e, m, r, rfl, hs, he, hm, hr, hB0⟩
    have HS := Lib.hid (sFlowsOf_any s e m r)
    have HF := Lib.hid (flowsOf_any s e m r)
    have hl40 : (floL s e m r).length ≤ 40 := by rw [floL_len]; exact perL_len s e m r
    have HBD := Lib.hid (fun i hi => @flo_bd s e m r i hi)
    have HORD := Lib.hid (@flo_order s e m r)
    have HT0 := Lib.hid (HT.out.below hB0 HT.out.pos)
    have HB := Lib.hid (hB0.alloc hB0.size (.cells #[.int .i64 s, .int .i64 e, .int .i64 m, .int .i64 r] 24))
    have KB := Lib.hid (Blk.new w0 #[.int .i64 s, .int .i64 e, .int .i64 m, .int .i64 r] 24)
    have HTA := Lib.hid (HT0.out.alloc (.cells #[.int .i64 s, .int .i64 e, .int .i64 m, .int .i64 r] 24))
    obtain ⟨fs, hfs⟩ : ∃ fs, fs = floL s e m r := ⟨_, rfl⟩
    rw [← hfs] at HF HS hl40 HBD HORD
    clear hfs
    go_wp2_with fail
    refine (HF.out _ HTA.out).mono ?_
    rintro x w1 ⟨v1, rfl, hr1, hn1, hb1⟩
    have HR1 := Lib.hid hr1.rd
    have HN1 := Lib.hid hn1
    have K1 := Lib.hid (KB.out.below hb1 KB.out.lt)
    have HB1 := Lib.hid (HB.out.trans (hb1.mono HB.out.size))
    clear hb1 hr1 hn1
    obtain ⟨c0, c1, c2, c3⟩ := K1.out.four
    go_wp2_with fail
    clear c0 c1 c2 c3
    refine (HS.out _).mono ?_
    rintro x w2 ⟨v2, rfl, hr2, -, hb2⟩
    have HR2 := Lib.hid hr2.rd
    have HR12 := Lib.hid (HR1.out.below hb2 (Nat.le_refl _))
    have K2 := Lib.hid (K1.out.below hb2 K1.out.lt)
    have HB2 := Lib.hid (HB1.out.trans (hb2.mono HB1.out.size))
    clear hb2 hr2
    go_wp2_with fail
    refine (eqF_same _ _ _ fs HR12.out HR2.out (by omega)).mono ?_
    rintro x w3 ⟨rfl, hb3⟩
    have HR13 := Lib.hid (HR12.out.below hb3 (Nat.le_refl _))
    have K3 := Lib.hid (K2.out.below hb3 K2.out.lt)
    have HB3 := Lib.hid (HB2.out.trans (hb3.mono HB2.out.size))
    clear hb3
    obtain ⟨c0, c1, c2, c3⟩ := K3.out.four
    by_cases hz : fs = []
    · have z1 := HN1.out.2 hz
      subst z1
      go_wp2_with fail
      clear c0 c1 c2 c3
      refine (HS.out _).mono ?_
      rintro x w4 ⟨v4, rfl, hr4, -, hb4⟩
      have HR4 := Lib.hid hr4.rd
      have HR14 := Lib.hid (HR13.out.below hb4 (Nat.le_refl _))
      have HB4 := Lib.hid (HB3.out.trans (hb4.mono HB3.out.size))
      clear hb4 hr4
      go_wp2_with fail
      refine (eqF_same _ _ _ fs HR14.out HR4.out (by omega)).mono ?_
      rintro x w5 ⟨rfl, hb5⟩
      have HB5 := HB4.out.trans (hb5.mono HB4.out.size)
      go_wp2_with fail
      go_ret
      exact ⟨rfl, HB5⟩
    · obtain ⟨n, hn⟩ : ∃ n, n = fs.length := ⟨_, rfl⟩
      have n1 : 1 ≤ n := by
        rcases Nat.eq_zero_or_pos n with h | h
        · exact absurd (List.eq_nil_of_length_eq_zero (by omega)) hz
        · exact h
      obtain ⟨b, c, rfl, hbl, hc⟩ := HR13.out.2 (by omega)
      have HC := Lib.hid hc
      clear hc hz
      obtain ⟨hord, hle, hla⟩ := HORD.out n hn n1
      have HO := Lib.hid hord
      have HLE := Lib.hid hle
      have HLA := Lib.hid hla
      rw [← hn] at HC hl40 ⊢
      have HN := Lib.hid hn
      clear hord hle hla hn
      have nz : ((n : Int) == 0) = false := by simp; omega
      go_wp2_with fail
      go_loopw [5] (fun x wr => ∃ i : Nat, i ≤ n ∧ x = .int .i64 i ∧ Below w3.heap.size w3 wr) (fun x _ => n - (intOf x).toNat)
      case atStart => exact ⟨0, Nat.zero_le _, rfl, Below.refl _ _⟩
      case round =>
        obtain ⟨i, hi, rfl, hb⟩ := hrel
        by_cases hlt : i < n
        · obtain ⟨d0, d1⟩ := HC.out i hlt
          replace d0 := (hb.cell (p := ⟨b, i * 2, none⟩) hbl).trans d0
          replace d1 := (hb.cell (p := ⟨b, i * 2 + 1, none⟩) hbl).trans d1
          obtain ⟨a0, a1⟩ := HBD.out i (by rw [← HN.out]; exact hlt)
          clear c0 c1 c2 c3
          by_cases i0 : 0 < i
          · obtain ⟨g0, -⟩ := HC.out (i - 1) (by omega)
            replace g0 := (hb.cell (p := ⟨b, (i - 1) * 2, none⟩) hbl).trans g0
            have hlt' := HO.out i i0 hlt
            generalize (fs.getD i f0).1 = D at d0 hlt'
            generalize (fs.getD (i - 1) f0).1 = D' at g0 hlt'
            generalize (fs.getD i f0).2 = A at d1 a0 a1
            have e1 : decide (A < 0) = false := decide_eq_false (by omega)
            have e2 : decide (D ≤ D') = false := decide_eq_false (by omega)
            have i0' : decide (0 < (i : Int)) = true := by simp; omega
            have i1 : (1 : Int) ≤ (i : Int) := by omega
            have i2 : (0 : Int) ≤ (i : Int) - 1 := by omega
            have i3 : (i : Int) - 1 < n := by omega
            have w1' : IntKind.i64.wrap ((i : Int) - 1) = (i : Int) - 1 := IntWalk.i64_in _ (by omega)
            have w2' : ((i : Int) - 1).toNat = i - 1 := by omega
            clear hlt' a0 a1
            go_wp2_with fail
            go_quiet (fail)
            clear w1' w2'
            go_wp2_with fail
            go_roundw
            case rel => exact ⟨i + 1, by omega, by go_num, below_drewN hb _⟩
            case measure => simp [intOf] <;> omega
          · generalize (fs.getD i f0).1 = D at d0
            generalize (fs.getD i f0).2 = A at d1 a0 a1
            have e1 : decide (A < 0) = false := decide_eq_false (by omega)
            have i0' : decide (0 < (i : Int)) = false := by simp; omega
            clear a0 a1
            go_wp2_with fail
            go_quiet (fail)
            go_wp2_with fail
            go_roundw
            case rel => exact ⟨i + 1, by omega, by go_num, below_drewN hb _⟩
            case measure => simp [intOf] <;> omega
        · obtain rfl : i = n := by omega
          clear c0 c1 c2 c3
          obtain ⟨c0, c1, c2, c3⟩ := (K3.out.below hb K3.out.lt).four
          have hlt9 := (K3.out.below hb K3.out.lt).lt
          have hlt8 := Nat.lt_of_lt_of_le hbl hb.size
          obtain ⟨d0, d1⟩ := HC.out (i - 1) (by omega)
          rw [HLE.out] at d0
          replace d0 := (hb.cell (p := ⟨b, (i - 1) * 2, none⟩) hbl).trans d0
          replace d1 := (hb.cell (p := ⟨b, (i - 1) * 2 + 1, none⟩) hbl).trans d1
          have hA := HLA.out
          generalize (fs.getD (i - 1) f0).2 = A at d1 hA
          have e9 : decide (10000 ≤ A) = true := decide_eq_true hA
          have ee : (e == e) = true := by simp
          have i2 : (0 : Int) ≤ (i : Int) - 1 := by omega
          have i3 : (i : Int) - 1 < i := by omega
          have w1' : IntKind.i64.wrap ((i : Int) - 1) = (i : Int) - 1 := IntWalk.i64_in _ (by omega)
          have w2' : ((i : Int) - 1).toNat = i - 1 := by omega
          have hsz := hb.size
          go_wp2_with fail
          go_ret
          exact ⟨ret_bool (by simp), HB3.out.trans ((hb.alloc hsz _).mono HB3.out.size)⟩
end Go.Proofs.YtcckopnpmcbbcaaDoor
