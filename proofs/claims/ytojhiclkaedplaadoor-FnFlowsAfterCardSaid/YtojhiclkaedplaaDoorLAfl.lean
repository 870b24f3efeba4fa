/- The laws of the payments behind a day. -/
import Derived.Test.YtojhiclkaedplaaDoorLAfm
namespace Go.Proofs.YtojhiclkaedplaaDoor
open Go.RowKit
set_option maxRecDepth 8000 in
set_option maxHeartbeats 4000000 in
theorem lawFlowsAfter (a : Option Addr) (len cap : Nat) (zs : List Int) (w : World) (h : IsRow .u8 w a len cap zs) (hT : Tab w) :
    Calls Tryd.prog 3 #[.slice a len cap] w fun e w' => e = .returned (.bool true) ∧ Below w.heap.size w w' := by
  have H := Lib.hid h; clear h
  have HT := Lib.hid hT; clear hT
  by_cases hl : 1048576 < (len : Int)
  · go_enter Tryd.func3, Tryd.ntmps3
    go_wp2_with fail
    go_ret
    exact ⟨rfl, Below.refl _ _⟩
  · have hl' := decide_eq_false hl
    clear hl
    go_enter Tryd.func3, Tryd.ntmps3
    go_wp2_with fail
    refine (drawAfter_any _ _ _ _ _ H.out).mono ?_
    rintro x w0 ⟨s, e, m, r, d, rfl, hs, he, hm, hr, hd, hB0⟩
    have HS := Lib.hid (sAfter_any s e m r d)
    have HF := Lib.hid (after_any s e m r d)
    have HV := Lib.hid (validBond_any s e m r)
    have HA := Lib.hid (flowsOf_any s e m r)
    have hl40 : (floL s e m r).length ≤ 40 := by rw [floL_len]; exact perL_len s e m r
    have hvb : vbB s e m r = decide (0 < (floL s e m r).length) := by rw [floL_len]; rfl
    have HTL := Lib.hid (aft_tail d (floL s e m r) (fun i i0 hi => flo_sorted i i0 hi))
    have HT0 := Lib.hid (HT.out.below hB0 HT.out.pos)
    have HB := Lib.hid (hB0.alloc hB0.size (.cells #[.int .i64 s, .int .i64 e, .int .i64 m, .int .i64 r] 24))
    have KB := Lib.hid (Blk.new w0 #[.int .i64 s, .int .i64 e, .int .i64 m, .int .i64 r] 24)
    have HTA := Lib.hid (HT0.out.alloc (.cells #[.int .i64 s, .int .i64 e, .int .i64 m, .int .i64 r] 24))
    rw [hvb] at HV
    clear hvb
    generalize floL s e m r = fs at HS HF HA hl40 HTL HV
    have hla : (aftL fs d).length ≤ 40 := Nat.le_trans (aft_len _ _) hl40
    obtain ⟨c0, c1, c2, c3⟩ := KB.out.four
    go_wp2_with fail
    refine (HF.out _ HTA.out).mono ?_
    rintro x w1 ⟨v1, rfl, hr1, hn1, hb1⟩
    have HR1 := Lib.hid hr1.rd
    have K1 := Lib.hid (KB.out.below hb1 KB.out.lt)
    have HB1 := Lib.hid (HB.out.trans (hb1.mono HB.out.size))
    clear hb1 hr1 hn1 c0 c1 c2 c3
    obtain ⟨c0, c1, c2, c3⟩ := K1.out.four
    go_wp2_with fail
    refine (HS.out _).mono ?_
    rintro x w2 ⟨v2, rfl, hr2, -, hb2⟩
    have HR2 := Lib.hid hr2.rd
    have HR12 := Lib.hid (HR1.out.below hb2 (Nat.le_refl _))
    have K2 := Lib.hid (K1.out.below hb2 K1.out.lt)
    have HB2 := Lib.hid (HB1.out.trans (hb2.mono HB1.out.size))
    clear hb2 hr2 c0 c1 c2 c3
    go_wp2_with fail
    refine (eqF_same _ _ _ (aftL fs d) HR12.out HR2.out (by omega)).mono ?_
    rintro x w3 ⟨rfl, hb3⟩
    have HR13 := Lib.hid (HR12.out.below hb3 (Nat.le_refl _))
    have K3 := Lib.hid (K2.out.below hb3 K2.out.lt)
    have HB3 := Lib.hid (HB2.out.trans (hb3.mono HB2.out.size))
    clear hb3
    obtain ⟨c0, c1, c2, c3⟩ := K3.out.four
    go_wp2_with fail
    refine (HV.out _ (HT.out.below HB3.out HT.out.pos)).mono ?_
    rintro x w4 ⟨rfl, hb4⟩
    have HR14 := Lib.hid (HR13.out.below hb4 (Nat.le_refl _))
    have K4 := Lib.hid (K3.out.below hb4 K3.out.lt)
    have HB4 := Lib.hid (HB3.out.trans (hb4.mono HB3.out.size))
    clear hb4 c0 c1 c2 c3
    obtain ⟨c0, c1, c2, c3⟩ := K4.out.four
    by_cases hz : 0 < fs.length
    · rw [decide_eq_true hz]
      go_wp2_with fail
      refine (HA.out _ (HT.out.below HB4.out HT.out.pos)).mono ?_
      rintro x w5 ⟨v5, rfl, hr5, -, hb5⟩
      have HR15 := Lib.hid (HR14.out.below hb5 (Nat.le_refl _))
      have HB5 := Lib.hid (HB4.out.trans (hb5.mono HB4.out.size))
      obtain ⟨b, c, rfl, hBb, hbl, ⟨hcap, hcm⟩, hcell, hfz⟩ := hr5.form hz
      have HC := Lib.hid hcell
      clear hb5 c0 c1 c2 c3 hcell hfz hr5
      obtain ⟨k, hk, hE, hle, hgt⟩ := HTL.out
      obtain ⟨n, hn⟩ : ∃ n, n = fs.length := ⟨_, rfl⟩
      have hlen : (aftL fs d).length = n - k := by rw [hE, List.length_drop, hn]
      have HLE := Lib.hid hle
      have HGT := Lib.hid hgt
      have HE := Lib.hid hE
      rw [← hn] at hk hz hl40 hcap HC ⊢
      have HN := Lib.hid hn
      clear hle hgt hE hn HTL
      obtain ⟨⟨a1, c1', rfl⟩, hr1⟩ := HR15.out
      have HX := Lib.hid hr1
      clear hr1
      have HOFF : Hid (∀ (a : Option Addr) (cc : Nat), (k < n → a = some ⟨b, k * 2, none⟩) → ∀ u, RdF w5 u (aftL fs d) → Calls Tryd.prog 10 #[.slice a (n - k) cc, u] w5 fun e w' => e = .returned (.bool true) ∧ Below w5.heap.size w5 w') := Lib.hid (fun a cc ha u hu => by
        have h := eqF_off w5 u (aftL fs d) a cc (fun h0 => ⟨b, k * 2, ha (by omega), hbl, fun i hi => by
          have q := HC.out (k + i) (by omega)
          rw [HE.out, show (fs.drop k).getD i f0 = fs.getD (k + i) f0 by rw [List.getD_eq_getElem?_getD, List.getD_eq_getElem?_getD, List.getElem?_drop]]
          rwa [show (k + i) * 2 = k * 2 + i * 2 by omega] at q⟩) hu (by omega)
        rwa [hlen] at h)
      have hRU : RdF w5 (.slice a1 (aftL fs d).length c1') (aftL fs d) := HR15.out
      have HRU := Lib.hid hRU
      clear hRU
      rw [hlen] at HX HRU ⊢
      have k0 : (0 : Int) ≤ ((n : Int) - ((n - k : Nat) : Int)) := by omega
      have k1 : (n : Int) - ((n - k : Nat) : Int) = k := by omega
      rw [hlen] at hla
      go_wp2_with fail
      all_goals
        refine (HOFF.out _ _ (by first | (intro _; rfl) | (intro h; omega)) _ HRU.out).mono ?_
        rintro x w6 ⟨rfl, hb6⟩
        have HB6 := Lib.hid (HB5.out.trans (hb6.mono HB5.out.size))
        have hP : ∃ A : Int, 0 < k → w6.cell? ⟨b, (k - 1) * 2, none⟩ = some (.int .i64 A) ∧ A ≤ d := by
          by_cases q : 0 < k
          · obtain ⟨g0, -⟩ := HC.out (k - 1) (by omega)
            exact ⟨_, fun _ => ⟨(hb6.cell (p := ⟨b, (k - 1) * 2, none⟩) hbl).trans g0, HLE.out (k - 1) (by omega)⟩⟩
          · exact ⟨0, fun h => absurd h q⟩
        obtain ⟨A, hA⟩ := hP
        by_cases q1 : 0 < k
        · obtain ⟨g0, g1⟩ := hA q1
          have e1 : ((k : Int) == 0) = false := by simp; omega
          have e2 : decide (A ≤ d) = true := decide_eq_true g1
          have i2 : (0 : Int) ≤ (k : Int) - 1 := by omega
          have i3 : (k : Int) - 1 < n := by omega
          have w1' : IntKind.i64.wrap ((k : Int) - 1) = (k : Int) - 1 := IntWalk.i64_in _ (by omega)
          have w2' : ((k : Int) - 1).toNat = k - 1 := by omega
          by_cases q2 : k < n
          · first
            | (exfalso; omega)
            | skip
              obtain ⟨b2, c2, ex, hb2, hc2⟩ := HX.out (by omega)
              simp only [Value.slice.injEq, true_and] at ex
              obtain ⟨rfl, rfl⟩ := ex
              obtain ⟨y0, -⟩ := hc2 0 (by omega)
              replace y0 := (hb6.cell (p := ⟨b2, 0 * 2, none⟩) hb2).trans y0
              have y1 : d < ((aftL fs d).getD 0 f0).1 := by
                rw [HE.out, show (fs.drop k).getD 0 f0 = fs.getD k f0 by rw [List.getD_eq_getElem?_getD, List.getD_eq_getElem?_getD, List.getElem?_drop]; rfl]
                exact HGT.out k (Nat.le_refl _) (by have := HN.out; omega)
              generalize ((aftL fs d).getD 0 f0).1 = Y at y0 y1
              simp only [Nat.zero_mul] at y0
              have e3 : (((n - k : Nat) : Int) == 0) = false := by simp; omega
              have e4 : decide (d < Y) = true := decide_eq_true y1
              have i4 : (0 : Int) < ((n - k : Nat) : Int) := by omega
              clear hc2 hA
              go_wp2_with fail
              go_ret
              exact ⟨rfl, HB6.out⟩
          · have e3 : (((n - k : Nat) : Int) == 0) = true := by simp; omega
            clear hA
            go_wp2_with fail
            go_ret
            exact ⟨rfl, HB6.out⟩
        · have e1 : ((k : Int) == 0) = true := by simp; omega
          by_cases q2 : k < n
          · first
            | (exfalso; omega)
            | skip
              obtain ⟨b2, c2, ex, hb2, hc2⟩ := HX.out (by omega)
              simp only [Value.slice.injEq, true_and] at ex
              obtain ⟨rfl, rfl⟩ := ex
              obtain ⟨y0, -⟩ := hc2 0 (by omega)
              replace y0 := (hb6.cell (p := ⟨b2, 0 * 2, none⟩) hb2).trans y0
              have y1 : d < ((aftL fs d).getD 0 f0).1 := by
                rw [HE.out, show (fs.drop k).getD 0 f0 = fs.getD k f0 by rw [List.getD_eq_getElem?_getD, List.getD_eq_getElem?_getD, List.getElem?_drop]; rfl]
                exact HGT.out k (Nat.le_refl _) (by have := HN.out; omega)
              generalize ((aftL fs d).getD 0 f0).1 = Y at y0 y1
              simp only [Nat.zero_mul] at y0
              have e3 : (((n - k : Nat) : Int) == 0) = false := by simp; omega
              have e4 : decide (d < Y) = true := decide_eq_true y1
              have i4 : (0 : Int) < ((n - k : Nat) : Int) := by omega
              clear hc2 hA
              go_wp2_with fail
              go_ret
              exact ⟨rfl, HB6.out⟩
          · have e3 : (((n - k : Nat) : Int) == 0) = true := by simp; omega
            clear hA
            go_wp2_with fail
            go_ret
            exact ⟨rfl, HB6.out⟩
    · rw [decide_eq_false hz]
      go_wp2_with fail
      refine (HS.out _).mono ?_
      rintro x w5 ⟨v5, rfl, hr5, -, hb5⟩
      have HR5 := Lib.hid hr5.rd
      have HR15 := Lib.hid (HR14.out.below hb5 (Nat.le_refl _))
      have HB5 := Lib.hid (HB4.out.trans (hb5.mono HB4.out.size))
      clear hb5 hr5
      go_wp2_with fail
      refine (eqF_same _ _ _ (aftL fs d) HR15.out HR5.out (by omega)).mono ?_
      rintro x w6 ⟨rfl, hb6⟩
      have HB6 := HB5.out.trans (hb6.mono HB5.out.size)
      go_wp2_with fail
      go_ret
      exact ⟨rfl, HB6⟩
end Go.Proofs.YtojhiclkaedplaaDoor
