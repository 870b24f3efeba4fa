/- The laws of lots: signs. -/
import Derived.Test.YtkbojibgbmbmdaaGnP
namespace Go.Proofs.Ytkbojibgbmbmdaa
open Go.RowKit
set_option maxRecDepth 8000 in
set_option maxHeartbeats 1000000 in
theorem eqL_same (w : World) (v u : Value) (fs : List Pr) (hv : R2o w v fs) (hu : R2o w u fs) (hm : fs.length ≤ 1000) :
    Calls Try.prog 22 #[v, u] w fun e w' => e = .returned (.bool true) ∧ Below w.heap.size w w' := by
  obtain ⟨⟨a, c, rfl⟩, h1⟩ := hv
  obtain ⟨⟨a', c', rfl⟩, h2⟩ := hu
  have H1 := Lib.hid h1; clear h1
  have H2 := Lib.hid h2; clear h2
  obtain ⟨n, hn⟩ : ∃ n, n = fs.length := ⟨_, rfl⟩
  rw [← hn] at hm ⊢
  have HN := Lib.hid hn; clear hn
  go_enter Try.func22, Try.ntmps22
  go_wp2_with fail
  go_loopw [5] (fun x wr => ∃ i : Nat, i ≤ n ∧ x = .int .i64 i ∧ Below w.heap.size w wr) (fun x _ => n - (intOf x).toNat)
  case atStart => exact ⟨0, Nat.zero_le _, rfl, Below.refl _ _⟩
  case round =>
    obtain ⟨i, hi, rfl, hb⟩ := hrel
    by_cases hlt : i < n
    · obtain ⟨b, off, d, e, hbl, hc⟩ := H1.out (by rw [← HN.out]; omega)
      obtain ⟨b', off', d', e', hbl', hc'⟩ := H2.out (by rw [← HN.out]; omega)
      rw [← HN.out] at e e'
      simp only [Value.slice.injEq, true_and] at e e'
      obtain ⟨rfl, rfl⟩ := e
      obtain ⟨rfl, rfl⟩ := e'
      obtain ⟨c0, c1⟩ := hc i (by rw [← HN.out]; exact hlt)
      obtain ⟨g0, g1⟩ := hc' i (by rw [← HN.out]; exact hlt)
      replace c0 := (hb.cell (p := ⟨b, off + i * 2, none⟩) hbl).trans c0
      replace c1 := (hb.cell (p := ⟨b, off + i * 2 + 1, none⟩) hbl).trans c1
      replace g0 := (hb.cell (p := ⟨b', off' + i * 2, none⟩) hbl').trans g0
      replace g1 := (hb.cell (p := ⟨b', off' + i * 2 + 1, none⟩) hbl').trans g1
      clear hc hc'
      obtain ⟨p, hp⟩ : ∃ p, p = fs.getD i pr0 := ⟨_, rfl⟩
      have hp2 : fs.getD i (0, 0) = p := hp.symm
      rw [hp2] at c0 c1 g0 g1
      clear hp2
      clear hp
      obtain ⟨p1, p2⟩ := p
      dsimp only at c0 c1 g0 g1
      go_wp2_with fail
      go_quiet (fail)
      go_wp2_with fail
      go_roundw
      case rel => exact ⟨i + 1, by omega, by go_num, belowT hb _⟩
      case measure => simp [intOf]; omega
    · obtain rfl : i = n := by omega
      go_wp2_with fail
      go_ret
      exact ⟨rfl, hb⟩
set_option maxRecDepth 8000 in
set_option maxHeartbeats 8000000 in
theorem lawLotsOf (a : Option Addr) (len cap : Nat) (zs : List Int) (w : World) (h : IsRow .u8 w a len cap zs) :
    Calls Try.prog 5 #[.slice a len cap] w fun e w' => e = .returned (.bool true) ∧ Below w.heap.size w w' := by
  have H := Lib.hid h; clear h
  by_cases hl : 1048576 < (len : Int)
  · go_enter Try.func5, Try.ntmps5
    go_wp2_with fail
    go_ret
    exact ⟨rfl, Below.refl _ _⟩
  · have hl' := decide_eq_false hl
    clear hl
    go_enter Try.func5, Try.ntmps5
    go_wp2_with fail
    refine (drawLO_any _ _ _ _ _ H.out).mono ?_
    rintro e w1 ⟨b, c, ps, rfl, hF, hln, hI, hb1⟩
    have R1 := Lib.hid hF.r3.o
    have HB1 := Lib.hid hb1
    have hm : ps.length ≤ 9223372036854775807 := by omega
    have hll : (Lt.lots ps).length ≤ ps.length ∧ (∀ x ∈ Lt.lots ps, Lt.one x) ∧ Lt.sign (Lt.lots ps) := by
      cases h0 : Td.ok ps with
      | false => unfold Lt.lots; rw [h0]; exact ⟨by simp, fun x hx => by simp at hx, .inl fun x hx => by simp at hx⟩
      | true =>
        have hG := Lt.good (Lt.tones h0) ps.length (Nat.le_refl _)
        rw [List.take_of_length_le (Nat.le_refl _)] at hG
        unfold Lt.lots
        rw [if_pos h0]
        exact ⟨hG.len, hG.one, hG.sign⟩
    obtain ⟨hq1, hq2, hq3⟩ := hll
    have HO := Lib.hid hq2
    have HS := Lib.hid hq3
    clear hF hI hb1 hq2 hq3
    have SLo := Lib.hid (fun W (hW : Below w1.heap.size w1 W) => slots_any W _ ps (R1.out.below hW (Nat.le_refl _)) hm)
    have LO := Lib.hid (lots_any _ _ _ R1.out hm)
    generalize Lt.lots ps = q at *
    go_wp2_with fail
    refine LO.out.mono ?_
    rintro e w2 ⟨⟨u, rfl, hu⟩, hb2⟩
    have HU2 := Lib.hid hu.r2o
    obtain ⟨au, cu, rfl⟩ := hu.slice
    have HB12 := Lib.hid hb2
    clear hu hb2 LO
    go_wp2_with fail
    refine (SLo.out _ HB12.out).mono ?_
    rintro e w3 ⟨⟨u3, rfl, hu3⟩, hb3⟩
    have HU3 := Lib.hid (HU2.out.below hb3 (Nat.le_refl _))
    have HV3 := Lib.hid hu3.r2.o
    have HB13 := Lib.hid (HB12.out.trans (hb3.mono HB12.out.size))
    clear hu3 hb3
    go_wp2_with fail
    refine (eqL_same _ _ _ _ HU3.out HV3.out (by omega)).mono ?_
    rintro e w4 ⟨rfl, hb4⟩
    have HU4 := Lib.hid (HU3.out.below hb4 (Nat.le_refl _))
    have HB14 := Lib.hid (HB13.out.trans (hb4.mono HB13.out.size))
    clear hb4 HU2 HU3 HV3
    by_cases hz : q.length = 0
    · have hz' : ((q.length : Int) == 0) = true := by rw [hz]; rfl
      clear hz
      go_wp2_with fail
      refine (SLo.out _ HB14.out).mono ?_
      rintro e w5 ⟨⟨u5, rfl, hu5⟩, hb5⟩
      have HU5 := Lib.hid (HU4.out.below hb5 (Nat.le_refl _))
      have HV5 := Lib.hid hu5.r2.o
      have HB15 := Lib.hid (HB14.out.trans (hb5.mono HB14.out.size))
      clear hu5 hb5
      go_wp2_with fail
      refine (eqL_same _ _ _ _ HU5.out HV5.out (by omega)).mono ?_
      rintro e w6 ⟨rfl, hb6⟩
      go_wp2_with fail
      go_ret
      exact ⟨rfl, HB1.out.trans ((HB15.out.trans (hb6.mono HB15.out.size)).mono HB1.out.size)⟩
    · have hz' : ((q.length : Int) == 0) = false := by simp only [beq_eq_false_iff_ne, ne_eq]; omega
      obtain ⟨b2, o2, d2, e2, hbl2, hc2⟩ := HU4.out.2 (by omega)
      simp only [Value.slice.injEq, true_and] at e2
      obtain ⟨rfl, rfl⟩ := e2
      have HC := Lib.hid (fun i (hi : i < q.length) => (hc2 i hi).1)
      have z0 := (hc2 0 (by omega)).1
      simp only [Nat.zero_mul, Nat.add_zero] at z0
      have hs0 := Gn.one_at HO.out (show 0 < q.length by omega)
      have e0 : q.getD 0 pr0 = q.getD 0 (0, 0) := rfl
      rw [← e0] at z0
      clear e0 hc2
      have HSg := Lib.hid (fun i (hi : i < q.length) => (show (0 < (q.getD i pr0).1 ↔ 0 < (q.getD 0 pr0).1) from by
        have m1 : q.getD i pr0 ∈ q := by rw [List.getD_eq_getElem?_getD, List.getElem?_eq_getElem hi]; exact List.getElem_mem hi
        have m0 : q.getD 0 pr0 ∈ q := by rw [List.getD_eq_getElem?_getD, List.getElem?_eq_getElem (show 0 < q.length by omega)]; exact List.getElem_mem _
        rcases HS.out with h | h
        · have := h _ m1; have := h _ m0; omega
        · have := h _ m1; have := h _ m0; omega))
      obtain ⟨k, hk⟩ : ∃ k, k = q.length := ⟨_, rfl⟩
      rw [← hk] at hq1 hz' HC HSg ⊢
      have HK := Lib.hid hk; clear hk hz
      have hle : (k : Int) ≤ ps.length := by omega
      have hk0' : (0 : Int) < k := by
        have h := hz'
        rw [beq_eq_false_iff_ne] at h
        omega
      generalize (q.getD 0 pr0).1 = s0 at z0 HSg
      go_wp2_with fail
      go_loopw [5] (fun x wx => ∃ j : Nat, j ≤ k ∧ x = .int .i64 j ∧ ∃ m, wx = w4.drewN m) (fun x _ => k - (intOf x).toNat)
      case atStart => exact ⟨0, Nat.zero_le _, rfl, 0, rfl⟩
      case round =>
        obtain ⟨j, hj, rfl, m, rfl⟩ := hrel
        by_cases hlt : j < k
        · have q1 := HC.out j hlt
          have hsg := HSg.out j hlt
          have hone := (Gn.one_at HO.out (show j < q.length by rw [← HK.out]; exact hlt)).1.2.2
          have e1 : q.getD j (0, 0) = q.getD j pr0 := rfl
          rw [e1] at q1
          clear e1
          generalize (q.getD j pr0).1 = x at q1 hsg hone
          have hx0 : (x == 0) = false := by simpa using hone
          have hj1 : (j : Int) < k := by omega
          have hj0 : (0 : Int) ≤ j := by omega
          by_cases hp : 0 < x
          · have hp2 := hsg.1 hp
            have d1 := decide_eq_true hp
            have d2 := decide_eq_true hp2
            clear hsg hone
            go_wp2_with fail
            go_quiet (fail)
            go_wp2_with fail
            go_roundw
            case rel => exact ⟨j + 1, by omega, by go_num, _, (by first | exact World.drewN_drewN _ _ _ | rfl)⟩
            case measure => simp [intOf]; omega
          · have hp2 : ¬ 0 < s0 := fun h => hp (hsg.2 h)
            have d1 := decide_eq_false hp
            have d2 := decide_eq_false hp2
            clear hsg hone
            go_wp2_with fail
            go_quiet (fail)
            go_wp2_with fail
            go_roundw
            case rel => exact ⟨j + 1, by omega, by go_num, _, (by first | exact World.drewN_drewN _ _ _ | rfl)⟩
            case measure => simp [intOf]; omega
        · obtain rfl : j = k := by omega
          go_wp2_with fail
          go_ret
          exact ⟨rfl, HB1.out.trans ((belowT HB14.out m).mono HB1.out.size)⟩
end Go.Proofs.Ytkbojibgbmbmdaa
