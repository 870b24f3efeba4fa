/- The law of positions: sums of lots. -/
import Derived.Test.YtkbojibgbmbmdaaGnL
namespace Go.Proofs.Ytkbojibgbmbmdaa
open Go.RowKit
theorem Gn.mono {ps : List Tri} (h : Td.ok ps = true) {i : Nat} : ∀ d : Nat, i + d < ps.length → (ps.getD i t0).1 ≤ (ps.getD (i + d) t0).1
  | 0, _ => Int.le_refl _
  | d + 1, hd => by
    have ih := Gn.mono h (i := i) d (by omega)
    unfold Td.ok at h
    rw [Bool.and_eq_true, Bool.and_eq_true] at h
    have h1 := Td.asc_iff.1 h.2.2 (i + d) (by omega)
    have e : i + d + 1 = i + (d + 1) := by omega
    rw [e] at h1
    omega
theorem Gn.mem_at {ps : List Tri} {P : Tri → Prop} (h : ∀ i, i < ps.length → P (ps.getD i t0)) : ∀ x ∈ ps, P x := fun x hx => by
  obtain ⟨i, hi, rfl⟩ := List.getElem_of_mem hx
  have := h i hi
  rwa [List.getD_eq_getElem?_getD, List.getElem?_eq_getElem hi] at this
theorem Gn.sum_all : ∀ (ps : List Tri) (d : Int), (∀ x ∈ ps, x.1 ≤ d) → Po.sum ps d = (ps.map (·.2.1)).sum
  | [], _, _ => rfl
  | p :: ps, d, h => by
    have ih := Gn.sum_all ps d fun x hx => h x (List.mem_cons_of_mem _ hx)
    have h1 := h p List.mem_cons_self
    unfold Po.sum Po.one at *
    rw [List.map_cons, List.sum_cons, List.map_cons, List.sum_cons, ih, if_pos h1]
theorem Gn.sum_none : ∀ (ps : List Tri) (d : Int), (∀ x ∈ ps, d < x.1) → Po.sum ps d = 0
  | [], _, _ => rfl
  | p :: ps, d, h => by
    have ih := Gn.sum_none ps d fun x hx => h x (List.mem_cons_of_mem _ hx)
    have h1 := h p List.mem_cons_self
    unfold Po.sum Po.one at *
    rw [List.map_cons, List.sum_cons, ih, if_neg (by omega)]; rfl
set_option maxRecDepth 8000 in
set_option maxHeartbeats 8000000 in
theorem lawPositionAt (a : Option Addr) (len cap : Nat) (zs : List Int) (w : World) (h : IsRow .u8 w a len cap zs) :
    Calls Try.prog 4 #[.slice a len cap] w fun e w' => e = .returned (.bool true) ∧ Below w.heap.size w w' := by
  have H := Lib.hid h; clear h
  by_cases hl : 1048576 < (len : Int)
  · go_enter Try.func4, Try.ntmps4
    go_wp2_with fail
    go_ret
    exact ⟨rfl, Below.refl _ _⟩
  · have hl' := decide_eq_false hl
    clear hl
    go_enter Try.func4, Try.ntmps4
    go_wp2_with fail
    refine (drawPA_any _ _ _ _ _ H.out).mono ?_
    rintro e w1 ⟨b, c, ps, dy, rfl, hF, hln, hI, ⟨dy0, dy1⟩, hb1⟩
    have R1 := Lib.hid hF.r3.o
    have HB1 := Lib.hid hb1
    have hm : ps.length ≤ 9223372036854775807 := by omega
    have hne : (Po.val ps dy != Po.val ps dy) = false := by simp
    have heq : (Po.val ps dy == Po.val ps dy) = true := by simp
    clear hF hI hb1
    go_wp2_with fail
    refine (posAt_any _ _ _ _ R1.out hm).mono ?_
    rintro e w2 ⟨rfl, hb2⟩
    have R2 := Lib.hid (R1.out.below hb2 (Nat.le_refl _))
    have HB2 := Lib.hid (HB1.out.trans (hb2.mono HB1.out.size))
    clear hb2
    go_wp2_with fail
    refine (sposAt_any _ _ _ _ R2.out hm).mono ?_
    rintro e w3 ⟨rfl, hb3⟩
    have R3 := Lib.hid (R2.out.below hb3 (Nat.le_refl _))
    have HB3 := Lib.hid (HB2.out.trans (hb3.mono HB2.out.size))
    clear hb3
    have VT := Lib.hid (vtrades_any _ _ _ R3.out hm)
    have SV := Lib.hid (fun W (hW : Below w3.heap.size w3 W) => sposAt_any W _ ps dy (R3.out.below hW (Nat.le_refl _)) hm)
    cases h0 : Td.ok ps with
    | false =>
      rw [h0] at VT
      clear h0
      go_wp2_with fail
      refine VT.out.mono ?_
      rintro e w4 ⟨rfl, hb4⟩
      have HB34 := Lib.hid hb4
      have HB4 := Lib.hid (HB3.out.trans (hb4.mono HB3.out.size))
      clear hb4
      go_wp2_with fail
      refine (SV.out _ HB34.out).mono ?_
      rintro e w5 ⟨rfl, hb5⟩
      go_wp2_with fail
      go_ret
      exact ⟨rfl, HB4.out.trans (hb5.mono HB4.out.size)⟩
    | true =>
      rw [h0] at VT
      by_cases hz : ps.length = 0
      · have hz' : ((ps.length : Int) == 0) = true := by rw [hz]; rfl
        clear h0 hz
        go_wp2_with fail
        refine VT.out.mono ?_
        rintro e w4 ⟨rfl, hb4⟩
        have HB34 := Lib.hid hb4
        have HB4 := Lib.hid (HB3.out.trans (hb4.mono HB3.out.size))
        clear hb4
        go_wp2_with fail
        refine (SV.out _ HB34.out).mono ?_
        rintro e w5 ⟨rfl, hb5⟩
        go_wp2_with fail
        go_ret
        exact ⟨rfl, HB4.out.trans (hb5.mono HB4.out.size)⟩
      · have hz' : ((ps.length : Int) == 0) = false := by simp only [beq_eq_false_iff_ne, ne_eq]; omega
        have hon := Lt.tones h0
        have hG := Lt.good hon ps.length (Nat.le_refl _)
        rw [List.take_of_length_le (Nat.le_refl _)] at hG
        have eL : Lt.lots ps = (Lt.st ps).1 := by unfold Lt.lots; rw [if_pos h0]
        obtain ⟨k, hk⟩ : ∃ k, ps.length = k + 1 := ⟨ps.length - 1, by omega⟩
        have h16 := (Td.parts h0).1
        have hdd := fun i hi => ((Td.parts h0).2 i hi).1
        have hll : (Lt.lots ps).length ≤ 16 := by rw [eL]; have := hG.len; omega
        have HLo := Lib.hid (show ∀ x ∈ Lt.lots ps, Lt.one x by rw [eL]; exact hG.one)
        have HLast := Lib.hid (show Po.val ps (ps.getD k t0).1 = Lt.many (Lt.lots ps) by
          unfold Po.val
          rw [if_pos h0, eL, hG.many]
          exact Gn.sum_all ps _ (Gn.mem_at fun i hi => by
            have := Gn.mono h0 (i := i) (k - i) (by omega)
            rwa [show i + (k - i) = k by omega] at this))
        have HFirst := Lib.hid (show Po.val ps ((ps.getD 0 t0).1 - 1) = 0 by
          unfold Po.val
          rw [if_pos h0]
          exact Gn.sum_none ps _ (Gn.mem_at fun i hi => by
            have := Gn.mono h0 (i := 0) i (by omega)
            rw [Nat.zero_add] at this
            omega))
        obtain ⟨e0, e1⟩ := hdd k (by omega)
        obtain ⟨f0, f1⟩ := hdd 0 (by omega)
        obtain ⟨b1, o1, d1, e, hbl1, hc1⟩ := R3.out.2 (by omega)
        simp only [Value.slice.injEq, Option.some.injEq, Addr.mk.injEq, and_true, true_and] at e
        obtain ⟨⟨rfl, rfl⟩, rfl⟩ := e
        have ck := (hc1 k (by omega)).1
        have cz := (hc1 0 (by omega)).1
        simp only [Nat.zero_add, Nat.zero_mul] at ck cz
        have HCk := Lib.hid (fun W (hW : Below w3.heap.size w3 W) => And.intro ((hW.cell (p := ⟨b, k * 3, none⟩) hbl1).trans ck) ((hW.cell (p := ⟨b, 0, none⟩) hbl1).trans cz))
        have HWb := Lib.hid (Gn.worth_bd HLo.out)
        have HMs := Lib.hid (fun i (hi : i < (Lt.lots ps).length) => Gn.many_step hi)
        have LO := Lib.hid (fun W (hW : Below w3.heap.size w3 W) => lots_any W _ ps (R3.out.below hW (Nat.le_refl _)) hm)
        have PA := Lib.hid (fun W x (hW : Below w3.heap.size w3 W) => posAt_any W _ ps x (R3.out.below hW (Nat.le_refl _)) hm)
        clear h0 hon hG eL hz hdd hc1 ck cz
        generalize Lt.lots ps = q at *
        generalize (ps.getD k t0).1 = dk at *
        generalize (ps.getD 0 t0).1 = dz at *
        have HE2 := Lib.hid (show ∀ i, q.length ≤ i → q.take i = q from fun i hi => List.take_of_length_le hi)
        rw [hk] at LO PA VT hz' h16 ⊢
        have HKn := Lib.hid hk; clear hk
        go_wp2_with fail
        refine VT.out.mono ?_
        rintro e w4 ⟨rfl, hb4⟩
        have HB34 := Lib.hid hb4
        have HB4 := Lib.hid (HB3.out.trans (hb4.mono HB3.out.size))
        clear hb4 VT
        go_wp2_with fail
        refine (LO.out _ HB34.out).mono ?_
        rintro e w5 ⟨⟨u, rfl, hu⟩, hb5⟩
        have HU := Lib.hid hu.r2o
        obtain ⟨au, cu, rfl⟩ := hu.slice
        have HB35 := Lib.hid (HB34.out.trans (hb5.mono HB34.out.size))
        have HB5 := Lib.hid (HB4.out.trans (hb5.mono HB4.out.size))
        obtain ⟨ck, cz⟩ := HCk.out w5 HB35.out
        obtain ⟨t, htq⟩ : ∃ t, t = q.length := ⟨_, rfl⟩
        rw [← htq] at hll HWb HMs HE2 ⊢
        have HK := Lib.hid htq; clear htq hu hb5
        go_wp2_with fail
        go_loop [7, 8] (fun s x => ∃ j : Nat, j ≤ t ∧ x = .int .i64 j ∧ s = .int .i64 (Lt.many (q.take j))) (fun _ x => t - (intOf x).toNat)
        case atStart => exact ⟨0, Nat.zero_le _, rfl, by simp [Lt.many]⟩
        case round =>
          obtain ⟨j, hj, rfl, rfl⟩ := hrel
          by_cases hlt2 : j < t
          · obtain ⟨b2, o2, d2, e2, hbl2, hc2⟩ := HU.out.2 (by rw [← HK.out]; omega)
            rw [← HK.out] at e2
            simp only [Value.slice.injEq, true_and] at e2
            obtain ⟨rfl, rfl⟩ := e2
            obtain ⟨q1, -⟩ := hc2 j (by rw [← HK.out]; exact hlt2)
            have ht := Gn.one_at HLo.out (show j < q.length by rw [← HK.out]; exact hlt2)
            obtain ⟨-, t0', t1'⟩ := HWb.out j hj
            have HWi := Lib.hid (HMs.out j hlt2)
            clear hc2
            generalize hqe : q.getD j pr0 = x at ht HWi
            have hqe2 : q.getD j (0, 0) = x := hqe
            rw [hqe2] at q1
            clear hqe hqe2
            obtain ⟨tm, tp⟩ := x
            obtain ⟨⟨m0, m1, mx⟩, p0, p1⟩ := ht
            simp only at q1 m0 m1 mx p0 p1 HWi
            have hi1 : (j : Int) < t := by omega
            have hi0 : (0 : Int) ≤ j := by omega
            have hi6 : (j : Int) ≤ 16 := by omega
            generalize Lt.many (q.take j) = S at t0' t1' HWi ⊢
            go_wp2_with fail
            go_round
            case rel => exact ⟨j + 1, by omega, by go_num, by rw [HWi.out]⟩
            case measure => simp [intOf]; omega
          · obtain rfl : j = t := by omega
            rw [HE2.out j (Nat.le_refl _), ← HLast.out]
            have P1 := Lib.hid (PA.out w5 dk HB35.out)
            have hkk : (0 : Int) ≤ k := by omega
            have hk1 : (k : Int) < k + 1 := by omega
            have heq3 : (Po.val ps dk == Po.val ps dk) = true := by simp
            go_wp2_with fail
            refine P1.out.mono ?_
            rintro e w6 ⟨rfl, hb6⟩
            have HB36 := Lib.hid (HB35.out.trans (hb6.mono HB35.out.size))
            have HB6 := Lib.hid (HB5.out.trans (hb6.mono HB5.out.size))
            obtain ⟨-, cz2⟩ := HCk.out w6 HB36.out
            have P2 := Lib.hid (PA.out w6 (dz - 1) HB36.out)
            rw [HFirst.out] at P2
            clear hb6 ck cz
            go_wp2_with fail
            refine P2.out.mono ?_
            rintro e w7 ⟨rfl, hb7⟩
            go_wp2_with fail
            go_ret
            exact ⟨rfl, HB6.out.trans (hb7.mono HB6.out.size)⟩
end Go.Proofs.Ytkbojibgbmbmdaa
