/- The law of gains: cash and what the lots cost. -/
import Derived.Test.YtkbojibgbmbmdaaTdL
import Derived.Test.YtkbojibgbmbmdaaLtU
namespace Go.Proofs.Ytkbojibgbmbmdaa
open Go.RowKit
theorem OffRow.r2o {w : World} {B : Nat} {T : TypeId} {v : Value} {q : List Pr} (h : OffRow w B T v q.length (q.flatMap ac2)) : R2o w v q := by
  refine ⟨h.slice, fun h0 => ?_⟩
  obtain ⟨g, o, cap, rfl, ⟨-, hb⟩, -, hc, -⟩ := h.form h0
  refine ⟨g, o, cap, rfl, hb, fun i hi => ?_⟩
  have key : ∀ j, j < 2 → w.cell? ⟨g, o + (i * 2 + j), none⟩ = (ac2 (q.getD i pr0))[j]? := fun j hj => by
    rw [hc (i * 2 + j) (by omega), Nat.mul_comm i 2, flat_at 2 ac2 ac2_len pr0 q i j hi hj]
  have k0 := key 0 (by omega)
  have k1 := key 1 (by omega)
  rw [← Nat.add_assoc] at k0 k1
  exact ⟨k0, k1⟩
def Gn.paid (ps : List Tri) : Int := (ps.map fun t => t.2.1 * t.2.2).sum
theorem Gn.paid_step {ps : List Tri} {i : Nat} (hi : i < ps.length) : Gn.paid (ps.take (i + 1)) = Gn.paid (ps.take i) + (ps.getD i t0).2.1 * (ps.getD i t0).2.2 := by
  unfold Gn.paid
  rw [take_snocT hi, List.map_append, List.sum_append, List.map_cons, List.map_nil, List.sum_cons, List.sum_nil, Int.add_zero]
theorem Gn.prod {m p : Int} (hm : -9999 ≤ m ∧ m ≤ 9999) (hp : 1 ≤ p ∧ p ≤ 50000) : -499950000 ≤ m * p ∧ m * p ≤ 499950000 := by
  have h := Int.natAbs_mul m p
  have h2 : m.natAbs * p.natAbs ≤ 9999 * 50000 := Nat.mul_le_mul (by omega) (by omega)
  omega
theorem Gn.paid_bd {ps : List Tri} (h : ∀ i, i < ps.length → Lt.tone (ps.getD i t0)) : ∀ i : Nat, i ≤ ps.length → -499950000 * (i : Int) ≤ Gn.paid (ps.take i) ∧ Gn.paid (ps.take i) ≤ 499950000 * (i : Int)
  | 0, _ => by simp [Gn.paid]
  | i + 1, hi => by
    have ih := Gn.paid_bd h i (by omega)
    have ht := h i (by omega)
    have hp := Gn.prod ⟨ht.1.1, ht.1.2.1⟩ ht.2
    rw [Gn.paid_step (by omega)]
    omega
theorem Gn.take_snoc2 {q : List Pr} {i : Nat} (hi : i < q.length) : q.take (i + 1) = q.take i ++ [q.getD i pr0] := by
  rw [List.take_succ_eq_append_getElem hi, List.getD_eq_getElem?_getD, List.getElem?_eq_getElem hi]; rfl
theorem Gn.worth_step {q : List Pr} {i : Nat} (hi : i < q.length) : Lt.worth (q.take (i + 1)) = Lt.worth (q.take i) + (q.getD i pr0).1 * (q.getD i pr0).2 := by
  unfold Lt.worth
  rw [Gn.take_snoc2 hi, List.map_append, List.sum_append, List.map_cons, List.map_nil, List.sum_cons, List.sum_nil, Int.add_zero]
theorem Gn.many_step {q : List Pr} {i : Nat} (hi : i < q.length) : Lt.many (q.take (i + 1)) = Lt.many (q.take i) + (q.getD i pr0).1 := by
  unfold Lt.many
  rw [Gn.take_snoc2 hi, List.map_append, List.sum_append, List.map_cons, List.map_nil, List.sum_cons, List.sum_nil, Int.add_zero]
theorem Gn.one_at {q : List Pr} (h : ∀ x ∈ q, Lt.one x) {i : Nat} (hi : i < q.length) : Lt.one (q.getD i pr0) := by
  rw [List.getD_eq_getElem?_getD, List.getElem?_eq_getElem hi]
  exact h _ (List.getElem_mem hi)
theorem Gn.worth_bd {q : List Pr} (h : ∀ x ∈ q, Lt.one x) : ∀ i : Nat, i ≤ q.length → (-499950000 * (i : Int) ≤ Lt.worth (q.take i) ∧ Lt.worth (q.take i) ≤ 499950000 * (i : Int)) ∧ (-9999 * (i : Int) ≤ Lt.many (q.take i) ∧ Lt.many (q.take i) ≤ 9999 * (i : Int))
  | 0, _ => by simp [Lt.worth, Lt.many]
  | i + 1, hi => by
    have ih := Gn.worth_bd h i (by omega)
    have ht := Gn.one_at h (show i < q.length by omega)
    have hp := Gn.prod ⟨ht.1.1, ht.1.2.1⟩ ht.2
    have ha := ht.1
    rw [Gn.worth_step (by omega), Gn.many_step (by omega)]
    omega
set_option maxRecDepth 8000 in
set_option maxHeartbeats 8000000 in
theorem lawGainOf (a : Option Addr) (len cap : Nat) (zs : List Int) (w : World) (h : IsRow .u8 w a len cap zs) :
    Calls Try.prog 6 #[.slice a len cap] w fun e w' => e = .returned (.bool true) ∧ Below w.heap.size w w' := by
  have H := Lib.hid h; clear h
  by_cases hl : 1048576 < (len : Int)
  · go_enter Try.func6, Try.ntmps6
    go_wp2_with fail
    go_ret
    exact ⟨rfl, Below.refl _ _⟩
  · have hl' := decide_eq_false hl
    clear hl
    go_enter Try.func6, Try.ntmps6
    go_wp2_with fail
    refine (drawGO_any _ _ _ _ _ H.out).mono ?_
    rintro e w1 ⟨b, c, ps, rfl, hF, hln, hI, hb1⟩
    have R1 := Lib.hid hF.r3.o
    have HB1 := Lib.hid hb1
    have hm : ps.length ≤ 9223372036854775807 := by omega
    have hne : (Lt.gain ps != Lt.gain ps) = false := by simp
    have heq : (Lt.gain ps == Lt.gain ps) = true := by simp
    clear hF hI hb1
    go_wp2_with fail
    refine (gain_any _ _ _ R1.out hm).mono ?_
    rintro e w2 ⟨rfl, hb2⟩
    have R2 := Lib.hid (R1.out.below hb2 (Nat.le_refl _))
    have HB2 := Lib.hid (HB1.out.trans (hb2.mono HB1.out.size))
    clear hb2
    go_wp2_with fail
    refine (sgain_any _ _ _ R2.out hm).mono ?_
    rintro e w3 ⟨rfl, hb3⟩
    have R3 := Lib.hid (R2.out.below hb3 (Nat.le_refl _))
    have HB3 := Lib.hid (HB2.out.trans (hb3.mono HB2.out.size))
    clear hb3
    have VT := Lib.hid (vtrades_any _ _ _ R3.out hm)
    cases h0 : Td.ok ps with
    | false =>
      rw [h0] at VT
      clear h0
      go_wp2_with fail
      refine VT.out.mono ?_
      rintro e w4 ⟨rfl, hb4⟩
      have R4 := Lib.hid (R3.out.below hb4 (Nat.le_refl _))
      have HB4 := Lib.hid (HB3.out.trans (hb4.mono HB3.out.size))
      clear hb4
      go_wp2_with fail
      refine (sgain_any _ _ _ R4.out hm).mono ?_
      rintro e w5 ⟨rfl, hb5⟩
      go_wp2_with fail
      go_ret
      exact ⟨rfl, HB4.out.trans (hb5.mono HB4.out.size)⟩
    | true =>
      rw [h0] at VT
      have hon := Lt.tones h0
      have hG := Lt.good hon ps.length (Nat.le_refl _)
      rw [List.take_of_length_le (Nat.le_refl _)] at hG
      have eL : Lt.lots ps = (Lt.st ps).1 := by unfold Lt.lots; rw [if_pos h0]
      have eG : Lt.gain ps = (Lt.st ps).2 := by unfold Lt.gain; rw [if_pos h0]
      have h16 := (Td.parts h0).1
      have hll : (Lt.lots ps).length ≤ 16 := by rw [eL]; have := hG.len; omega
      have HLo := Lib.hid (show ∀ x ∈ Lt.lots ps, Lt.one x by rw [eL]; exact hG.one)
      have HFin := Lib.hid (show -Gn.paid ps + Lt.worth (Lt.lots ps) = Lt.gain ps by rw [eL, eG]; have := hG.worth; unfold Gn.paid; omega)
      have HPb := Lib.hid (Gn.paid_bd hon)
      have HPs := Lib.hid (fun i (hi : i < ps.length) => Gn.paid_step hi)
      have HTn := Lib.hid hon
      clear h0 hon hG eL eG
      have HWb := Lib.hid (Gn.worth_bd HLo.out)
      have HWs := Lib.hid (fun i (hi : i < (Lt.lots ps).length) => Gn.worth_step hi)
      have LO := Lib.hid (fun W (hW : Below w3.heap.size w3 W) => lots_any W _ ps (R3.out.below hW (Nat.le_refl _)) hm)
      generalize Lt.lots ps = q at *
      generalize Lt.gain ps = G at *
      have HE := Lib.hid (show ∀ i, ps.length ≤ i → ps.take i = ps from fun i hi => List.take_of_length_le hi)
      have HE2 := Lib.hid (show ∀ i, q.length ≤ i → q.take i = q from fun i hi => List.take_of_length_le hi)
      obtain ⟨n, hn⟩ : ∃ n, n = ps.length := ⟨_, rfl⟩
      rw [← hn] at hln hm h16 VT HPb HPs HTn HE LO ⊢
      have R3n := R3
      rw [← hn] at R3n
      have HN := Lib.hid hn; clear hn
      go_wp2_with fail
      refine VT.out.mono ?_
      rintro e w4 ⟨rfl, hb4⟩
      have R4 := Lib.hid (R3n.out.below hb4 (Nat.le_refl _))
      have HB34 := Lib.hid hb4
      have HB4 := Lib.hid (HB3.out.trans (hb4.mono HB3.out.size))
      clear hb4 VT
      go_wp2_with fail
      go_loopw [5, 6] (fun s x wx => ∃ i : Nat, i ≤ n ∧ x = .int .i64 i ∧ s = .int .i64 (-Gn.paid (ps.take i)) ∧ ∃ m, wx = w4.drewN m) (fun _ x _ => n - (intOf x).toNat)
      case atStart => exact ⟨0, Nat.zero_le _, rfl, by simp [Gn.paid], 0, rfl⟩
      case round =>
        obtain ⟨i, hi, rfl, rfl, m, rfl⟩ := hrel
        by_cases hlt : i < n
        · obtain ⟨b1, o1, d1, e1, hbl1, hc1⟩ := R4.out.2 (by rw [← HN.out]; omega)
          rw [← HN.out] at e1
          simp only [Value.slice.injEq, Option.some.injEq, Addr.mk.injEq, and_true, true_and] at e1
          obtain ⟨⟨rfl, rfl⟩, rfl⟩ := e1
          obtain ⟨-, q1, q2⟩ := hc1 i (by rw [← HN.out]; exact hlt)
          simp only [Nat.zero_add] at q1 q2
          have ht := HTn.out i hlt
          obtain ⟨s0, s1⟩ := HPb.out i hi
          have HPi := Lib.hid (HPs.out i hlt)
          clear hc1
          generalize ps.getD i t0 = t at q1 q2 ht HPi
          obtain ⟨td, tm, tp⟩ := t
          obtain ⟨⟨m0, m1, m2⟩, p0, p1⟩ := ht
          simp only at q1 q2 m0 m1 m2 p0 p1 HPi
          obtain ⟨z0, z1⟩ := Gn.prod ⟨m0, m1⟩ ⟨p0, p1⟩
          have hi1 : (i : Int) < n := by omega
          have hi0 : (0 : Int) ≤ i := by omega
          have hi6 : (i : Int) ≤ 16 := by omega
          generalize Gn.paid (ps.take i) = S at s0 s1 HPi ⊢
          have HPj := Lib.hid (show -Gn.paid (ps.take (i + 1)) = -S - tm * tp by rw [HPi.out]; omega)
          clear HPi
          go_wp2_with fail
          go_quiet (fail)
          go_wp2_with fail
          go_roundw
          case rel => exact ⟨i + 1, by omega, by go_num, by rw [HPj.out], _, (by first | exact World.drewN_drewN _ _ _ | rfl)⟩
          case measure => simp [intOf]; omega
        · obtain rfl : i = n := by omega
          rw [HE.out i (Nat.le_refl _)]
          obtain ⟨s0, s1⟩ := HPb.out i (Nat.le_refl _)
          rw [HE.out i (Nat.le_refl _)] at s0 s1
          have LO2 := Lib.hid (LO.out (w4.drewN m) (belowT HB34.out m))
          have HB4m := Lib.hid (belowT HB4.out m)
          generalize Gn.paid ps = P at s0 s1 HFin ⊢
          go_wp2_with fail
          refine LO2.out.mono ?_
          rintro e w5 ⟨⟨u, rfl, hu⟩, hb5⟩
          have HU := Lib.hid hu.r2o
          obtain ⟨au, cu, rfl⟩ := hu.slice
          have HB5 := Lib.hid (HB4m.out.trans (hb5.mono HB4m.out.size))
          obtain ⟨k, hk⟩ : ∃ k, k = q.length := ⟨_, rfl⟩
          rw [← hk] at hll HWb HWs HE2 ⊢
          have HK := Lib.hid hk; clear hk hu hb5 LO2
          go_wp2_with fail
          go_loopw [5, 8] (fun s x wx => ∃ j : Nat, j ≤ k ∧ x = .int .i64 j ∧ s = .int .i64 (-P + Lt.worth (q.take j)) ∧ ∃ m, wx = w5.drewN m) (fun _ x _ => k - (intOf x).toNat)
          case atStart => exact ⟨0, Nat.zero_le _, rfl, by simp [Lt.worth], 0, rfl⟩
          case round =>
            obtain ⟨j, hj, rfl, rfl, m2, rfl⟩ := hrel
            by_cases hlt2 : j < k
            · obtain ⟨b2, o2, d2, e2, hbl2, hc2⟩ := HU.out.2 (by rw [← HK.out]; omega)
              rw [← HK.out] at e2
              simp only [Value.slice.injEq, true_and] at e2
              obtain ⟨rfl, rfl⟩ := e2
              obtain ⟨q1, q2⟩ := hc2 j (by rw [← HK.out]; exact hlt2)
              have ht := Gn.one_at HLo.out (show j < q.length by rw [← HK.out]; exact hlt2)
              obtain ⟨⟨t0', t1'⟩, -⟩ := HWb.out j hj
              have HWi := Lib.hid (HWs.out j hlt2)
              clear hc2
              generalize hqe : q.getD j pr0 = t at ht HWi
              have hqe2 : q.getD j (0, 0) = t := hqe
              rw [hqe2] at q1 q2
              clear hqe hqe2
              obtain ⟨tm, tp⟩ := t
              obtain ⟨⟨m0, m1, mx⟩, p0, p1⟩ := ht
              simp only at q1 q2 m0 m1 mx p0 p1 HWi
              obtain ⟨z0, z1⟩ := Gn.prod ⟨m0, m1⟩ ⟨p0, p1⟩
              have hi1 : (j : Int) < k := by omega
              have hi0 : (0 : Int) ≤ j := by omega
              have hi6 : (j : Int) ≤ 16 := by omega
              generalize Lt.worth (q.take j) = S at t0' t1' HWi ⊢
              have HWj := Lib.hid (show -P + Lt.worth (q.take (j + 1)) = -P + S + tm * tp by rw [HWi.out]; omega)
              clear HWi
              go_wp2_with fail
              go_quiet (fail)
              go_wp2_with fail
              go_roundw
              case rel => exact ⟨j + 1, by omega, by go_num, by rw [HWj.out], _, (by first | exact World.drewN_drewN _ _ _ | rfl)⟩
              case measure => simp [intOf]; omega
            · obtain rfl : j = k := by omega
              rw [HE2.out j (Nat.le_refl _), HFin.out]
              go_wp2_with fail
              go_ret
              exact ⟨rfl, belowT HB5.out m2⟩
end Go.Proofs.Ytkbojibgbmbmdaa
