/- Bids on both sides: which are valid, sums up to a yield, the model's yield at which an auction stops. -/
import Derived.Test.YtgiejiiiokdbpaaAvBid
namespace Go.Proofs.Ytgiejiiiokdbpaa
open Go.RowKit
set_option maxHeartbeats 2000000 in
theorem svbids_any (w : World) (v : Value) (ps : List Pr) (hv : R2o w v ps) (hm : ps.length ≤ 9223372036854775807) :
    Calls Try.prog 66 #[v] w fun x w' => x = .returned (.bool (Bd.ok ps)) ∧ w = w' := by
  obtain ⟨⟨a, c, rfl⟩, h1⟩ := hv
  have H1 := Lib.hid h1; clear h1
  have HO := Lib.hid (show Bd.ok ps = (btw ps.length 0 8 && ps.all Bd.one) from rfl)
  obtain ⟨n, hn⟩ : ∃ n, n = ps.length := ⟨_, rfl⟩
  rw [← hn] at hm HO ⊢
  have HN := Lib.hid hn; clear hn
  go_enter Try.func66, Try.ntmps66
  go_wp2_with fail
  go_loop [3] (fun x => ∃ i : Nat, i ≤ n ∧ x = .int .i64 i ∧ Hid (∀ j, j < i → Bd.one (ps.getD j pr0) = true)) (fun x => n - (intOf x).toNat)
  case atStart => exact ⟨0, Nat.zero_le _, rfl, Lib.hid (fun j hj => by omega)⟩
  case round =>
    obtain ⟨i, hi, rfl, HH⟩ := hrel
    by_cases hlt : i < n
    · obtain ⟨b, off, d', e, hbl, hc⟩ := H1.out (by rw [← HN.out]; omega)
      rw [← HN.out] at e
      simp only [Value.slice.injEq, true_and] at e
      obtain ⟨rfl, rfl⟩ := e
      obtain ⟨c0, c1⟩ := hc i (by rw [← HN.out]; exact hlt)
      clear hc
      have HB := Lib.hid (fun (h : Bd.one (ps.getD i pr0) = false) => allB_bad Bd.one pr0 (by rw [← HN.out]; exact hlt) h)
      have HG : Hid (Bd.one (ps.getD i pr0) = true → ∀ j, j < i + 1 → Bd.one (ps.getD j pr0) = true) := Lib.hid (fun h j hj => by
        rcases Nat.lt_or_ge j i with q | q
        · exact HH.out j q
        · obtain rfl : j = i := by omega
          exact h)
      generalize ps.getD i pr0 = p at c0 c1 HB HG
      obtain ⟨f, t⟩ := p
      simp only at c0 c1
      cases h0 : btw f 0 3000 with
      | false =>
        have E := Lib.hid (HB.out (by unfold Bd.one; simp only [h0]; rfl))
        go_wp2_with fail
        refine (inRange_any _ _ _ _).mono ?_
        rintro e w1 ⟨rfl, rfl⟩
        rw [h0]
        go_wp2_with fail
        go_ret
        exact ⟨ret_bool (by rw [HO.out, E.out]; simp), rfl⟩
      | true =>
        cases h1 : btw t 1 9999 with
        | false =>
          have E := Lib.hid (HB.out (by unfold Bd.one; simp only [h0, h1]; rfl))
          go_wp2_with fail
          refine (inRange_any _ _ _ _).mono ?_
          rintro e w1 ⟨rfl, rfl⟩
          rw [h0]
          go_wp2_with fail
          refine (inRange_any _ _ _ _).mono ?_
          rintro e w1 ⟨rfl, rfl⟩
          rw [h1]
          go_wp2_with fail
          go_ret
          exact ⟨ret_bool (by rw [HO.out, E.out]; simp), rfl⟩
        | true =>
          have E := Lib.hid (HG.out (by unfold Bd.one; simp only [h0, h1]; rfl))
          go_wp2_with fail
          refine (inRange_any _ _ _ _).mono ?_
          rintro e w1 ⟨rfl, rfl⟩
          rw [h0]
          go_wp2_with fail
          refine (inRange_any _ _ _ _).mono ?_
          rintro e w1 ⟨rfl, rfl⟩
          rw [h1]
          go_wp2_with fail
          go_round
          case rel => exact ⟨i + 1, by omega, by go_num, E⟩
          case measure => simp [intOf] <;> omega
    · obtain rfl : i = n := by omega
      have HF := Lib.hid (allB_take Bd.one pr0 HH.out HN.out)
      by_cases h10 : i ≤ 8
      · have q : (i : Int) ≤ 8 := by omega
        go_wp2_with fail
        go_ret
        exact ⟨ret_bool (by rw [HO.out, HF.out, btw_t (by omega) q]; rfl), rfl⟩
      · have q : ¬ (i : Int) ≤ 8 := by omega
        go_wp2_with fail
        go_ret
        exact ⟨ret_bool (by rw [HO.out, HF.out, btw_f (.inr (by omega))]; rfl), rfl⟩
set_option maxHeartbeats 400000 in
theorem vbids_any (w : World) (v : Value) (ps : List Pr) (hv : R2o w v ps) (hm : ps.length ≤ 9223372036854775807) :
    Calls Try.prog 81 #[v] w fun x w' => x = .returned (.bool (Bd.ok ps)) ∧ Below w.heap.size w w' := by
  have HX := Lib.hid (av_Bid w v ps 0 8 hv hm)
  obtain ⟨⟨a, c, rfl⟩, h1⟩ := hv
  clear h1
  go_enter Try.func81, Try.ntmps81
  go_wp2_with fail
  refine HX.out.mono ?_
  rintro e w1 ⟨rfl, hb⟩
  go_wp2_with fail
  go_ret
  exact ⟨rfl, hb⟩
theorem Bd.parts {ps : List Pr} (h : Bd.ok ps = true) : ps.length ≤ 8 ∧ ps.all Bd.one = true := by
  unfold Bd.ok at h
  rw [Bool.and_eq_true, btw_iff] at h
  exact ⟨by omega, h.2⟩
/-- Whether bonds can be sold. -/
def Bd.auc (ps : List Pr) (n : Int) : Bool := Bd.ok ps && btw n 1 1000000000
def Bd.val (ps : List Pr) (n : Int) : Int := if Bd.auc ps n = true then Bd.stop ps n else -1
theorem Bd.val_yes {ps : List Pr} {n : Int} (h : Bd.auc ps n = true) : Bd.val ps n = Bd.stop ps n := if_pos h
theorem Bd.val_no {ps : List Pr} {n : Int} (h : Bd.auc ps n = false) : Bd.val ps n = -1 := if_neg (by rw [h]; simp)
set_option maxHeartbeats 400000 in
theorem auction_any (w : World) (v : Value) (ps : List Pr) (n : Int) (hv : R2o w v ps) (hm : ps.length ≤ 9223372036854775807) :
    Calls Try.prog 60 #[v, .int .i64 n] w fun x w' => x = .returned (.bool (Bd.auc ps n)) ∧ Below w.heap.size w w' := by
  have HX := Lib.hid (vbids_any w v ps hv hm)
  obtain ⟨⟨a, c, rfl⟩, h1⟩ := hv
  clear h1
  have hO : Bd.auc ps n = (Bd.ok ps && btw n 1 1000000000) := rfl
  cases h : Bd.ok ps with
  | false =>
    rw [h, Bool.false_and] at hO
    have H := Lib.hid h; clear h
    have HO := Lib.hid hO; clear hO
    go_enter Try.func60, Try.ntmps60
    go_wp2_with fail
    refine HX.out.mono ?_
    rw [H.out]
    rintro e w1 ⟨rfl, hb⟩
    go_wp2_with fail
    go_ret
    exact ⟨ret_bool HO.out.symm, hb⟩
  | true =>
    rw [h, Bool.true_and] at hO
    have H := Lib.hid h; clear h
    have HO := Lib.hid hO; clear hO
    go_enter Try.func60, Try.ntmps60
    go_wp2_with fail
    refine HX.out.mono ?_
    rw [H.out]
    rintro e w1 ⟨rfl, hb⟩
    go_wp2_with fail
    refine (between_any _ _ _ _).mono ?_
    rintro e w2 ⟨rfl, rfl⟩
    go_wp2_with fail
    go_ret
    exact ⟨ret_bool HO.out.symm, hb⟩
theorem Bd.below_take {ps : List Pr} {i : Nat} (hi : i < ps.length) (x : Int) : Bd.below (ps.take (i + 1)) x = Bd.below (ps.take i) x + Bd.add (ps.getD i pr0) x := by
  have : ps.take (i + 1) = ps.take i ++ [ps.getD i pr0] := by
    rw [List.take_add_one, List.getD_eq_getElem?_getD, List.getElem?_eq_getElem hi]; rfl
  unfold Bd.below
  rw [this, List.map_append, List.sum_append]
  simp
theorem Bd.below_bd {ps : List Pr} (h : ps.all Bd.one = true) (x : Int) : ∀ i : Nat, i ≤ ps.length → 0 ≤ Bd.below (ps.take i) x ∧ Bd.below (ps.take i) x ≤ 9999 * (i : Int)
  | 0, _ => by simp [Bd.below]
  | i + 1, hi => by
    have ih := Bd.below_bd h x i (by omega)
    have o := Bd.one_iff.1 (allB_at pr0 h (show i < ps.length by omega))
    rw [Bd.below_take (by omega)]
    unfold Bd.add
    split <;> omega
set_option maxHeartbeats 1000000 in
theorem sbelow_any (w : World) (v : Value) (ps : List Pr) (x : Int) (hv : R2o w v ps) (h : ps.all Bd.one = true) (hm : ps.length ≤ 8) :
    Calls Try.prog 83 #[v, .int .i64 x] w fun e w' => e = .returned (.int .i64 (Bd.below ps x)) ∧ w = w' := by
  obtain ⟨⟨a, c, rfl⟩, h1⟩ := hv
  have H1 := Lib.hid h1; clear h1
  have HB := Lib.hid (Bd.below_bd h x)
  have HA := Lib.hid (fun i (hi : i < ps.length) => Bd.one_iff.1 (allB_at pr0 h hi))
  have HT := Lib.hid (fun i (hi : i < ps.length) => Bd.below_take hi x)
  have HE := Lib.hid (show ∀ i, ps.length ≤ i → ps.take i = ps from fun i hi => List.take_of_length_le hi)
  clear h
  obtain ⟨n, hn⟩ : ∃ n, n = ps.length := ⟨_, rfl⟩
  rw [← hn] at hm ⊢
  have HN := Lib.hid hn; clear hn
  go_enter Try.func83, Try.ntmps83
  go_wp2_with fail
  go_loop [5, 6] (fun s y => ∃ i : Nat, i ≤ n ∧ y = .int .i64 i ∧ s = .int .i64 (Bd.below (ps.take i) x)) (fun _ y => n - (intOf y).toNat)
  case atStart => exact ⟨0, Nat.zero_le _, rfl, by simp [Bd.below]⟩
  case round =>
    obtain ⟨i, hi, rfl, rfl⟩ := hrel
    by_cases hlt : i < n
    · obtain ⟨b, off, d', e, hbl, hc⟩ := H1.out (by rw [← HN.out]; omega)
      rw [← HN.out] at e
      simp only [Value.slice.injEq, true_and] at e
      obtain ⟨rfl, rfl⟩ := e
      obtain ⟨c0, c1⟩ := hc i (by rw [← HN.out]; exact hlt)
      clear hc
      obtain ⟨⟨a0, a1⟩, a2, a3⟩ := HA.out i (by rw [← HN.out]; exact hlt)
      obtain ⟨s0, s1⟩ := HB.out i (by rw [← HN.out]; exact hi)
      have hTi := HT.out i (by rw [← HN.out]; exact hlt)
      generalize ps.getD i pr0 = p at c0 c1 a0 a1 a2 a3 hTi
      obtain ⟨y, m⟩ := p
      simp only at c0 c1 a0 a1 a2 a3
      generalize Bd.below (ps.take i) x = S at s0 s1 hTi
      by_cases hy : y ≤ x
      · rw [show Bd.add (y, m) x = m from if_pos hy] at hTi
        have HTi := Lib.hid hTi; clear hTi
        go_wp2_with fail
        go_round
        case rel => exact ⟨i + 1, by omega, by go_num, by rw [HTi.out]⟩
        case measure => simp [intOf]; omega
      · rw [show Bd.add (y, m) x = 0 from if_neg hy, Int.add_zero] at hTi
        have HTi := Lib.hid hTi; clear hTi
        go_wp2_with fail
        go_round
        case rel => exact ⟨i + 1, by omega, by go_num, by rw [HTi.out]⟩
        case measure => simp [intOf]; omega
    · obtain rfl : i = n := by omega
      rw [HE.out i (by rw [← HN.out]; exact Nat.le_refl _)]
      go_wp2_with fail
      go_ret
      exact ⟨rfl, rfl⟩
set_option maxHeartbeats 1000000 in
theorem sstop_any (w : World) (v : Value) (ps : List Pr) (x : Int) (hv : R2o w v ps) (h : ps.all Bd.one = true) (hm : ps.length ≤ 8) :
    Calls Try.prog 67 #[v, .int .i64 x] w fun e w' => e = .returned (.int .i64 (Bd.stop ps x)) ∧ w = w' := by
  have HS := Lib.hid (fun y W (hW : R2o W v ps) => sbelow_any W v ps y hW h hm)
  have HV := Lib.hid hv
  obtain ⟨⟨a, c, rfl⟩, h1⟩ := hv
  have H1 := Lib.hid h1; clear h1
  have HB := Lib.hid (fun y => (by have := Bd.below_bd h y ps.length (Nat.le_refl _); rw [List.take_length] at this; exact this : 0 ≤ Bd.below ps y ∧ Bd.below ps y ≤ 9999 * (ps.length : Int)))
  have HA := Lib.hid (fun i (hi : i < ps.length) => Bd.one_iff.1 (allB_at pr0 h hi))
  have HG := Lib.hid (fun i (hi : i ≤ ps.length) => Bd.best_ge ps x (fun p hp => by have := Bd.one_iff.1 (List.all_eq_true.1 h p hp); omega) hi)
  have HU := Lib.hid (show ∀ i, Bd.best ps x (i + 1) = if x ≤ Bd.below ps (ps.getD i pr0).1 ∧ (Bd.best ps x i < 0 ∨ (ps.getD i pr0).1 < Bd.best ps x i) then (ps.getD i pr0).1 else Bd.best ps x i from fun _ => rfl)
  have HL := Lib.hid (show Bd.stop ps x = Bd.best ps x ps.length from rfl)
  clear h
  obtain ⟨n, hn⟩ : ∃ n, n = ps.length := ⟨_, rfl⟩
  rw [← hn] at hm HL HB HG HV HS ⊢
  have HN := Lib.hid hn; clear hn
  go_enter Try.func67, Try.ntmps67
  go_wp2_with fail
  go_loop [5, 6] (fun s y => ∃ i : Nat, i ≤ n ∧ y = .int .i64 i ∧ s = .int .i64 (Bd.best ps x i)) (fun _ y => n - (intOf y).toNat)
  case atStart => exact ⟨0, Nat.zero_le _, rfl, rfl⟩
  case round =>
    obtain ⟨i, hi, rfl, rfl⟩ := hrel
    by_cases hlt : i < n
    · obtain ⟨b, off, d', e, hbl, hc⟩ := H1.out (by rw [← HN.out]; omega)
      rw [← HN.out] at e
      simp only [Value.slice.injEq, true_and] at e
      obtain ⟨rfl, rfl⟩ := e
      obtain ⟨c0, c1⟩ := hc i (by rw [← HN.out]; exact hlt)
      clear hc
      obtain ⟨⟨a0, a1⟩, a2, a3⟩ := HA.out i (by rw [← HN.out]; exact hlt)
      have hUi := HU.out i
      have hG := HG.out i hi
      generalize ps.getD i pr0 = p at c0 c1 a0 a1 a2 a3 hUi
      obtain ⟨y, m⟩ := p
      simp only at c0 c1 a0 a1 a2 a3 hUi
      have HSy := Lib.hid (HS.out y w HV.out)
      obtain ⟨b0, b1⟩ := HB.out y
      generalize Bd.below ps y = S at HSy b0 b1 hUi
      generalize Bd.best ps x i = T at hG hUi
      by_cases c1 : x ≤ S
      · by_cases c2 : T < 0
        · rw [if_pos ⟨c1, Or.inl c2⟩] at hUi
          have HUi := Lib.hid hUi; clear hUi
          go_wp2_with fail
          refine HSy.out.mono ?_
          rintro e w1 ⟨rfl, rfl⟩
          go_wp2_with fail
          go_round
          case rel => exact ⟨i + 1, by omega, by go_num, by rw [HUi.out]⟩
          case measure => simp [intOf]; omega
        · by_cases c3 : y < T
          · rw [if_pos ⟨c1, Or.inr c3⟩] at hUi
            have HUi := Lib.hid hUi; clear hUi
            go_wp2_with fail
            refine HSy.out.mono ?_
            rintro e w1 ⟨rfl, rfl⟩
            go_wp2_with fail
            go_round
            case rel => exact ⟨i + 1, by omega, by go_num, by rw [HUi.out]⟩
            case measure => simp [intOf]; omega
          · rw [if_neg (fun q => by rcases q.2 with q | q <;> omega)] at hUi
            have HUi := Lib.hid hUi; clear hUi
            go_wp2_with fail
            refine HSy.out.mono ?_
            rintro e w1 ⟨rfl, rfl⟩
            go_wp2_with fail
            go_round
            case rel => exact ⟨i + 1, by omega, by go_num, by rw [HUi.out]⟩
            case measure => simp [intOf]; omega
      · rw [if_neg (fun q => c1 q.1)] at hUi
        have HUi := Lib.hid hUi; clear hUi
        go_wp2_with fail
        refine HSy.out.mono ?_
        rintro e w1 ⟨rfl, rfl⟩
        go_wp2_with fail
        go_round
        case rel => exact ⟨i + 1, by omega, by go_num, by rw [HUi.out]⟩
        case measure => simp [intOf]; omega
    · obtain rfl : i = n := by omega
      go_wp2_with fail
      go_ret
      exact ⟨ret_int HL.out.symm, rfl⟩
end Go.Proofs.Ytgiejiiiokdbpaa
