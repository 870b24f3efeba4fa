/- Payments summed up until a day, cash and needs, on both sides. -/
import Derived.Test.YthlnmbnaimobgaaAvFlow
namespace Go.Proofs.Ythlnmbnaimobgaa
open Go.RowKit
set_option maxHeartbeats 400000 in
theorem vflows_any (w : World) (v : Value) (ps : List Pr) (hv : R2o w v ps) (hm : ps.length ≤ 9223372036854775807) :
    Calls Try.prog 77 #[v] w fun x w' => x = .returned (.bool (Fl.ok ps)) ∧ Below w.heap.size w w' := by
  have HX := Lib.hid (av_Flow w v ps 0 60 hv hm)
  obtain ⟨⟨a, c, rfl⟩, h1⟩ := hv
  clear h1
  go_enter Try.func77, Try.ntmps77
  go_wp2_with fail
  refine HX.out.mono ?_
  rintro e w1 ⟨rfl, hb⟩
  go_wp2_with fail
  go_ret
  exact ⟨rfl, hb⟩
def Fl.add (p : Pr) (d : Int) : Int := if p.1 ≤ d then p.2 else 0
def Fl.sum (ps : List Pr) (d : Int) : Int := (ps.map fun p => Fl.add p d).sum
theorem Fl.take {ps : List Pr} {i : Nat} (hi : i < ps.length) (x : Int) : Fl.sum (ps.take (i + 1)) x = Fl.sum (ps.take i) x + Fl.add (ps.getD i pr0) x := by
  have : ps.take (i + 1) = ps.take i ++ [ps.getD i pr0] := by
    rw [List.take_add_one, List.getD_eq_getElem?_getD, List.getElem?_eq_getElem hi]; rfl
  unfold Fl.sum
  rw [this, List.map_append, List.sum_append]
  simp
theorem Fl.parts {ps : List Pr} (h : Fl.ok ps = true) : ps.length ≤ 60 ∧ ∀ i, i < ps.length → (0 ≤ (ps.getD i pr0).1 ∧ (ps.getD i pr0).1 ≤ 36524) ∧ (-1000000000 ≤ (ps.getD i pr0).2 ∧ (ps.getD i pr0).2 ≤ 1000000000) := by
  unfold Fl.ok at h
  rw [Bool.and_eq_true, btw_iff] at h
  exact ⟨by omega, fun i hi => Fl.one_iff.1 (allB_at pr0 h.2 hi)⟩
theorem Fl.bd {ps : List Pr} (h : Fl.ok ps = true) (x : Int) : ∀ i : Nat, i ≤ ps.length → -1000000000 * (i : Int) ≤ Fl.sum (ps.take i) x ∧ Fl.sum (ps.take i) x ≤ 1000000000 * (i : Int)
  | 0, _ => by simp [Fl.sum]
  | i + 1, hi => by
    have ih := Fl.bd h x i (by omega)
    have o := (Fl.parts h).2 i (by omega)
    rw [Fl.take (by omega)]
    unfold Fl.add
    split <;> omega
theorem Fl.bd_all {ps : List Pr} (h : Fl.ok ps = true) (x : Int) : -60000000000 ≤ Fl.sum ps x ∧ Fl.sum ps x ≤ 60000000000 := by
  have b := Fl.bd h x ps.length (Nat.le_refl _)
  rw [List.take_of_length_le (Nat.le_refl _)] at b
  have := (Fl.parts h).1
  omega
/-- The cash that the first payments need. -/
def Fl.needK (ps : List Pr) : Nat → Int
  | 0 => 0
  | k + 1 => max (Fl.needK ps k) (- Fl.sum ps (ps.getD k pr0).1)
theorem Fl.need_bd {ps : List Pr} (h : Fl.ok ps = true) : ∀ k, 0 ≤ Fl.needK ps k ∧ Fl.needK ps k ≤ 60000000000
  | 0 => by simp [Fl.needK]
  | k + 1 => by
    have ih := Fl.need_bd h k
    have b := Fl.bd_all h (ps.getD k pr0).1
    unfold Fl.needK
    omega
def Fl.need (ps : List Pr) : Int := if Fl.ok ps = true then Fl.needK ps ps.length else -1
/-- The cash at a day. -/
def Fl.cash (ps : List Pr) (b x : Int) : Int := if Fl.ok ps = true ∧ btw b (-1000000000) 1000000000 = true then b + Fl.sum ps x else 0
def Fl.cashOk (ps : List Pr) (b : Int) : Bool := Fl.ok ps && btw b (-1000000000) 1000000000
theorem ret_nb {a b : Int} {c d : Bool} (h : a = b) (k : c = d) : Ending.returned (.tuple #[.int .i64 a, .bool c]) = .returned (.tuple #[.int .i64 b, .bool d]) := by rw [h, k]
set_option maxHeartbeats 2000000 in
theorem paid_any (w : World) (v : Value) (ps : List Pr) (x : Int) (hv : R2o w v ps) (hok : Fl.ok ps = true) :
    Calls Try.prog 84 #[v, .int .i64 x] w fun e w' => e = .returned (.int .i64 (Fl.sum ps x)) ∧ Below w.heap.size w w' := by
  have HP := Lib.hid (Fl.parts hok)
  have HBd := Lib.hid (fun i hi => Fl.bd hok x i hi)
  have hlen := HP.out.1
  clear hok
  obtain ⟨⟨a, cap, rfl⟩, h1⟩ := hv
  have H := Lib.hid h1; clear h1
  go_enter Try.func84, Try.ntmps84
  go_wp2_with fail
  go_loopw [5, 10] (fun o y wr => ∃ k : Nat, k ≤ ps.length ∧ y = .int .i64 k ∧ o = .int .i64 (Fl.sum (ps.take k) x) ∧ Below w.heap.size w wr) (fun _ y _ => ps.length - (intOf y).toNat)
  case atStart => exact ⟨0, Nat.zero_le _, rfl, by simp [Fl.sum], Below.refl _ _⟩
  case round =>
    obtain ⟨k, hk, rfl, rfl, hb⟩ := hrel
    by_cases hlt : k < ps.length
    · obtain ⟨b, off, c, e, hbb, hc⟩ := H.out (by omega)
      simp only [Value.slice.injEq, true_and] at e
      obtain ⟨rfl, rfl⟩ := e
      obtain ⟨c0, c1⟩ := hc k hlt
      replace c0 := (hb.cell (p := ⟨b, off + k * 2, none⟩) hbb).trans c0
      replace c1 := (hb.cell (p := ⟨b, off + k * 2 + 1, none⟩) hbb).trans c1
      clear hc
      obtain ⟨-, m0, m1⟩ := HP.out.2 k hlt
      obtain ⟨s0, s1⟩ := HBd.out k (by omega)
      have HT := Lib.hid (Fl.take (ps := ps) hlt x)
      generalize ps.getD k pr0 = p at c0 c1 m0 m1 HT
      obtain ⟨d, m⟩ := p
      simp only at c0 c1 m0 m1
      generalize Fl.sum (ps.take k) x = S at *
      by_cases hd : d ≤ x
      · have HO := Lib.hid (show Fl.add (d, m) x = m from if_pos hd)
        go_wp2_with fail
        go_roundw
        case rel => exact ⟨k + 1, by omega, by go_num, by rw [HT.out, HO.out], hb.alloc hb.size _⟩
        case measure => simp [intOf] <;> omega
      · have HO := Lib.hid (show Fl.add (d, m) x = 0 from if_neg hd)
        go_wp2_with fail
        go_roundw
        case rel => exact ⟨k + 1, by omega, by go_num, by rw [HT.out, HO.out, Int.add_zero], hb.alloc hb.size _⟩
        case measure => simp [intOf] <;> omega
    · have E2 := Lib.hid (show ps.take k = ps from List.take_of_length_le (by omega))
      go_wp2_with fail
      go_ret
      exact ⟨ret_int (by rw [E2.out]), hb⟩
set_option maxHeartbeats 2000000 in
theorem spaid_any (w : World) (v : Value) (ps : List Pr) (x : Int) (hv : R2o w v ps) (hok : Fl.ok ps = true) :
    Calls Try.prog 85 #[v, .int .i64 x] w fun e w' => e = .returned (.int .i64 (Fl.sum ps x)) ∧ Below w.heap.size w w' := by
  have HP := Lib.hid (Fl.parts hok)
  have HBd := Lib.hid (fun i hi => Fl.bd hok x i hi)
  have hlen := HP.out.1
  clear hok
  obtain ⟨⟨a, cap, rfl⟩, h1⟩ := hv
  have H := Lib.hid h1; clear h1
  go_enter Try.func85, Try.ntmps85
  go_wp2_with fail
  go_loopw [5, 6] (fun o y wr => ∃ k : Nat, k ≤ ps.length ∧ y = .int .i64 k ∧ o = .int .i64 (Fl.sum (ps.take k) x) ∧ Below w.heap.size w wr) (fun _ y _ => ps.length - (intOf y).toNat)
  case atStart => exact ⟨0, Nat.zero_le _, rfl, by simp [Fl.sum], Below.refl _ _⟩
  case round =>
    obtain ⟨k, hk, rfl, rfl, hb⟩ := hrel
    by_cases hlt : k < ps.length
    · obtain ⟨b, off, c, e, hbb, hc⟩ := H.out (by omega)
      simp only [Value.slice.injEq, true_and] at e
      obtain ⟨rfl, rfl⟩ := e
      obtain ⟨c0, c1⟩ := hc k hlt
      replace c0 := (hb.cell (p := ⟨b, off + k * 2, none⟩) hbb).trans c0
      replace c1 := (hb.cell (p := ⟨b, off + k * 2 + 1, none⟩) hbb).trans c1
      clear hc
      obtain ⟨-, m0, m1⟩ := HP.out.2 k hlt
      obtain ⟨s0, s1⟩ := HBd.out k (by omega)
      have HT := Lib.hid (Fl.take (ps := ps) hlt x)
      generalize ps.getD k pr0 = p at c0 c1 m0 m1 HT
      obtain ⟨d, m⟩ := p
      simp only at c0 c1 m0 m1
      generalize Fl.sum (ps.take k) x = S at *
      by_cases hd : d ≤ x
      · have HO := Lib.hid (show Fl.add (d, m) x = m from if_pos hd)
        go_wp2_with fail
        go_roundw
        case rel => exact ⟨k + 1, by omega, by go_num, by rw [HT.out, HO.out], hb⟩
        case measure => simp [intOf] <;> omega
      · have HO := Lib.hid (show Fl.add (d, m) x = 0 from if_neg hd)
        go_wp2_with fail
        go_roundw
        case rel => exact ⟨k + 1, by omega, by go_num, by rw [HT.out, HO.out, Int.add_zero], hb⟩
        case measure => simp [intOf] <;> omega
    · have E2 := Lib.hid (show ps.take k = ps from List.take_of_length_le (by omega))
      go_wp2_with fail
      go_ret
      exact ⟨ret_int (by rw [E2.out]), hb⟩
set_option maxHeartbeats 2000000 in
theorem cash_any (w : World) (v : Value) (ps : List Pr) (b x : Int) (hv : R2o w v ps) (hm : ps.length ≤ 9223372036854775807) :
    Calls Try.prog 46 #[v, .int .i64 b, .int .i64 x] w fun e w' => e = .returned (.tuple #[.int .i64 (Fl.cash ps b x), .bool (Fl.cashOk ps b)]) ∧ Below w.heap.size w w' := by
  have HV := Lib.hid hv
  obtain ⟨⟨a, cap, rfl⟩, -⟩ := hv
  cases hok : Fl.ok ps with
  | false =>
    have E := Lib.hid (show Fl.cash ps b x = 0 ∧ Fl.cashOk ps b = false by unfold Fl.cash Fl.cashOk; rw [hok]; simp)
    go_enter Try.func46, Try.ntmps46
    go_wp2_with fail
    refine (vflows_any _ _ _ HV.out hm).mono ?_
    rintro e w1 ⟨rfl, hb1⟩
    rw [hok]
    go_wp2_with fail
    go_ret2
    exact ⟨ret_nb E.out.1.symm E.out.2.symm, hb1⟩
  | true =>
    cases hbt : btw b (-1000000000) 1000000000 with
    | false =>
      have E := Lib.hid (show Fl.cash ps b x = 0 ∧ Fl.cashOk ps b = false by unfold Fl.cash Fl.cashOk; rw [hbt]; simp)
      go_enter Try.func46, Try.ntmps46
      go_wp2_with fail
      refine (vflows_any _ _ _ HV.out hm).mono ?_
      rintro e w1 ⟨rfl, hb1⟩
      rw [hok]
      go_wp2_with fail
      refine (vamount_any _ _).mono ?_
      rintro e w2 ⟨rfl, rfl⟩
      rw [hbt]
      go_wp2_with fail
      go_ret2
      exact ⟨ret_nb E.out.1.symm E.out.2.symm, hb1⟩
    | true =>
      have E := Lib.hid (show Fl.cash ps b x = b + Fl.sum ps x ∧ Fl.cashOk ps b = true by unfold Fl.cash Fl.cashOk; rw [hbt, hok]; simp)
      obtain ⟨b0, b1⟩ := btw_iff.1 hbt
      obtain ⟨s0, s1⟩ := Fl.bd_all hok x
      have HOK := Lib.hid hok
      go_enter Try.func46, Try.ntmps46
      go_wp2_with fail
      refine (vflows_any _ _ _ HV.out hm).mono ?_
      rintro e w1 ⟨rfl, hb1⟩
      rw [hok]
      go_wp2_with fail
      refine (vamount_any _ _).mono ?_
      rintro e w2 ⟨rfl, rfl⟩
      rw [hbt]
      go_wp2_with fail
      refine (paid_any _ _ _ _ (HV.out.below hb1 (Nat.le_refl _)) HOK.out).mono ?_
      rintro e w3 ⟨rfl, hb3⟩
      go_wp2_with fail
      go_ret2
      exact ⟨ret_nb E.out.1.symm E.out.2.symm, hb1.trans (hb3.mono hb1.size)⟩
set_option maxHeartbeats 2000000 in
theorem scash_any (w : World) (v : Value) (ps : List Pr) (b x : Int) (hv : R2o w v ps) (hm : ps.length ≤ 9223372036854775807) :
    Calls Try.prog 47 #[v, .int .i64 b, .int .i64 x] w fun e w' => e = .returned (.tuple #[.int .i64 (Fl.cash ps b x), .bool (Fl.cashOk ps b)]) ∧ Below w.heap.size w w' := by
  have HV := Lib.hid hv
  obtain ⟨⟨a, cap, rfl⟩, -⟩ := hv
  cases hok : Fl.ok ps with
  | false =>
    have E := Lib.hid (show Fl.cash ps b x = 0 ∧ Fl.cashOk ps b = false by unfold Fl.cash Fl.cashOk; rw [hok]; simp)
    go_enter Try.func47, Try.ntmps47
    go_wp2_with fail
    refine (svflows_any _ _ _ HV.out hm).mono ?_
    rintro e w1 ⟨rfl, rfl⟩
    rw [hok]
    go_wp2_with fail
    go_ret2
    exact ⟨ret_nb E.out.1.symm E.out.2.symm, Below.refl _ _⟩
  | true =>
    cases hbt : btw b (-1000000000) 1000000000 with
    | false =>
      have E := Lib.hid (show Fl.cash ps b x = 0 ∧ Fl.cashOk ps b = false by unfold Fl.cash Fl.cashOk; rw [hbt]; simp)
      go_enter Try.func47, Try.ntmps47
      go_wp2_with fail
      refine (svflows_any _ _ _ HV.out hm).mono ?_
      rintro e w1 ⟨rfl, rfl⟩
      rw [hok]
      go_wp2_with fail
      refine (inRange_any _ _ _ _).mono ?_
      rintro e w2 ⟨rfl, rfl⟩
      rw [hbt]
      go_wp2_with fail
      go_ret2
      exact ⟨ret_nb E.out.1.symm E.out.2.symm, Below.refl _ _⟩
    | true =>
      have E := Lib.hid (show Fl.cash ps b x = b + Fl.sum ps x ∧ Fl.cashOk ps b = true by unfold Fl.cash Fl.cashOk; rw [hbt, hok]; simp)
      obtain ⟨b0, b1⟩ := btw_iff.1 hbt
      obtain ⟨s0, s1⟩ := Fl.bd_all hok x
      have HOK := Lib.hid hok
      go_enter Try.func47, Try.ntmps47
      go_wp2_with fail
      refine (svflows_any _ _ _ HV.out hm).mono ?_
      rintro e w1 ⟨rfl, rfl⟩
      rw [hok]
      go_wp2_with fail
      refine (inRange_any _ _ _ _).mono ?_
      rintro e w2 ⟨rfl, rfl⟩
      rw [hbt]
      go_wp2_with fail
      refine (spaid_any _ _ _ _ HV.out HOK.out).mono ?_
      rintro e w3 ⟨rfl, hb3⟩
      go_wp2_with fail
      go_ret2
      exact ⟨ret_nb E.out.1.symm E.out.2.symm, hb3⟩
set_option maxHeartbeats 2000000 in
theorem need_any (w : World) (v : Value) (ps : List Pr) (hv : R2o w v ps) (hm : ps.length ≤ 9223372036854775807) :
    Calls Try.prog 49 #[v] w fun e w' => e = .returned (.int .i64 (Fl.need ps)) ∧ Below w.heap.size w w' := by
  have HV := Lib.hid hv
  obtain ⟨⟨a, cap, rfl⟩, -⟩ := hv
  cases hok : Fl.ok ps with
  | false =>
    have E := Lib.hid (show Fl.need ps = -1 by unfold Fl.need; rw [hok]; simp)
    go_enter Try.func49, Try.ntmps49
    go_wp2_with fail
    refine (vflows_any _ _ _ HV.out hm).mono ?_
    rintro e w1 ⟨rfl, hb1⟩
    rw [hok]
    go_wp2_with fail
    go_ret
    exact ⟨ret_int E.out.symm, hb1⟩
  | true =>
    have E := Lib.hid (show Fl.need ps = Fl.needK ps ps.length by unfold Fl.need; rw [hok]; simp)
    have HOK := Lib.hid hok
    have hlen := (Fl.parts hok).1
    go_enter Try.func49, Try.ntmps49
    go_wp2_with fail
    refine (vflows_any _ _ _ HV.out hm).mono ?_
    rintro e w1 ⟨rfl, hb1⟩
    rw [hok]
    have HV1 := Lib.hid (HV.out.below hb1 (Nat.le_refl _))
    have HB1 := Lib.hid (show Below w.heap.size w w1 from hb1)
    clear hok hb1
    go_wp2_with fail
    go_loopw [3, 11] (fun o y wr => ∃ k : Nat, k ≤ ps.length ∧ y = .int .i64 k ∧ o = .int .i64 (Fl.needK ps k) ∧ Below w1.heap.size w1 wr) (fun _ y _ => ps.length - (intOf y).toNat)
    case atStart => exact ⟨0, Nat.zero_le _, rfl, rfl, Below.refl _ _⟩
    case round =>
      obtain ⟨k, hk, rfl, rfl, hb⟩ := hrel
      by_cases hlt : k < ps.length
      · have HVr := Lib.hid (HV1.out.below hb (Nat.le_refl _))
        obtain ⟨b, off, c, e, hbb, hc⟩ := HV1.out.2 (by omega)
        simp only [Value.slice.injEq, true_and] at e
        obtain ⟨rfl, rfl⟩ := e
        obtain ⟨c0, c1⟩ := hc k hlt
        replace c0 := (hb.cell (p := ⟨b, off + k * 2, none⟩) hbb).trans c0
        replace c1 := (hb.cell (p := ⟨b, off + k * 2 + 1, none⟩) hbb).trans c1
        clear hc
        obtain ⟨s0, s1⟩ := Fl.bd_all HOK.out (ps.getD k pr0).1
        obtain ⟨n0, n1⟩ := Fl.need_bd HOK.out k
        have HS := Lib.hid (show Fl.needK ps (k + 1) = max (Fl.needK ps k) (- Fl.sum ps (ps.getD k pr0).1) from rfl)
        generalize ps.getD k pr0 = p at c0 c1 s0 s1 HS
        obtain ⟨d, m⟩ := p
        simp only at c0 c1 s0 s1 HS
        obtain ⟨t, ht⟩ : ∃ t, t = max (Fl.needK ps k) (- Fl.sum ps d) := ⟨_, rfl⟩
        have fmax : ∀ W : World, (Builtin.max_ #[3, 3] 3 #[.int .i64 (Fl.needK ps k), .int .i64 (- Fl.sum ps d)]).run Try.prog W = .ok (.int .i64 t) W := fun W => by rw [ht]; exact run_max2' _ _ _ _ W
        have HT := Lib.hid (show Fl.needK ps (k + 1) = t by rw [HS.out, ht])
        clear ht HS
        generalize Fl.needK ps k = K at n0 n1 fmax
        go_wp2_with fail
        refine (paid_any _ _ _ _ ((HVr.out.below ((Below.refl _ _).alloc (Nat.le_refl _) _) (Nat.le_refl _))) HOK.out).mono ?_
        rintro e w3 ⟨rfl, hb3⟩
        go_wp2_with fail
        go_roundw
        case rel => exact ⟨k + 1, by omega, by go_num, by rw [HT.out], hb.trans ((((Below.refl _ _).alloc (Nat.le_refl _) _).trans (hb3.mono (by simp))).mono hb.size)⟩
        case measure => simp [intOf] <;> omega
      · obtain rfl : k = ps.length := by omega
        go_wp2_with fail
        go_ret
        exact ⟨ret_int E.out.symm, HB1.out.trans (hb.mono HB1.out.size)⟩
set_option maxHeartbeats 2000000 in
theorem sneed_any (w : World) (v : Value) (ps : List Pr) (hv : R2o w v ps) (hm : ps.length ≤ 9223372036854775807) :
    Calls Try.prog 50 #[v] w fun e w' => e = .returned (.int .i64 (Fl.need ps)) ∧ Below w.heap.size w w' := by
  have HV := Lib.hid hv
  obtain ⟨⟨a, cap, rfl⟩, -⟩ := hv
  cases hok : Fl.ok ps with
  | false =>
    have E := Lib.hid (show Fl.need ps = -1 by unfold Fl.need; rw [hok]; simp)
    go_enter Try.func50, Try.ntmps50
    go_wp2_with fail
    refine (svflows_any _ _ _ HV.out hm).mono ?_
    rintro e w1 ⟨rfl, rfl⟩
    rw [hok]
    go_wp2_with fail
    go_ret
    exact ⟨ret_int E.out.symm, Below.refl _ _⟩
  | true =>
    have E := Lib.hid (show Fl.need ps = Fl.needK ps ps.length by unfold Fl.need; rw [hok]; simp)
    have HOK := Lib.hid hok
    have hlen := (Fl.parts hok).1
    go_enter Try.func50, Try.ntmps50
    go_wp2_with fail
    refine (svflows_any _ _ _ HV.out hm).mono ?_
    rintro e w1 ⟨rfl, rfl⟩
    rw [hok]
    have HV1 := Lib.hid (HV.out)
    have HB1 := Lib.hid (show Below w.heap.size w w from Below.refl _ _)
    clear hok
    go_wp2_with fail
    go_loopw [3, 4] (fun o y wr => ∃ k : Nat, k ≤ ps.length ∧ y = .int .i64 k ∧ o = .int .i64 (Fl.needK ps k) ∧ Below w.heap.size w wr) (fun _ y _ => ps.length - (intOf y).toNat)
    case atStart => exact ⟨0, Nat.zero_le _, rfl, rfl, Below.refl _ _⟩
    case round =>
      obtain ⟨k, hk, rfl, rfl, hb⟩ := hrel
      by_cases hlt : k < ps.length
      · have HVr := Lib.hid (HV1.out.below hb (Nat.le_refl _))
        obtain ⟨b, off, c, e, hbb, hc⟩ := HV1.out.2 (by omega)
        simp only [Value.slice.injEq, true_and] at e
        obtain ⟨rfl, rfl⟩ := e
        obtain ⟨c0, c1⟩ := hc k hlt
        replace c0 := (hb.cell (p := ⟨b, off + k * 2, none⟩) hbb).trans c0
        replace c1 := (hb.cell (p := ⟨b, off + k * 2 + 1, none⟩) hbb).trans c1
        clear hc
        obtain ⟨s0, s1⟩ := Fl.bd_all HOK.out (ps.getD k pr0).1
        obtain ⟨n0, n1⟩ := Fl.need_bd HOK.out k
        have HS := Lib.hid (show Fl.needK ps (k + 1) = max (Fl.needK ps k) (- Fl.sum ps (ps.getD k pr0).1) from rfl)
        generalize ps.getD k pr0 = p at c0 c1 s0 s1 HS
        obtain ⟨d, m⟩ := p
        simp only at c0 c1 s0 s1 HS
        obtain ⟨t, ht⟩ : ∃ t, t = max (Fl.needK ps k) (- Fl.sum ps d) := ⟨_, rfl⟩
        have fmax : ∀ W : World, (Builtin.max_ #[3, 3] 3 #[.int .i64 (Fl.needK ps k), .int .i64 (- Fl.sum ps d)]).run Try.prog W = .ok (.int .i64 t) W := fun W => by rw [ht]; exact run_max2' _ _ _ _ W
        have HT := Lib.hid (show Fl.needK ps (k + 1) = t by rw [HS.out, ht])
        clear ht HS
        generalize Fl.needK ps k = K at n0 n1 fmax
        go_wp2_with fail
        refine (spaid_any _ _ _ _ HVr.out HOK.out).mono ?_
        rintro e w3 ⟨rfl, hb3⟩
        go_wp2_with fail
        go_roundw
        case rel => exact ⟨k + 1, by omega, by go_num, by rw [HT.out], hb.trans (hb3.mono hb.size)⟩
        case measure => simp [intOf] <;> omega
      · obtain rfl : k = ps.length := by omega
        go_wp2_with fail
        go_ret
        exact ⟨ret_int E.out.symm, HB1.out.trans (hb.mono HB1.out.size)⟩
end Go.Proofs.Ythlnmbnaimobgaa
