/- Positions, on both sides. -/
import Derived.Test.YtkbojibgbmbmdaaTd
namespace Go.Proofs.Ytkbojibgbmbmdaa
open Go.RowKit
/-- What a trade adds to the position at a day. -/
def Po.one (p : Tri) (d : Int) : Int := if p.1 ≤ d then p.2.1 else 0
def Po.sum (ps : List Tri) (d : Int) : Int := (ps.map fun p => Po.one p d).sum
def Po.val (ps : List Tri) (d : Int) : Int := if Td.ok ps = true then Po.sum ps d else 0
theorem Po.take {ps : List Tri} {i : Nat} (hi : i < ps.length) (x : Int) : Po.sum (ps.take (i + 1)) x = Po.sum (ps.take i) x + Po.one (ps.getD i t0) x := by
  have : ps.take (i + 1) = ps.take i ++ [ps.getD i t0] := by
    rw [List.take_add_one, List.getD_eq_getElem?_getD, List.getElem?_eq_getElem hi]; rfl
  unfold Po.sum
  rw [this, List.map_append, List.sum_append]
  simp
theorem Td.parts {ps : List Tri} (h : Td.ok ps = true) : ps.length ≤ 16 ∧ ∀ i, i < ps.length → (0 ≤ (ps.getD i t0).1 ∧ (ps.getD i t0).1 ≤ 36524) ∧ (ps.getD i t0).2.1 ≠ 0 ∧ (-9999 ≤ (ps.getD i t0).2.1 ∧ (ps.getD i t0).2.1 ≤ 9999) ∧ (1 ≤ (ps.getD i t0).2.2 ∧ (ps.getD i t0).2.2 ≤ 50000) := by
  unfold Td.ok at h
  rw [Bool.and_eq_true, Bool.and_eq_true, decide_eq_true_eq] at h
  refine ⟨h.1, fun i hi => ?_⟩
  have := all_atF h.2.1 hi
  unfold Td.one at this
  rw [Bool.and_eq_true, Bool.and_eq_true, Bool.and_eq_true, btw_iff, btw_iff, btw_iff] at this
  obtain ⟨a, b, c, d⟩ := this
  exact ⟨a, by simpa using b, c, d⟩
theorem Po.bd {ps : List Tri} (h : Td.ok ps = true) (x : Int) : ∀ i : Nat, i ≤ ps.length → -9999 * (i : Int) ≤ Po.sum (ps.take i) x ∧ Po.sum (ps.take i) x ≤ 9999 * (i : Int)
  | 0, _ => by simp [Po.sum]
  | i + 1, hi => by
    have ih := Po.bd h x i (by omega)
    have o := (Td.parts h).2 i (by omega)
    rw [Po.take (by omega)]
    unfold Po.one
    split <;> omega
set_option maxRecDepth 8000 in
set_option maxHeartbeats 2000000 in
theorem posAt_any (w : World) (v : Value) (ps : List Tri) (x : Int) (hv : R3o w v ps) (hm : ps.length ≤ 9223372036854775807) :
    Calls Try.prog 18 #[v, .int .i64 x] w fun e w' => e = .returned (.int .i64 (Po.val ps x)) ∧ Below w.heap.size w w' := by
  have HV := Lib.hid hv
  obtain ⟨⟨a, cap, rfl⟩, -⟩ := hv
  cases hok : Td.ok ps with
  | false =>
    have E := Lib.hid (show Po.val ps x = 0 by unfold Po.val; rw [if_neg (by rw [hok]; simp)])
    go_enter Try.func18, Try.ntmps18
    go_wp2_with fail
    refine (vtrades_any _ _ _ HV.out hm).mono ?_
    rw [hok]
    rintro e w1 ⟨rfl, hb1⟩
    go_wp2_with fail
    go_ret
    exact ⟨ret_int E.out.symm, hb1⟩
  | true =>
    have E := Lib.hid (show Po.val ps x = Po.sum ps x by unfold Po.val; rw [if_pos hok])
    have HP := Lib.hid (Td.parts hok)
    have HBd := Lib.hid (fun i hi => Po.bd hok x i hi)
    have hlen := HP.out.1
    go_enter Try.func18, Try.ntmps18
    go_wp2_with fail
    refine (vtrades_any _ _ _ HV.out hm).mono ?_
    rw [hok]
    rintro e w1 ⟨rfl, hb1⟩
    have H := Lib.hid (HV.out.below hb1 (Nat.le_refl _)).2
    have HB1 := Lib.hid hb1
    clear hok hb1
    go_wp2_with fail
    go_loopw [5, 13] (fun o y wr => ∃ k : Nat, k ≤ ps.length ∧ y = .int .i64 k ∧ o = .int .i64 (Po.sum (ps.take k) x) ∧ Below w1.heap.size w1 wr) (fun _ y _ => ps.length - (intOf y).toNat)
    case atStart => exact ⟨0, Nat.zero_le _, rfl, by simp [Po.sum], Below.refl _ _⟩
    case round =>
      obtain ⟨k, hk, rfl, rfl, hb⟩ := hrel
      by_cases hlt : k < ps.length
      · obtain ⟨b, off, c, e, hbb, hc⟩ := H.out (by omega)
        simp only [Value.slice.injEq, true_and] at e
        obtain ⟨rfl, rfl⟩ := e
        obtain ⟨c0, c1, c2⟩ := hc k hlt
        replace c0 := (hb.cell (p := ⟨b, off + k * 3, none⟩) hbb).trans c0
        replace c1 := (hb.cell (p := ⟨b, off + k * 3 + 1, none⟩) hbb).trans c1
        replace c2 := (hb.cell (p := ⟨b, off + k * 3 + 2, none⟩) hbb).trans c2
        clear hc
        obtain ⟨-, -, ⟨m0, m1⟩, -⟩ := HP.out.2 k hlt
        obtain ⟨s0, s1⟩ := HBd.out k (by omega)
        have HT := Lib.hid (Po.take (ps := ps) hlt x)
        generalize ps.getD k t0 = p at c0 c1 c2 m0 m1 HT
        obtain ⟨d, m, u⟩ := p
        simp only at c0 c1 c2 m0 m1
        generalize Po.sum (ps.take k) x = S at *
        by_cases hd : d ≤ x
        · have HO := Lib.hid (show Po.one (d, m, u) x = m from if_pos hd)
          go_wp2_with fail
          go_roundw
          case rel => exact ⟨k + 1, by omega, by go_num, by rw [HT.out, HO.out], (hb.alloc hb.size _)⟩
          case measure => simp [intOf] <;> omega
        · have HO := Lib.hid (show Po.one (d, m, u) x = 0 from if_neg hd)
          go_wp2_with fail
          go_roundw
          case rel => exact ⟨k + 1, by omega, by go_num, by rw [HT.out, HO.out, Int.add_zero], (hb.alloc hb.size _)⟩
          case measure => simp [intOf] <;> omega
      · have E2 := Lib.hid (show ps.take k = ps from List.take_of_length_le (by omega))
        go_wp2_with fail
        go_ret
        exact ⟨ret_int (by rw [E2.out, E.out]), HB1.out.trans (hb.mono HB1.out.size)⟩
set_option maxRecDepth 8000 in
set_option maxHeartbeats 2000000 in
theorem sposAt_any (w : World) (v : Value) (ps : List Tri) (x : Int) (hv : R3o w v ps) (hm : ps.length ≤ 9223372036854775807) :
    Calls Try.prog 19 #[v, .int .i64 x] w fun e w' => e = .returned (.int .i64 (Po.val ps x)) ∧ Below w.heap.size w w' := by
  have HV := Lib.hid hv
  obtain ⟨⟨a, cap, rfl⟩, -⟩ := hv
  cases hok : Td.ok ps with
  | false =>
    have E := Lib.hid (show Po.val ps x = 0 by unfold Po.val; rw [if_neg (by rw [hok]; simp)])
    go_enter Try.func19, Try.ntmps19
    go_wp2_with fail
    refine (svtrades_any _ _ _ HV.out hm).mono ?_
    rw [hok]
    rintro e w1 ⟨rfl, hb1⟩
    go_wp2_with fail
    go_ret
    exact ⟨ret_int E.out.symm, hb1⟩
  | true =>
    have E := Lib.hid (show Po.val ps x = Po.sum ps x by unfold Po.val; rw [if_pos hok])
    have HP := Lib.hid (Td.parts hok)
    have HBd := Lib.hid (fun i hi => Po.bd hok x i hi)
    have hlen := HP.out.1
    go_enter Try.func19, Try.ntmps19
    go_wp2_with fail
    refine (svtrades_any _ _ _ HV.out hm).mono ?_
    rw [hok]
    rintro e w1 ⟨rfl, hb1⟩
    have H := Lib.hid (HV.out.below hb1 (Nat.le_refl _)).2
    have HB1 := Lib.hid hb1
    clear hok hb1
    go_wp2_with fail
    go_loopw [5, 6] (fun o y wr => ∃ k : Nat, k ≤ ps.length ∧ y = .int .i64 k ∧ o = .int .i64 (Po.sum (ps.take k) x) ∧ Below w1.heap.size w1 wr) (fun _ y _ => ps.length - (intOf y).toNat)
    case atStart => exact ⟨0, Nat.zero_le _, rfl, by simp [Po.sum], Below.refl _ _⟩
    case round =>
      obtain ⟨k, hk, rfl, rfl, hb⟩ := hrel
      by_cases hlt : k < ps.length
      · obtain ⟨b, off, c, e, hbb, hc⟩ := H.out (by omega)
        simp only [Value.slice.injEq, true_and] at e
        obtain ⟨rfl, rfl⟩ := e
        obtain ⟨c0, c1, c2⟩ := hc k hlt
        replace c0 := (hb.cell (p := ⟨b, off + k * 3, none⟩) hbb).trans c0
        replace c1 := (hb.cell (p := ⟨b, off + k * 3 + 1, none⟩) hbb).trans c1
        replace c2 := (hb.cell (p := ⟨b, off + k * 3 + 2, none⟩) hbb).trans c2
        clear hc
        obtain ⟨-, -, ⟨m0, m1⟩, -⟩ := HP.out.2 k hlt
        obtain ⟨s0, s1⟩ := HBd.out k (by omega)
        have HT := Lib.hid (Po.take (ps := ps) hlt x)
        generalize ps.getD k t0 = p at c0 c1 c2 m0 m1 HT
        obtain ⟨d, m, u⟩ := p
        simp only at c0 c1 c2 m0 m1
        generalize Po.sum (ps.take k) x = S at *
        by_cases hd : d ≤ x
        · have HO := Lib.hid (show Po.one (d, m, u) x = m from if_pos hd)
          go_wp2_with fail
          go_roundw
          case rel => exact ⟨k + 1, by omega, by go_num, by rw [HT.out, HO.out], (hb)⟩
          case measure => simp [intOf] <;> omega
        · have HO := Lib.hid (show Po.one (d, m, u) x = 0 from if_neg hd)
          go_wp2_with fail
          go_roundw
          case rel => exact ⟨k + 1, by omega, by go_num, by rw [HT.out, HO.out, Int.add_zero], (hb)⟩
          case measure => simp [intOf] <;> omega
      · have E2 := Lib.hid (show ps.take k = ps from List.take_of_length_le (by omega))
        go_wp2_with fail
        go_ret
        exact ⟨ret_int (by rw [E2.out, E.out]), HB1.out.trans (hb.mono HB1.out.size)⟩
end Go.Proofs.Ytkbojibgbmbmdaa
