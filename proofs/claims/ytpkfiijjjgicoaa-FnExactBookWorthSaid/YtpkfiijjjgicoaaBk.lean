/- Books: what they are worth, on both sides. -/
import Derived.Test.YtpkfiijjjgicoaaAvMark
import Derived.Test.YtpkfiijjjgicoaaMkB
import Derived.Test.YtpkfiijjjgicoaaBdM
namespace Go.Proofs.Ytpkfiijjjgicoaa
open Go.RowKit
def Bk.sum (ps : List Tri) : Int := (ps.map Mk.wor).sum
def Bk.ok (ps : List Tri) : Bool := btw ps.length 0 8 && ps.all Mk.one
def Bk.val (ps : List Tri) : Int := if Bk.ok ps = true then Bk.sum ps else 0
theorem Bk.val_yes {ps : List Tri} (h : Bk.ok ps = true) : Bk.val ps = Bk.sum ps := if_pos h
theorem Bk.val_no {ps : List Tri} (h : Bk.ok ps = false) : Bk.val ps = 0 := if_neg (by rw [h]; simp)
theorem Bk.parts {ps : List Tri} (h : Bk.ok ps = true) : ps.length ≤ 8 ∧ ps.all Mk.one = true := by
  unfold Bk.ok at h
  rw [Bool.and_eq_true, btw_iff] at h
  exact ⟨by omega, h.2⟩
theorem Bk.take {ps : List Tri} {i : Nat} (hi : i < ps.length) : Bk.sum (ps.take (i + 1)) = Bk.sum (ps.take i) + Mk.wor (ps.getD i t0) := by
  have : ps.take (i + 1) = ps.take i ++ [ps.getD i t0] := by
    rw [List.take_add_one, List.getD_eq_getElem?_getD, List.getElem?_eq_getElem hi]; rfl
  unfold Bk.sum
  rw [this, List.map_append, List.sum_append]
  simp
theorem Bk.app (ps qs : List Tri) : Bk.sum (ps ++ qs) = Bk.sum ps + Bk.sum qs := by
  unfold Bk.sum; rw [List.map_append, List.sum_append]
theorem Bk.one_bd {p : Tri} (h : Mk.one p = true) : -999900000 ≤ Mk.wor p ∧ Mk.wor p ≤ 999900000 := Mk.wor_bd h
theorem Bk.bd {ps : List Tri} (h : ps.all Mk.one = true) : ∀ i : Nat, i ≤ ps.length → -999900000 * (i : Int) ≤ Bk.sum (ps.take i) ∧ Bk.sum (ps.take i) ≤ 999900000 * (i : Int)
  | 0, _ => by simp [Bk.sum]
  | i + 1, hi => by
    have ih := Bk.bd h i (by omega)
    have o := Bk.one_bd (allB_at t0 h (show i < ps.length by omega))
    rw [Bk.take (by omega)]
    omega
set_option maxHeartbeats 1000000 in
theorem sumMk_any (w : World) (v : Value) (ps : List Tri) (hv : R3o w v ps) (h : ps.all Mk.one = true) (hm : ps.length ≤ 8) :
    Calls Try.prog 42 #[v, .func (.func 43) #[] #[]] w fun e w' => e = .returned (.int .i64 (Bk.sum ps)) ∧ Below w.heap.size w w' := by
  obtain ⟨⟨a, c, rfl⟩, h1⟩ := hv
  have H1 := Lib.hid h1; clear h1
  have HB := Lib.hid (Bk.bd h)
  have HA := Lib.hid (fun i (hi : i < ps.length) => allB_at t0 h hi)
  have HT := Lib.hid (fun i (hi : i < ps.length) => Bk.take hi)
  have HE := Lib.hid (show ∀ i, ps.length ≤ i → ps.take i = ps from fun i hi => List.take_of_length_le hi)
  clear h
  obtain ⟨n, hn⟩ : ∃ n, n = ps.length := ⟨_, rfl⟩
  rw [← hn] at hm ⊢
  have HN := Lib.hid hn; clear hn
  go_enter Try.func42, Try.ntmps42
  go_wp2_with fail
  go_loopw [5, 10] (fun s x wr => ∃ i : Nat, i ≤ n ∧ x = .int .i64 i ∧ s = .int .i64 (Bk.sum (ps.take i)) ∧ Below w.heap.size w wr) (fun _ x _ => n - (intOf x).toNat)
  case atStart => exact ⟨0, Nat.zero_le _, rfl, by simp [Bk.sum], Below.refl _ _⟩
  case round =>
    obtain ⟨i, hi, rfl, rfl, hb⟩ := hrel
    by_cases hlt : i < n
    · obtain ⟨b, off, d', e, hbl, hc⟩ := H1.out (by rw [← HN.out]; omega)
      rw [← HN.out] at e
      simp only [Value.slice.injEq, true_and] at e
      obtain ⟨rfl, rfl⟩ := e
      obtain ⟨c0, c1, c2⟩ := hc i (by rw [← HN.out]; exact hlt)
      replace c0 := (hb.cell (p := ⟨b, off + i * 3, none⟩) hbl).trans c0
      replace c1 := (hb.cell (p := ⟨b, off + i * 3 + 1, none⟩) hbl).trans c1
      replace c2 := (hb.cell (p := ⟨b, off + i * 3 + 2, none⟩) hbl).trans c2
      clear hc
      have hone := HA.out i (by rw [← HN.out]; exact hlt)
      obtain ⟨s0, s1⟩ := HB.out i (by rw [← HN.out]; exact hi)
      obtain ⟨o0, o1⟩ := Bk.one_bd hone
      have HTi := Lib.hid (HT.out i (by rw [← HN.out]; exact hlt))
      generalize ps.getD i t0 = p at c0 c1 c2 hone o0 o1 HTi
      obtain ⟨m, cc, aa⟩ := p
      have WM := Lib.hid (fun W => worth_any m cc aa W hone)
      have hsz := hb.size
      clear hone
      have HB2 := Lib.hid hb
      have ew : Mk.wor (m, cc, aa) = m * (cc + aa) := rfl
      rw [ew] at o0 o1 HTi
      clear ew hb
      generalize m * (cc + aa) = q at o0 o1 HTi WM
      generalize Bk.sum (ps.take i) = S at s0 s1 HTi
      simp only at c0 c1 c2
      go_wp2_with fail
      refine (WM.out _).mono ?_
      rintro e w2 ⟨rfl, hb2⟩
      go_wp2_with fail
      go_roundw
      case rel => exact ⟨i + 1, by omega, by go_num, by rw [HTi.out], (HB2.out.alloc hsz _).trans (hb2.mono (by simp; omega))⟩
      case measure => simp [intOf]; omega
    · obtain rfl : i = n := by omega
      rw [HE.out i (by rw [← HN.out]; exact Nat.le_refl _)]
      go_wp2_with fail
      go_ret
      exact ⟨rfl, hb⟩
set_option maxHeartbeats 1000000 in
theorem book_any (w : World) (v : Value) (ps : List Tri) (hv : R3o w v ps) (hm : ps.length ≤ 9223372036854775807) :
    Calls Try.prog 14 #[v] w fun e w' => e = .returned (.tuple #[.int .i64 (Bk.val ps), .bool (Bk.ok ps)]) ∧ Below w.heap.size w w' := by
  have AV := Lib.hid (av_Mark w v ps 0 8 hv hm)
  have HV := Lib.hid hv
  obtain ⟨⟨a, c, rfl⟩, -⟩ := hv
  have hO : Bk.ok ps = (btw ps.length 0 8 && ps.all Mk.one) := rfl
  cases h : Bk.ok ps with
  | false =>
    rw [Bk.val_no h]
    have H := Lib.hid (hO.symm.trans h); clear h hO
    go_enter Try.func14, Try.ntmps14
    go_wp2_with fail
    refine AV.out.mono ?_
    rw [H.out]
    rintro e w1 ⟨rfl, hb1⟩
    go_wp2_with fail
    go_ret2
    exact ⟨rfl, hb1⟩
  | true =>
    rw [Bk.val_yes h]
    obtain ⟨hl, hall⟩ := Bk.parts h
    have H := Lib.hid (hO.symm.trans h); clear h hO
    have HALL := Lib.hid hall; clear hall
    go_enter Try.func14, Try.ntmps14
    go_wp2_with fail
    refine AV.out.mono ?_
    rw [H.out]
    rintro e w1 ⟨rfl, hb1⟩
    have SM := Lib.hid (sumMk_any w1 _ ps (HV.out.below hb1 (Nat.le_refl _)) HALL.out hl)
    have HB1 := Lib.hid hb1; clear hb1
    go_wp2_with fail
    refine SM.out.mono ?_
    rintro e w2 ⟨rfl, hb2⟩
    go_wp2_with fail
    go_ret2
    exact ⟨rfl, HB1.out.trans (hb2.mono HB1.out.size)⟩
set_option maxHeartbeats 1000000 in
theorem svbook_any (w : World) (v : Value) (ps : List Tri) (hv : R3o w v ps) (hm : ps.length ≤ 9223372036854775807) :
    Calls Try.prog 44 #[v] w fun x w' => x = .returned (.bool (Bk.ok ps)) ∧ Below w.heap.size w w' := by
  obtain ⟨⟨a, c, rfl⟩, h1⟩ := hv
  have H1 := Lib.hid h1; clear h1
  have HO := Lib.hid (show Bk.ok ps = (btw ps.length 0 8 && ps.all Mk.one) from rfl)
  obtain ⟨n, hn⟩ : ∃ n, n = ps.length := ⟨_, rfl⟩
  rw [← hn] at hm HO ⊢
  have HN := Lib.hid hn; clear hn
  go_enter Try.func44, Try.ntmps44
  go_wp2_with fail
  go_loopw [3] (fun x wr => ∃ i : Nat, i ≤ n ∧ x = .int .i64 i ∧ Below w.heap.size w wr ∧ Hid (∀ j, j < i → Mk.one (ps.getD j t0) = true)) (fun x _ => n - (intOf x).toNat)
  case atStart => exact ⟨0, Nat.zero_le _, rfl, Below.refl _ _, Lib.hid (fun j hj => by omega)⟩
  case round =>
    obtain ⟨i, hi, rfl, hb, HH⟩ := hrel
    by_cases hlt : i < n
    · obtain ⟨b, off, d', e, hbl, hc⟩ := H1.out (by rw [← HN.out]; omega)
      rw [← HN.out] at e
      simp only [Value.slice.injEq, true_and] at e
      obtain ⟨rfl, rfl⟩ := e
      obtain ⟨c0, c1, c2⟩ := hc i (by rw [← HN.out]; exact hlt)
      replace c0 := (hb.cell (p := ⟨b, off + i * 3, none⟩) hbl).trans c0
      replace c1 := (hb.cell (p := ⟨b, off + i * 3 + 1, none⟩) hbl).trans c1
      replace c2 := (hb.cell (p := ⟨b, off + i * 3 + 2, none⟩) hbl).trans c2
      clear hc
      have hcl := smvalid_any (ps.getD i t0) wr
      have hsz := hb.size
      cases hh : Mk.one (ps.getD i t0) with
      | false =>
        rw [hh] at hcl
        have HC := Lib.hid hcl
        have HF := Lib.hid (allB_bad Mk.one t0 (by rw [← HN.out]; exact hlt) hh)
        clear hcl hh
        generalize ps.getD i t0 = p at c0 c1 c2 HC
        go_wp2_with fail
        refine HC.out.mono ?_
        rintro x w2 ⟨rfl, hb2⟩
        go_wp2_with fail
        go_ret
        exact ⟨ret_bool (by rw [HO.out, HF.out]; simp), hb.trans (hb2.mono hsz)⟩
      | true =>
        rw [hh] at hcl
        have HC := Lib.hid hcl
        have HF := Lib.hid hh
        clear hcl hh
        generalize hp : ps.getD i t0 = p at c0 c1 c2 HC
        clear hp
        go_wp2_with fail
        refine HC.out.mono ?_
        rintro x w2 ⟨rfl, hb2⟩
        go_wp2_with fail
        go_roundw
        case rel =>
          refine ⟨i + 1, by omega, by go_num, hb.trans (hb2.mono hsz), Lib.hid (fun j hj => ?_)⟩
          rcases Nat.lt_or_ge j i with r | r
          · exact HH.out j r
          · obtain rfl : j = i := by omega
            exact HF.out
        case measure => simp [intOf] <;> omega
    · obtain rfl : i = n := by omega
      have HF := Lib.hid (allB_take Mk.one t0 HH.out HN.out)
      by_cases h10 : i ≤ 8
      · have q : (i : Int) ≤ 8 := by omega
        go_wp2_with fail
        go_ret
        exact ⟨ret_bool (by rw [HO.out, HF.out, btw_t (by omega) q]; rfl), hb⟩
      · have q : ¬ (i : Int) ≤ 8 := by omega
        go_wp2_with fail
        go_ret
        exact ⟨ret_bool (by rw [HO.out, HF.out, btw_f (.inr (by omega))]; rfl), hb⟩
set_option maxHeartbeats 1000000 in
theorem sbook_any (w : World) (v : Value) (ps : List Tri) (hv : R3o w v ps) (hm : ps.length ≤ 9223372036854775807) :
    Calls Try.prog 15 #[v] w fun e w' => e = .returned (.tuple #[.int .i64 (Bk.val ps), .bool (Bk.ok ps)]) ∧ Below w.heap.size w w' := by
  have VB := Lib.hid (svbook_any w v ps hv hm)
  have HV := Lib.hid hv
  obtain ⟨⟨a, c, rfl⟩, -⟩ := hv
  cases h : Bk.ok ps with
  | false =>
    rw [Bk.val_no h]
    have H := Lib.hid h; clear h
    go_enter Try.func15, Try.ntmps15
    go_wp2_with fail
    refine VB.out.mono ?_
    rw [H.out]
    rintro e w1 ⟨rfl, hb1⟩
    go_wp2_with fail
    go_ret2
    exact ⟨rfl, hb1⟩
  | true =>
    rw [Bk.val_yes h]
    obtain ⟨hl, hall⟩ := Bk.parts h
    have H := Lib.hid h; clear h
    have HB := Lib.hid (Bk.bd hall)
    have HA := Lib.hid (fun i (hi : i < ps.length) => allB_at t0 hall hi)
    have HT := Lib.hid (fun i (hi : i < ps.length) => Bk.take hi)
    have HE := Lib.hid (show ∀ i, ps.length ≤ i → ps.take i = ps from fun i hi => List.take_of_length_le hi)
    clear hall
    obtain ⟨n, hn⟩ : ∃ n, n = ps.length := ⟨_, rfl⟩
    rw [← hn] at hm hl ⊢
    have HN := Lib.hid hn; clear hn
    go_enter Try.func15, Try.ntmps15
    go_wp2_with fail
    rw [HN.out]
    refine VB.out.mono ?_
    rw [H.out, ← HN.out]
    rintro e w1 ⟨rfl, hb1⟩
    have HB1 := Lib.hid hb1; clear hb1
    go_wp2_with fail
    go_loopw [4, 5] (fun s x wr => ∃ i : Nat, i ≤ n ∧ x = .int .i64 i ∧ s = .int .i64 (Bk.sum (ps.take i)) ∧ Below w.heap.size w wr) (fun _ x _ => n - (intOf x).toNat)
    case atStart => exact ⟨0, Nat.zero_le _, rfl, by simp [Bk.sum], HB1.out⟩
    case round =>
      obtain ⟨i, hi, rfl, rfl, hb⟩ := hrel
      by_cases hlt : i < n
      · obtain ⟨b, off, d', e, hbl, hc⟩ := HV.out.2 (by rw [← HN.out]; omega)
        rw [← HN.out] at e
        simp only [Value.slice.injEq, true_and] at e
        obtain ⟨rfl, rfl⟩ := e
        obtain ⟨c0, c1, c2⟩ := hc i (by rw [← HN.out]; exact hlt)
        replace c0 := (hb.cell (p := ⟨b, off + i * 3, none⟩) hbl).trans c0
        replace c1 := (hb.cell (p := ⟨b, off + i * 3 + 1, none⟩) hbl).trans c1
        replace c2 := (hb.cell (p := ⟨b, off + i * 3 + 2, none⟩) hbl).trans c2
        clear hc
        have hone := HA.out i (by rw [← HN.out]; exact hlt)
        obtain ⟨s0, s1⟩ := HB.out i (by rw [← HN.out]; exact hi)
        obtain ⟨o0, o1⟩ := Bk.one_bd hone
        have HTi := Lib.hid (HT.out i (by rw [← HN.out]; exact hlt))
        generalize ps.getD i t0 = p at c0 c1 c2 hone o0 o1 HTi
        obtain ⟨m, cc, aa⟩ := p
        have WM := Lib.hid (fun W => sworth_any m cc aa W hone)
        have hsz := hb.size
        clear hone
        have HB2 := Lib.hid hb
        have ew : Mk.wor (m, cc, aa) = m * (cc + aa) := rfl
        rw [ew] at o0 o1 HTi
        clear ew hb
        generalize m * (cc + aa) = q at o0 o1 HTi WM
        generalize Bk.sum (ps.take i) = S at s0 s1 HTi
        simp only at c0 c1 c2
        go_wp2_with fail
        refine (WM.out _).mono ?_
        rintro e w2 ⟨rfl, hb2⟩
        go_wp2_with fail
        go_roundw
        case rel => exact ⟨i + 1, by omega, by go_num, by rw [HTi.out], HB2.out.trans (hb2.mono hsz)⟩
        case measure => simp [intOf]; omega
      · obtain rfl : i = n := by omega
        rw [HE.out i (by rw [← HN.out]; exact Nat.le_refl _)]
        go_wp2_with fail
        go_ret2
        exact ⟨rfl, hb⟩
end Go.Proofs.Ytpkfiijjjgicoaa
