/- What bids get: which are chosen, in the program. -/
import Derived.Test.YtgiejiiiokdbpaaSrB5
import Derived.Test.YtgiejiiiokdbpaaPrD
namespace Go.Proofs.Ytgiejiiiokdbpaa
open Go.RowKit
/-- The numbers of the bids that are chosen, 0 for the others. -/
def Al.want (f : Pr → Bool) (ps : List Pr) : List Int := ps.map fun p => if f p = true then p.2 else 0
theorem Al.want_len (f : Pr → Bool) (ps : List Pr) : (Al.want f ps).length = ps.length := by unfold Al.want; simp
theorem Al.want_at {f : Pr → Bool} {ps : List Pr} {i : Nat} (hi : i < ps.length) : (Al.want f ps).getD i 0 = if f (ps.getD i pr0) = true then (ps.getD i pr0).2 else 0 := by
  unfold Al.want
  rw [List.getD_eq_getElem?_getD, List.getElem?_map, List.getD_eq_getElem?_getD, List.getElem?_eq_getElem hi]
  rfl
theorem Al.want_bd {f : Pr → Bool} {ps : List Pr} (h : ps.all Bd.one = true) {i : Nat} (hi : i < ps.length) : 0 ≤ (Al.want f ps).getD i 0 ∧ (Al.want f ps).getD i 0 ≤ 9999 := by
  rw [Al.want_at hi]
  have := Bd.one_iff.1 (allB_at pr0 h hi)
  split <;> omega
theorem Al.want_mem {f : Pr → Bool} {ps : List Pr} (h : ps.all Bd.one = true) : (Al.want f ps).all holdB = true := by
  rw [List.all_eq_true]
  intro x hx
  obtain ⟨i, hi, rfl⟩ := List.mem_iff_getElem.1 hx
  rw [← Sr.getD_get hi]
  rw [Al.want_len] at hi
  exact btw_iff.2 (Al.want_bd h hi)

set_option maxHeartbeats 800000 in
theorem cho1_any (p : Pr) (w : World) : Calls Try.prog 63 #[floV p] w fun e w' => e = .returned (.bool (true)) ∧ Below w.heap.size w w' := by
  obtain ⟨x, m⟩ := p
  go_enter Try.func63, Try.ntmps63
  go_wp2_with fail
  go_ret
  exact ⟨rfl, (Below.refl _ _).alloc (Nat.le_refl _) _⟩
set_option maxRecDepth 8000 in
set_option maxHeartbeats 2000000 in
theorem wanted1_any (w : World) (v : Value) (ps : List Pr) (hv : R2o w v ps) (hl : ps.length ≤ 8) :
    Calls Try.prog 62 #[v, (.func (.func 63) #[] #[])] w (HandsN (Al.want (fun _ => true) ps) w) := by
  have HV := Lib.hid hv
  obtain ⟨⟨a, cap, rfl⟩, -⟩ := hv
  have HL := Lib.hid (Al.want_len (fun _ => true) ps)
  have HA := Lib.hid (fun i (hi : i < ps.length) => Al.want_at (f := (fun _ => true)) hi)
  obtain ⟨i0, hi, hz0, hz1, hz2⟩ := info_parts infoInt
  obtain ⟨n, hnn⟩ : ∃ n, n = ps.length := ⟨_, rfl⟩
  rw [← hnn] at hl HV HL HA ⊢
  have HN := Lib.hid hnn; clear hnn
  generalize Al.want (fun _ => true) ps = xs at *
  go_enter Try.func62, Try.ntmps62
  go_wp2_with (at_make; refine wpList_make_full _ rfl _ _ 23 rfl w.heap.size 3 i0 (.int .i64 0) 1 Try.underlying23 hi hz0 hz1 .i64 .i64 _ _ n rfl rfl rfl rfl (by rw [hz2]; omega) (by unfold maxLen; omega) (by omega) ?_; intro w3 hown hgrow)
  rw [made_ints1] at hown
  have HB3 := Lib.hid (show Below w.heap.size w w3 from (Below.refl _ _).grown hgrow (Nat.le_refl _) (fun j hj => by cases hj))
  have HR0 : Hid (IRow w3 w.heap.size (.slice (some ⟨w.heap.size, 0, none⟩) n n) (xs.take 0 ++ List.replicate (n - 0) 0)) := Lib.hid (by unfold IRow; simpa using hown)
  clear hown hgrow
  go_wp2_with fail
  go_loopw [13] (fun x wr => ∃ k : Nat, k ≤ n ∧ x = .int .i64 k ∧ Hid (IRow wr w.heap.size (.slice (some ⟨w.heap.size, 0, none⟩) n n) (xs.take k ++ List.replicate (n - k) 0)) ∧ Hid (Below w.heap.size w wr)) (fun x _ => n - (intOf x).toNat)
  case atStart => exact ⟨0, Nat.zero_le _, rfl, HR0, HB3⟩
  case round =>
    obtain ⟨k, hk, rfl, HF, HB⟩ := hrel
    have hlen : (xs.take k ++ List.replicate (n - k) (0 : Int)).length = n := by rw [List.length_append, List.length_take, List.length_replicate, HL.out]; omega
    have HFl := Lib.hid hlen
    clear hlen
    by_cases hlt : k < n
    · obtain ⟨b, off, d', e, hbl, hc⟩ := HV.out.2 (by rw [← HN.out]; omega)
      rw [← HN.out] at e
      simp only [Value.slice.injEq, true_and] at e
      obtain ⟨rfl, rfl⟩ := e
      obtain ⟨c0, c1⟩ := hc k (by rw [← HN.out]; exact hlt)
      replace c0 := (HB.out.cell (p := ⟨b, off + k * 2, none⟩) hbl).trans c0
      replace c1 := (HB.out.cell (p := ⟨b, off + k * 2 + 1, none⟩) hbl).trans c1
      clear hc
      have hAk := HA.out k hlt
      generalize ps.getD k pr0 = p at c0 c1 hAk
      obtain ⟨x, m⟩ := p
      simp only at c0 c1
      have hszr := HB.out.size
      have KB := (Blk.new wr #[.int .i64 x, .int .i64 m] 42)
      have HA5 := Lib.hid (HB.out.alloc hszr (.cells #[.int .i64 x, .int .i64 m] 42))
      have HC := Lib.hid (cho1_any (x, m) (wr.alloc (.cells #[.int .i64 x, .int .i64 m] 42)))
      have HSt := Lib.hid (fun y (hy : xs.getD k 0 = y) => (show (xs.take k ++ List.replicate (n - k) (0 : Int)).set k y = xs.take (k + 1) ++ List.replicate (n - (k + 1)) 0 by
        have h := copy_int (xs := xs) (k := k) (by rw [HL.out]; exact hlt)
        rw [HL.out, hy] at h
        exact h))
      have HSz := Lib.hid (fun (hy : xs.getD k 0 = 0) => (show xs.take k ++ List.replicate (n - k) (0 : Int) = xs.take (k + 1) ++ List.replicate (n - (k + 1)) 0 by
        rw [take_snoc1 (by rw [HL.out]; exact hlt), hy, List.append_assoc, show n - k = (n - (k + 1)) + 1 by omega, List.replicate_succ]; rfl))
      have HAk := Lib.hid (show xs.getD k 0 = m by simpa using hAk); clear hAk
      go_wp2_with fail
      refine HC.out.mono ?_
      rintro e w5 ⟨rfl, hb5⟩
      have HB5 := Lib.hid (HA5.out.trans (hb5.mono HA5.out.size))
      have HF5 := Lib.hid ((HF.out.alloc (.cells #[.int .i64 x, .int .i64 m] 42)).below hb5 (Nat.le_refl _))
      have d1 := ((KB.below hb5 KB.lt).twoQ).2
      have d0' := ((KB.below hb5 KB.lt).twoQ).1
      clear hb5 c0 c1
      obtain ⟨b4, cap4, e4, -, hbl4, -, hc4, hf4⟩ := HF5.out.form (by rw [HFl.out]; omega)
      simp only [Value.slice.injEq, Option.some.injEq, Addr.mk.injEq, and_true] at e4
      obtain ⟨rfl, -⟩ := e4
      have e0 := hc4 k (by rw [HFl.out]; exact hlt)
      have g0 := hf4 k
      clear hc4 hf4
      have HS := Lib.hid ((show IRow w5 w.heap.size (.slice (some ⟨w.heap.size, 0, none⟩) (xs.take k ++ List.replicate (n - k) (0 : Int)).length n) (xs.take k ++ List.replicate (n - k) 0) by rw [HFl.out]; exact HF5.out).store k m)
      generalize List.getD (xs.take k ++ List.replicate (n - k) 0) k 0 = y at e0
      have hk1 : (k : Int) < n := by omega
      go_wp2_with fail
      go_roundw
      case rel =>
        refine ⟨k + 1, by omega, by go_num, ?_, Lib.hid (HB5.out.setCell (Nat.le_refl _) _)⟩
        have h := HS.out.1
        rw [List.length_set, HFl.out, HSt.out m HAk.out] at h
        exact Lib.hid h
      case measure => simp [intOf]; omega
    · obtain rfl : k = n := by omega
      have HRes := Lib.hid (show Own wr w.heap.size (.slice (some ⟨w.heap.size, 0, none⟩) k k) xs from ⟨by
        have h := HF.out
        rw [List.take_of_length_le (by rw [HL.out]; exact Nat.le_refl _), Nat.sub_self] at h
        simp only [List.replicate_zero, List.append_nil] at h
        unfold IRow at h
        rw [HL.out] at h
        rw [HL.out]
        exact h, by simp⟩)
      go_wp2_with fail
      go_ret
      exact ⟨_, rfl, HRes.out, HB.out⟩
set_option maxHeartbeats 800000 in
theorem cho2_any (p : Pr) (w : World) (q : Nat) (s : Int) (hq : w.cell? ⟨q, 0, none⟩ = some (.int .i64 s)) (hql : q < w.heap.size) : Calls Try.prog 64 #[floV p, .pointer (some ⟨q, 0, none⟩)] w fun e w' => e = .returned (.bool (decide (p.1 < s))) ∧ Below w.heap.size w w' := by
  obtain ⟨x, m⟩ := p
  have hbA := (Below.refl w.heap.size w).alloc (Nat.le_refl _) (.cells #[.int .i64 x, .int .i64 m] 42)
  have hq2 := (hbA.cell (p := ⟨q, 0, none⟩) hql).trans hq
  clear hq
  go_enter Try.func64, Try.ntmps64
  go_wp2_with fail
  go_ret
  exact ⟨rfl, hbA⟩
set_option maxRecDepth 8000 in
set_option maxHeartbeats 2000000 in
theorem wanted2_any (w : World) (v : Value) (ps : List Pr) (hv : R2o w v ps) (hl : ps.length ≤ 8) (q : Nat) (s : Int) (hq : w.cell? ⟨q, 0, none⟩ = some (.int .i64 s)) (hql : q < w.heap.size) :
    Calls Try.prog 62 #[v, (.func (.func 64) #[] #[.pointer (some ⟨q, 0, none⟩)])] w (HandsN (Al.want (fun p => decide (p.1 < s)) ps) w) := by
  have HV := Lib.hid hv
  have HQ := Lib.hid hq; clear hq
  obtain ⟨⟨a, cap, rfl⟩, -⟩ := hv
  have HL := Lib.hid (Al.want_len (fun p => decide (p.1 < s)) ps)
  have HA := Lib.hid (fun i (hi : i < ps.length) => Al.want_at (f := (fun p => decide (p.1 < s))) hi)
  obtain ⟨i0, hi, hz0, hz1, hz2⟩ := info_parts infoInt
  obtain ⟨n, hnn⟩ : ∃ n, n = ps.length := ⟨_, rfl⟩
  rw [← hnn] at hl HV HL HA ⊢
  have HN := Lib.hid hnn; clear hnn
  generalize Al.want (fun p => decide (p.1 < s)) ps = xs at *
  go_enter Try.func62, Try.ntmps62
  go_wp2_with (at_make; refine wpList_make_full _ rfl _ _ 23 rfl w.heap.size 3 i0 (.int .i64 0) 1 Try.underlying23 hi hz0 hz1 .i64 .i64 _ _ n rfl rfl rfl rfl (by rw [hz2]; omega) (by unfold maxLen; omega) (by omega) ?_; intro w3 hown hgrow)
  rw [made_ints1] at hown
  have HB3 := Lib.hid (show Below w.heap.size w w3 from (Below.refl _ _).grown hgrow (Nat.le_refl _) (fun j hj => by cases hj))
  have HR0 : Hid (IRow w3 w.heap.size (.slice (some ⟨w.heap.size, 0, none⟩) n n) (xs.take 0 ++ List.replicate (n - 0) 0)) := Lib.hid (by unfold IRow; simpa using hown)
  clear hown hgrow
  go_wp2_with fail
  go_loopw [13] (fun x wr => ∃ k : Nat, k ≤ n ∧ x = .int .i64 k ∧ Hid (IRow wr w.heap.size (.slice (some ⟨w.heap.size, 0, none⟩) n n) (xs.take k ++ List.replicate (n - k) 0)) ∧ Hid (Below w.heap.size w wr)) (fun x _ => n - (intOf x).toNat)
  case atStart => exact ⟨0, Nat.zero_le _, rfl, HR0, HB3⟩
  case round =>
    obtain ⟨k, hk, rfl, HF, HB⟩ := hrel
    have hlen : (xs.take k ++ List.replicate (n - k) (0 : Int)).length = n := by rw [List.length_append, List.length_take, List.length_replicate, HL.out]; omega
    have HFl := Lib.hid hlen
    clear hlen
    by_cases hlt : k < n
    · obtain ⟨b, off, d', e, hbl, hc⟩ := HV.out.2 (by rw [← HN.out]; omega)
      rw [← HN.out] at e
      simp only [Value.slice.injEq, true_and] at e
      obtain ⟨rfl, rfl⟩ := e
      obtain ⟨c0, c1⟩ := hc k (by rw [← HN.out]; exact hlt)
      replace c0 := (HB.out.cell (p := ⟨b, off + k * 2, none⟩) hbl).trans c0
      replace c1 := (HB.out.cell (p := ⟨b, off + k * 2 + 1, none⟩) hbl).trans c1
      clear hc
      have hAk := HA.out k hlt
      generalize ps.getD k pr0 = p at c0 c1 hAk
      obtain ⟨x, m⟩ := p
      simp only at c0 c1
      have hszr := HB.out.size
      have KB := (Blk.new wr #[.int .i64 x, .int .i64 m] 42)
      have HA5 := Lib.hid (HB.out.alloc hszr (.cells #[.int .i64 x, .int .i64 m] 42))
      have HC := Lib.hid (cho2_any (x, m) (wr.alloc (.cells #[.int .i64 x, .int .i64 m] 42)) q s ((HA5.out.cell (p := ⟨q, 0, none⟩) hql).trans HQ.out) (Nat.lt_of_lt_of_le hql HA5.out.size))
      have HSt := Lib.hid (fun y (hy : xs.getD k 0 = y) => (show (xs.take k ++ List.replicate (n - k) (0 : Int)).set k y = xs.take (k + 1) ++ List.replicate (n - (k + 1)) 0 by
        have h := copy_int (xs := xs) (k := k) (by rw [HL.out]; exact hlt)
        rw [HL.out, hy] at h
        exact h))
      have HSz := Lib.hid (fun (hy : xs.getD k 0 = 0) => (show xs.take k ++ List.replicate (n - k) (0 : Int) = xs.take (k + 1) ++ List.replicate (n - (k + 1)) 0 by
        rw [take_snoc1 (by rw [HL.out]; exact hlt), hy, List.append_assoc, show n - k = (n - (k + 1)) + 1 by omega, List.replicate_succ]; rfl))
      by_cases hd : x < s
      · have hdt : (decide (x < s)) = true := decide_eq_true hd
        rw [if_pos (by exact hdt)] at hAk
        have HAk := Lib.hid hAk; clear hAk
        rw [show (decide ((x, m).1 < s)) = true from hdt] at HC
        clear hdt hd
        go_wp2_with fail
        refine HC.out.mono ?_
        rintro e w5 ⟨rfl, hb5⟩
        have HB5 := Lib.hid (HA5.out.trans (hb5.mono HA5.out.size))
        have HF5 := Lib.hid ((HF.out.alloc (.cells #[.int .i64 x, .int .i64 m] 42)).below hb5 (Nat.le_refl _))
        have d1 := ((KB.below hb5 KB.lt).twoQ).2
        have d0' := ((KB.below hb5 KB.lt).twoQ).1
        clear hb5 c0 c1
        obtain ⟨b4, cap4, e4, -, hbl4, -, hc4, hf4⟩ := HF5.out.form (by rw [HFl.out]; omega)
        simp only [Value.slice.injEq, Option.some.injEq, Addr.mk.injEq, and_true] at e4
        obtain ⟨rfl, -⟩ := e4
        have e0 := hc4 k (by rw [HFl.out]; exact hlt)
        have g0 := hf4 k
        clear hc4 hf4
        have HS := Lib.hid ((show IRow w5 w.heap.size (.slice (some ⟨w.heap.size, 0, none⟩) (xs.take k ++ List.replicate (n - k) (0 : Int)).length n) (xs.take k ++ List.replicate (n - k) 0) by rw [HFl.out]; exact HF5.out).store k m)
        generalize List.getD (xs.take k ++ List.replicate (n - k) 0) k 0 = y at e0
        have hk1 : (k : Int) < n := by omega
        go_wp2_with fail
        go_roundw
        case rel =>
          refine ⟨k + 1, by omega, by go_num, ?_, Lib.hid (HB5.out.setCell (Nat.le_refl _) _)⟩
          have h := HS.out.1
          rw [List.length_set, HFl.out, HSt.out m HAk.out] at h
          exact Lib.hid h
        case measure => simp [intOf]; omega
      · have hdt : (decide (x < s)) = false := decide_eq_false hd
        rw [if_neg (by show ¬ (decide (x < s)) = true; rw [hdt]; simp)] at hAk
        have HAk := Lib.hid hAk; clear hAk
        rw [show (decide ((x, m).1 < s)) = false from hdt] at HC
        clear hdt hd
        go_wp2_with fail
        refine HC.out.mono ?_
        rintro e w5 ⟨rfl, hb5⟩
        have HB5 := Lib.hid (HA5.out.trans (hb5.mono HA5.out.size))
        have HF5 := Lib.hid ((HF.out.alloc (.cells #[.int .i64 x, .int .i64 m] 42)).below hb5 (Nat.le_refl _))
        clear hb5 c0 c1
        go_wp2_with fail
        go_roundw
        case rel => exact ⟨k + 1, by omega, by go_num, Lib.hid (by rw [← HSz.out HAk.out]; exact HF5.out), HB5⟩
        case measure => simp [intOf]; omega
    · obtain rfl : k = n := by omega
      have HRes := Lib.hid (show Own wr w.heap.size (.slice (some ⟨w.heap.size, 0, none⟩) k k) xs from ⟨by
        have h := HF.out
        rw [List.take_of_length_le (by rw [HL.out]; exact Nat.le_refl _), Nat.sub_self] at h
        simp only [List.replicate_zero, List.append_nil] at h
        unfold IRow at h
        rw [HL.out] at h
        rw [HL.out]
        exact h, by simp⟩)
      go_wp2_with fail
      go_ret
      exact ⟨_, rfl, HRes.out, HB.out⟩
set_option maxHeartbeats 800000 in
theorem cho3_any (p : Pr) (w : World) (q : Nat) (s : Int) (hq : w.cell? ⟨q, 0, none⟩ = some (.int .i64 s)) (hql : q < w.heap.size) : Calls Try.prog 65 #[floV p, .pointer (some ⟨q, 0, none⟩)] w fun e w' => e = .returned (.bool (p.1 == s)) ∧ Below w.heap.size w w' := by
  obtain ⟨x, m⟩ := p
  have hbA := (Below.refl w.heap.size w).alloc (Nat.le_refl _) (.cells #[.int .i64 x, .int .i64 m] 42)
  have hq2 := (hbA.cell (p := ⟨q, 0, none⟩) hql).trans hq
  clear hq
  go_enter Try.func65, Try.ntmps65
  go_wp2_with fail
  go_ret
  exact ⟨rfl, hbA⟩
set_option maxRecDepth 8000 in
set_option maxHeartbeats 2000000 in
theorem wanted3_any (w : World) (v : Value) (ps : List Pr) (hv : R2o w v ps) (hl : ps.length ≤ 8) (q : Nat) (s : Int) (hq : w.cell? ⟨q, 0, none⟩ = some (.int .i64 s)) (hql : q < w.heap.size) :
    Calls Try.prog 62 #[v, (.func (.func 65) #[] #[.pointer (some ⟨q, 0, none⟩)])] w (HandsN (Al.want (fun p => p.1 == s) ps) w) := by
  have HV := Lib.hid hv
  have HQ := Lib.hid hq; clear hq
  obtain ⟨⟨a, cap, rfl⟩, -⟩ := hv
  have HL := Lib.hid (Al.want_len (fun p => p.1 == s) ps)
  have HA := Lib.hid (fun i (hi : i < ps.length) => Al.want_at (f := (fun p => p.1 == s)) hi)
  obtain ⟨i0, hi, hz0, hz1, hz2⟩ := info_parts infoInt
  obtain ⟨n, hnn⟩ : ∃ n, n = ps.length := ⟨_, rfl⟩
  rw [← hnn] at hl HV HL HA ⊢
  have HN := Lib.hid hnn; clear hnn
  generalize Al.want (fun p => p.1 == s) ps = xs at *
  go_enter Try.func62, Try.ntmps62
  go_wp2_with (at_make; refine wpList_make_full _ rfl _ _ 23 rfl w.heap.size 3 i0 (.int .i64 0) 1 Try.underlying23 hi hz0 hz1 .i64 .i64 _ _ n rfl rfl rfl rfl (by rw [hz2]; omega) (by unfold maxLen; omega) (by omega) ?_; intro w3 hown hgrow)
  rw [made_ints1] at hown
  have HB3 := Lib.hid (show Below w.heap.size w w3 from (Below.refl _ _).grown hgrow (Nat.le_refl _) (fun j hj => by cases hj))
  have HR0 : Hid (IRow w3 w.heap.size (.slice (some ⟨w.heap.size, 0, none⟩) n n) (xs.take 0 ++ List.replicate (n - 0) 0)) := Lib.hid (by unfold IRow; simpa using hown)
  clear hown hgrow
  go_wp2_with fail
  go_loopw [13] (fun x wr => ∃ k : Nat, k ≤ n ∧ x = .int .i64 k ∧ Hid (IRow wr w.heap.size (.slice (some ⟨w.heap.size, 0, none⟩) n n) (xs.take k ++ List.replicate (n - k) 0)) ∧ Hid (Below w.heap.size w wr)) (fun x _ => n - (intOf x).toNat)
  case atStart => exact ⟨0, Nat.zero_le _, rfl, HR0, HB3⟩
  case round =>
    obtain ⟨k, hk, rfl, HF, HB⟩ := hrel
    have hlen : (xs.take k ++ List.replicate (n - k) (0 : Int)).length = n := by rw [List.length_append, List.length_take, List.length_replicate, HL.out]; omega
    have HFl := Lib.hid hlen
    clear hlen
    by_cases hlt : k < n
    · obtain ⟨b, off, d', e, hbl, hc⟩ := HV.out.2 (by rw [← HN.out]; omega)
      rw [← HN.out] at e
      simp only [Value.slice.injEq, true_and] at e
      obtain ⟨rfl, rfl⟩ := e
      obtain ⟨c0, c1⟩ := hc k (by rw [← HN.out]; exact hlt)
      replace c0 := (HB.out.cell (p := ⟨b, off + k * 2, none⟩) hbl).trans c0
      replace c1 := (HB.out.cell (p := ⟨b, off + k * 2 + 1, none⟩) hbl).trans c1
      clear hc
      have hAk := HA.out k hlt
      generalize ps.getD k pr0 = p at c0 c1 hAk
      obtain ⟨x, m⟩ := p
      simp only at c0 c1
      have hszr := HB.out.size
      have KB := (Blk.new wr #[.int .i64 x, .int .i64 m] 42)
      have HA5 := Lib.hid (HB.out.alloc hszr (.cells #[.int .i64 x, .int .i64 m] 42))
      have HC := Lib.hid (cho3_any (x, m) (wr.alloc (.cells #[.int .i64 x, .int .i64 m] 42)) q s ((HA5.out.cell (p := ⟨q, 0, none⟩) hql).trans HQ.out) (Nat.lt_of_lt_of_le hql HA5.out.size))
      have HSt := Lib.hid (fun y (hy : xs.getD k 0 = y) => (show (xs.take k ++ List.replicate (n - k) (0 : Int)).set k y = xs.take (k + 1) ++ List.replicate (n - (k + 1)) 0 by
        have h := copy_int (xs := xs) (k := k) (by rw [HL.out]; exact hlt)
        rw [HL.out, hy] at h
        exact h))
      have HSz := Lib.hid (fun (hy : xs.getD k 0 = 0) => (show xs.take k ++ List.replicate (n - k) (0 : Int) = xs.take (k + 1) ++ List.replicate (n - (k + 1)) 0 by
        rw [take_snoc1 (by rw [HL.out]; exact hlt), hy, List.append_assoc, show n - k = (n - (k + 1)) + 1 by omega, List.replicate_succ]; rfl))
      by_cases hd : x = s
      · have hdt : (x == s) = true := by simp [hd]
        rw [if_pos (by exact hdt)] at hAk
        have HAk := Lib.hid hAk; clear hAk
        rw [show ((x, m).1 == s) = true from hdt] at HC
        clear hdt hd
        go_wp2_with fail
        refine HC.out.mono ?_
        rintro e w5 ⟨rfl, hb5⟩
        have HB5 := Lib.hid (HA5.out.trans (hb5.mono HA5.out.size))
        have HF5 := Lib.hid ((HF.out.alloc (.cells #[.int .i64 x, .int .i64 m] 42)).below hb5 (Nat.le_refl _))
        have d1 := ((KB.below hb5 KB.lt).twoQ).2
        have d0' := ((KB.below hb5 KB.lt).twoQ).1
        clear hb5 c0 c1
        obtain ⟨b4, cap4, e4, -, hbl4, -, hc4, hf4⟩ := HF5.out.form (by rw [HFl.out]; omega)
        simp only [Value.slice.injEq, Option.some.injEq, Addr.mk.injEq, and_true] at e4
        obtain ⟨rfl, -⟩ := e4
        have e0 := hc4 k (by rw [HFl.out]; exact hlt)
        have g0 := hf4 k
        clear hc4 hf4
        have HS := Lib.hid ((show IRow w5 w.heap.size (.slice (some ⟨w.heap.size, 0, none⟩) (xs.take k ++ List.replicate (n - k) (0 : Int)).length n) (xs.take k ++ List.replicate (n - k) 0) by rw [HFl.out]; exact HF5.out).store k m)
        generalize List.getD (xs.take k ++ List.replicate (n - k) 0) k 0 = y at e0
        have hk1 : (k : Int) < n := by omega
        go_wp2_with fail
        go_roundw
        case rel =>
          refine ⟨k + 1, by omega, by go_num, ?_, Lib.hid (HB5.out.setCell (Nat.le_refl _) _)⟩
          have h := HS.out.1
          rw [List.length_set, HFl.out, HSt.out m HAk.out] at h
          exact Lib.hid h
        case measure => simp [intOf]; omega
      · have hdt : (x == s) = false := by simpa using hd
        rw [if_neg (by show ¬ (x == s) = true; rw [hdt]; simp)] at hAk
        have HAk := Lib.hid hAk; clear hAk
        rw [show ((x, m).1 == s) = false from hdt] at HC
        clear hdt hd
        go_wp2_with fail
        refine HC.out.mono ?_
        rintro e w5 ⟨rfl, hb5⟩
        have HB5 := Lib.hid (HA5.out.trans (hb5.mono HA5.out.size))
        have HF5 := Lib.hid ((HF.out.alloc (.cells #[.int .i64 x, .int .i64 m] 42)).below hb5 (Nat.le_refl _))
        clear hb5 c0 c1
        go_wp2_with fail
        go_roundw
        case rel => exact ⟨k + 1, by omega, by go_num, Lib.hid (by rw [← HSz.out HAk.out]; exact HF5.out), HB5⟩
        case measure => simp [intOf]; omega
    · obtain rfl : k = n := by omega
      have HRes := Lib.hid (show Own wr w.heap.size (.slice (some ⟨w.heap.size, 0, none⟩) k k) xs from ⟨by
        have h := HF.out
        rw [List.take_of_length_le (by rw [HL.out]; exact Nat.le_refl _), Nat.sub_self] at h
        simp only [List.replicate_zero, List.append_nil] at h
        unfold IRow at h
        rw [HL.out] at h
        rw [HL.out]
        exact h, by simp⟩)
      go_wp2_with fail
      go_ret
      exact ⟨_, rfl, HRes.out, HB.out⟩
end Go.Proofs.Ytgiejiiiokdbpaa