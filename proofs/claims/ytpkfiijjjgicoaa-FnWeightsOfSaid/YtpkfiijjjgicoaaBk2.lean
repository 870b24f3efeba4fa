/- Weights of positions, on both sides. -/
import Derived.Test.YtpkfiijjjgicoaaBk
import Derived.Test.YtpkfiijjjgicoaaAvMarkB
import Derived.Test.YtpkfiijjjgicoaaI1
import Derived.Test.YtpkfiijjjgicoaaTrXMark
import Derived.Test.YtpkfiijjjgicoaaMinMax
namespace Go.Proofs.Ytpkfiijjjgicoaa
open Go.RowKit
def Bk.wts (ps : List Tri) : List Int := ps.map fun p => 1000 * Mk.wor p / max (Bk.sum ps) 1
def Bk.bok (ps : List Tri) : Bool := btw ps.length 0 8 && ps.all Mk.bo
def Bk.wei (ps : List Tri) : List Int := if Bk.bok ps = true then Bk.wts ps else []
theorem Bk.wei_yes {ps : List Tri} (h : Bk.bok ps = true) : Bk.wei ps = Bk.wts ps := if_pos h
theorem Bk.wei_no {ps : List Tri} (h : Bk.bok ps = false) : Bk.wei ps = [] := if_neg (by rw [h]; simp)
theorem Mk.bo_iff {m c a : Int} : Mk.bo (m, c, a) = true ↔ (0 ≤ m ∧ m ≤ 9999) ∧ (0 ≤ c ∧ c ≤ 50000) ∧ (0 ≤ a ∧ a ≤ 50000) := by
  unfold Mk.bo
  rw [Bool.and_eq_true, Mk.one_iff, decide_eq_true_eq]
  show ((-9999 ≤ m ∧ m ≤ 9999) ∧ (0 ≤ c ∧ c ≤ 50000) ∧ (0 ≤ a ∧ a ≤ 50000)) ∧ 0 ≤ m ↔ _
  omega
theorem Mk.bo_one {p : Tri} (h : Mk.bo p = true) : Mk.one p = true := by unfold Mk.bo at h; rw [Bool.and_eq_true] at h; exact h.1
theorem Mk.bo_bd {p : Tri} (h : Mk.bo p = true) : 0 ≤ Mk.wor p ∧ Mk.wor p ≤ 999900000 := by
  obtain ⟨m, c, a⟩ := p
  refine ⟨?_, (Mk.wor_bd (Mk.bo_one h)).2⟩
  obtain ⟨⟨m0, m1⟩, ⟨c0, c1⟩, a0, a1⟩ := Mk.bo_iff.1 h
  exact Int.mul_nonneg m0 (by show 0 ≤ c + a; omega)
theorem Bk.bparts {ps : List Tri} (h : Bk.bok ps = true) : ps.length ≤ 8 ∧ ps.all Mk.bo = true := by
  unfold Bk.bok at h
  rw [Bool.and_eq_true, btw_iff] at h
  exact ⟨by omega, h.2⟩
theorem Bk.ball {ps : List Tri} (h : ps.all Mk.bo = true) : ps.all Mk.one = true := by
  rw [List.all_eq_true] at h ⊢
  exact fun p hp => Mk.bo_one (h p hp)
theorem Bk.wors_nn {ps : List Tri} (h : ps.all Mk.bo = true) : ∀ x ∈ ps.map Mk.wor, 0 ≤ x := by
  intro x hx
  obtain ⟨p, hp, rfl⟩ := List.mem_map.1 hx
  exact (Mk.bo_bd (List.all_eq_true.1 h p hp)).1
theorem Bk.sum_nn {ps : List Tri} (h : ps.all Mk.bo = true) : 0 ≤ Bk.sum ps := Pr.sum_nn _ (Bk.wors_nn h)
theorem Bk.wts_at {ps : List Tri} {i : Nat} (hi : i < ps.length) : (Bk.wts ps).getD i 0 = 1000 * Mk.wor (ps.getD i t0) / max (Bk.sum ps) 1 := by
  unfold Bk.wts
  rw [List.getD_eq_getElem?_getD, List.getElem?_map, List.getD_eq_getElem?_getD, List.getElem?_eq_getElem hi]
  rfl
theorem Bk.wts_len (ps : List Tri) : (Bk.wts ps).length = ps.length := by unfold Bk.wts; simp
/-- Nothing at all is worth anything. -/
theorem Bk.zeros {ps : List Tri} (h : ps.all Mk.bo = true) (h0 : Bk.sum ps = 0) : Bk.wts ps = List.replicate ps.length 0 := by
  refine List.ext_getElem (by rw [Bk.wts_len, List.length_replicate]) fun i h1 h2 => ?_
  rw [List.getElem_replicate, ← Sr.getD_get h1]
  rw [Bk.wts_len] at h1
  rw [Bk.wts_at h1]
  have hm : Mk.wor (ps.getD i t0) ∈ ps.map Mk.wor := List.mem_map.2 ⟨_, by rw [List.getD_eq_getElem?_getD, List.getElem?_eq_getElem h1]; exact List.getElem_mem h1, rfl⟩
  have h3 := Bk.wors_nn h _ hm
  have h4 := Pr.mem_le _ (Bk.wors_nn h) _ hm
  rw [show (ps.map Mk.wor).sum = 0 from h0] at h4
  rw [show Mk.wor (ps.getD i t0) = 0 by omega]
  simp
set_option maxRecDepth 8000 in
set_option maxHeartbeats 4000000 in
theorem weights_any (w : World) (v : Value) (ps : List Tri) (hv : R3o w v ps) (hm : ps.length ≤ 9223372036854775807) :
    Calls Try.prog 17 #[v] w (HandsI (Bk.wei ps) w) := by
  have AV := Lib.hid (av_MarkB w v ps 0 8 hv hm)
  have HV := Lib.hid hv
  obtain ⟨⟨a, cap, rfl⟩, -⟩ := hv
  have hO : Bk.bok ps = (btw ps.length 0 8 && ps.all Mk.bo) := rfl
  cases h : Bk.bok ps with
  | false =>
    have E := Lib.hid (Bk.wei_no h)
    have H := Lib.hid (hO.symm.trans h); clear h hO
    go_enter Try.func17, Try.ntmps17
    go_wp2_with fail
    refine AV.out.mono ?_
    rw [H.out]
    rintro e w1 ⟨rfl, hb1⟩
    go_wp2_with fail
    go_ret
    exact ⟨_, rfl, by rw [E.out]; exact IRow.nil _ _, hb1⟩
  | true =>
    have E := Lib.hid (Bk.wei_yes h)
    obtain ⟨hl, hall⟩ := Bk.bparts h
    have H := Lib.hid (hO.symm.trans h); clear h hO
    have HA := Lib.hid hall
    have hs0 := Bk.sum_nn hall
    have hs1 : Bk.sum ps ≤ 999900000 * 8 := by have := (Bk.bd (Bk.ball hall) ps.length (Nat.le_refl _)).2; rw [List.take_length] at this; omega
    have HZ := Lib.hid (fun h0 => Bk.zeros hall h0)
    have HB := Lib.hid (fun i (hi : i < ps.length) => Mk.bo_bd (allB_at t0 hall hi))
    have HO := Lib.hid (fun i (hi : i < ps.length) => Mk.bo_one (allB_at t0 hall hi))
    have HL := Lib.hid (Bk.wts_len ps)
    have HAt := Lib.hid (fun i (hi : i < ps.length) => Bk.wts_at hi)
    have SM := Lib.hid (fun W (hb : Below w.heap.size w W) => sumMk_any W _ ps (HV.out.below hb (Nat.le_refl _)) (Bk.ball hall) hl)
    clear hall
    obtain ⟨i0, hi, hz0, hz1, hz2⟩ := info_parts infoInt
    go_enter Try.func17, Try.ntmps17
    go_wp2_with fail
    refine AV.out.mono ?_
    rw [H.out]
    rintro e w1 ⟨rfl, hb1⟩
    have HB1 := Lib.hid hb1; clear hb1
    go_wp2_with (at_make; refine wpList_make_full _ rfl _ _ 28 rfl w1.heap.size 3 i0 (.int .i64 0) 1 Try.underlying28 hi hz0 hz1 .i64 .i64 _ _ ps.length rfl rfl rfl rfl (by rw [hz2]; omega) (by unfold maxLen; omega) (by omega) ?_; intro w3 hown hgrow)
    rw [made_ints1] at hown
    have hb3 : Below w1.heap.size w1 w3 := (Below.refl _ _).grown hgrow (Nat.le_refl _) (fun j hj => by cases hj)
    have HR0 : Hid (IRow w3 w1.heap.size (.slice (some ⟨w1.heap.size, 0, none⟩) ps.length ps.length) (List.replicate ps.length 0)) := Lib.hid (by unfold IRow; simpa using hown)
    have HB3 := Lib.hid (HB1.out.trans (hb3.mono HB1.out.size))
    clear hown hgrow hb3
    go_wp2_with fail
    refine (SM.out _ HB3.out).mono ?_
    rintro e w4 ⟨rfl, hb4⟩
    have HR4 := Lib.hid (HR0.out.below hb4 (Nat.le_refl _))
    have HB4 := Lib.hid (HB3.out.trans (hb4.mono HB3.out.size))
    clear hb4
    have hsz1 := HB1.out.size
    by_cases h0 : Bk.sum ps = 0
    · have hbeq : (Bk.sum ps == 0) = true := by rw [h0]; rfl
      have HE := Lib.hid (E.out.trans (HZ.out h0))
      go_wp2_with fail
      go_ret
      exact ⟨_, rfl, by rw [HE.out, show (List.replicate ps.length (0 : Int)) = List.replicate ps.length 0 from rfl]; exact HR4.out.lower hsz1, HB4.out⟩
    · have hbeq : (Bk.sum ps == 0) = false := by simpa using h0
      have hmax : max (Bk.sum ps) 1 = Bk.sum ps := by omega
      rw [hmax] at HAt
      have HN := Lib.hid (E.out)
      clear HZ hmax
      generalize Bk.sum ps = T at *
      generalize Bk.wts ps = xs at *
      obtain ⟨n, hn⟩ : ∃ n, n = ps.length := ⟨_, rfl⟩
      rw [← hn] at hl hm HR4 HL HAt HB HO HV ⊢
      have HLn := Lib.hid hn; clear hn
      have hT : 0 < T := by omega
      have HR5 : Hid (IRow w4 w1.heap.size (.slice (some ⟨w1.heap.size, 0, none⟩) n n) (xs.take 0 ++ List.replicate (n - 0) 0)) := Lib.hid (by simpa using HR4.out)
      go_wp2_with fail
      go_loopw [20] (fun x wr => ∃ k : Nat, k ≤ n ∧ x = .int .i64 k ∧ Hid (IRow wr w1.heap.size (.slice (some ⟨w1.heap.size, 0, none⟩) n n) (xs.take k ++ List.replicate (n - k) 0)) ∧ Below w.heap.size w wr) (fun x _ => n - (intOf x).toNat)
      case atStart => exact ⟨0, Nat.zero_le _, rfl, HR5, HB4.out⟩
      case round =>
        obtain ⟨k, hk, rfl, HF, hb⟩ := hrel
        have hlen : (xs.take k ++ List.replicate (n - k) (0 : Int)).length = n := by rw [List.length_append, List.length_take, List.length_replicate, HL.out]; omega
        have HFl := Lib.hid hlen
        by_cases hlt : k < n
        · obtain ⟨b, off, d', e, hbl, hc⟩ := HV.out.2 (by rw [← HLn.out]; omega)
          rw [← HLn.out] at e
          simp only [Value.slice.injEq, true_and] at e
          obtain ⟨rfl, rfl⟩ := e
          obtain ⟨c0, c1, c2⟩ := hc k (by rw [← HLn.out]; exact hlt)
          replace c0 := (hb.cell (p := ⟨b, off + k * 3, none⟩) hbl).trans c0
          replace c1 := (hb.cell (p := ⟨b, off + k * 3 + 1, none⟩) hbl).trans c1
          replace c2 := (hb.cell (p := ⟨b, off + k * 3 + 2, none⟩) hbl).trans c2
          clear hc
          have hone := HO.out k hlt
          obtain ⟨o0, o1⟩ := HB.out k hlt
          have hAk := HAt.out k hlt
          generalize ps.getD k t0 = p at c0 c1 c2 hone o0 o1 hAk
          obtain ⟨m, cc, aa⟩ := p
          have WM := Lib.hid (fun W => worth_any m cc aa W hone)
          clear hone
          have HBr := Lib.hid hb
          have ew : Mk.wor (m, cc, aa) = m * (cc + aa) := rfl
          rw [ew] at o0 o1 hAk
          clear ew hb
          generalize m * (cc + aa) = q at o0 o1 hAk WM
          simp only at c0 c1 c2
          have HAk := Lib.hid hAk; clear hAk
          go_wp2_with fail
          refine (WM.out _).mono ?_
          rintro e w5 ⟨rfl, hb5⟩
          have HF5 := Lib.hid ((HF.out.alloc (.cells #[.int .i64 m, .int .i64 cc, .int .i64 aa] 33)).below hb5 (Nat.le_refl _))
          have HB5 := Lib.hid ((HBr.out.alloc (by have := HBr.out.size; exact this) (.cells #[.int .i64 m, .int .i64 cc, .int .i64 aa] 33)).trans (hb5.mono (by have := HBr.out.size; simp; omega)))
          clear hb5 c0 c1 c2
          obtain ⟨b4, cap4, e4, -, hbl4, -, hc4, hf4⟩ := HF5.out.form (by rw [HFl.out]; omega)
          simp only [Value.slice.injEq, Option.some.injEq, Addr.mk.injEq, and_true] at e4
          obtain ⟨rfl, -⟩ := e4
          have d0 := hc4 k (by rw [HFl.out]; exact hlt)
          have g0 := hf4 k
          clear hc4 hf4
          have HS := Lib.hid ((show IRow w5 w1.heap.size (.slice (some ⟨w1.heap.size, 0, none⟩) (xs.take k ++ List.replicate (n - k) (0 : Int)).length n) (xs.take k ++ List.replicate (n - k) 0) by rw [HFl.out]; exact HF5.out).store k (1000 * q / T))
          have HSt := Lib.hid (show (xs.take k ++ List.replicate (n - k) (0 : Int)).set k (1000 * q / T) = xs.take (k + 1) ++ List.replicate (n - (k + 1)) 0 by
            rw [← HAk.out]
            have h := copy_int (xs := xs) (k := k) (by rw [HL.out]; exact hlt)
            rw [HL.out] at h
            exact h)
          generalize List.getD (xs.take k ++ List.replicate (n - k) 0) k 0 = y at d0
          have hq0 : 0 ≤ 1000 * q := by omega
          go_wp2_with fail
          go_roundw
          case rel =>
            refine ⟨k + 1, by omega, by go_num, ?_, HB5.out.setCell hsz1 _⟩
            have h := HS.out.1
            rw [List.length_set, HFl.out, HSt.out] at h
            exact Lib.hid h
          case measure => simp [intOf]; omega
        · obtain rfl : k = n := by omega
          have HF2 := Lib.hid (show IRow wr w.heap.size (.slice (some ⟨w1.heap.size, 0, none⟩) k k) xs from by
            have h := HF.out
            rw [List.take_of_length_le (by rw [HL.out]; exact Nat.le_refl _), Nat.sub_self] at h
            simp only [List.replicate_zero, List.append_nil] at h
            exact h.lower hsz1)
          go_wp2_with fail
          go_ret
          exact ⟨_, rfl, by rw [HN.out]; exact HF2.out, hb⟩
set_option maxRecDepth 8000 in
set_option maxHeartbeats 4000000 in
theorem sweights_any (w : World) (v : Value) (ps : List Tri) (hv : R3o w v ps) (hm : ps.length ≤ 9223372036854775807) :
    Calls Try.prog 19 #[v] w (HandsI (Bk.wei ps) w) := by
  have hA := (Below.refl w.heap.size w).alloc (Nat.le_refl _) (.cells #[] 3)
  have SB := Lib.hid (sbook_any (w.alloc (.cells #[] 3)) v ps (hv.below hA (Nat.le_refl _)) hm)
  have HV := Lib.hid hv
  have HO0 := Lib.hid (own_new w)
  have HA0 := Lib.hid hA; clear hA
  obtain ⟨⟨a, cap, rfl⟩, -⟩ := hv
  cases h : Bk.ok ps with
  | false =>
    have E := Lib.hid (Bk.wei_no (ps := ps) (by
      cases hb : Bk.bok ps with
      | false => rfl
      | true =>
        obtain ⟨hl, hall⟩ := Bk.bparts hb
        have : Bk.ok ps = true := by unfold Bk.ok; rw [Bk.ball hall, btw_t (by omega) (by omega)]; rfl
        rw [this] at h; cases h))
    have H := Lib.hid h; clear h
    go_enter Try.func19, Try.ntmps19
    go_wp2_with fail
    refine SB.out.mono ?_
    rw [H.out]
    rintro e w1 ⟨rfl, hb1⟩
    have HB1 := Lib.hid (HA0.out.trans (hb1.mono HA0.out.size)); clear hb1
    go_wp2_with fail
    refine wp_loop_rounds 1 ?_
    rw [rounds_succ]
    go_wp2_with fail
    all_goals
      go_ret
      exact ⟨_, rfl, by rw [E.out]; exact IRow.nil _ _, HB1.out⟩
  | true =>
    obtain ⟨hl, hall⟩ := Bk.parts h
    have H := Lib.hid h
    have hbv := Bk.val_yes h
    rw [hbv] at SB
    clear hbv
    obtain ⟨t0', t1'⟩ := (by have h := Bk.bd hall ps.length (Nat.le_refl _); rw [List.take_length] at h; exact h : -999900000 * (ps.length : Int) ≤ Bk.sum ps ∧ Bk.sum ps ≤ 999900000 * (ps.length : Int))
    have HBo := Lib.hid (show ps.all Mk.bo = true → Bk.wei ps = Bk.wts ps from fun q => Bk.wei_yes (by unfold Bk.bok; rw [q, btw_t (by omega) (by omega)]; rfl))
    have HNo := Lib.hid (show ps.all Mk.bo = false → Bk.wei ps = [] from fun q => Bk.wei_no (by unfold Bk.bok; rw [q]; simp))
    have HONE := Lib.hid (fun i (hi : i < ps.length) => allB_at t0 hall hi)
    have HWB := Lib.hid (fun i (hi : i < ps.length) => Bk.one_bd (allB_at t0 hall hi))
    have HL := Lib.hid (Bk.wts_len ps)
    have HAt := Lib.hid (fun i (hi : i < ps.length) => Bk.wts_at hi)
    clear h hall
    generalize Bk.sum ps = T at *
    generalize Bk.wts ps = xs at *
    obtain ⟨n, hn⟩ : ∃ n, n = ps.length := ⟨_, rfl⟩
    rw [← hn] at hl hm t0' t1' SB HV HONE HWB HL HAt ⊢
    have HN := Lib.hid hn; clear hn
    go_enter Try.func19, Try.ntmps19
    go_wp2_with fail
    refine SB.out.mono ?_
    rw [H.out]
    rintro e w1 ⟨rfl, hb1⟩
    have HB1 := Lib.hid (HA0.out.trans (hb1.mono HA0.out.size))
    have HO1 := Lib.hid (show Own w1 w.heap.size (.slice (some ⟨w.heap.size, 0, none⟩) 0 0) [] from ⟨World.ownsRow.kept HO0.out.1 (row := none) ⟨hb1.os, hb1.tape, hb1.output, hb1.size, fun k hk _ => hb1.block k hk⟩ (.inr (by simp [Value.ownBlock])), HO0.out.2⟩)
    clear hb1
    go_wp2_with fail
    go_loop [5, 6] (fun o x => ∃ (i : Nat) (β : Bool), i ≤ n ∧ x = .int .i64 i ∧ o = .bool β ∧ Hid (β = true → ∀ j, j < i → Mk.bo (ps.getD j t0) = true) ∧ Hid (β = false → ps.all Mk.bo = false)) (fun _ x => n - (intOf x).toNat)
    case atStart => exact ⟨0, true, Nat.zero_le _, rfl, rfl, Lib.hid (fun _ j hj => by omega), Lib.hid (fun q => by cases q)⟩
    case round =>
      obtain ⟨i, β, hi, rfl, rfl, HH, HF⟩ := hrel
      cases β with
      | false =>
        have HE := Lib.hid (HNo.out (HF.out rfl))
        by_cases hlt : i < n
        · go_wp2_with fail
          go_ret
          exact ⟨_, rfl, by rw [HE.out]; exact IRow.nil _ _, HB1.out⟩
        · go_wp2_with fail
          go_ret
          exact ⟨_, rfl, by rw [HE.out]; exact IRow.nil _ _, HB1.out⟩
      | true =>
        by_cases hlt : i < n
        · obtain ⟨b, off, d', e, hbl, hc⟩ := HV.out.2 (by rw [← HN.out]; omega)
          rw [← HN.out] at e
          simp only [Value.slice.injEq, true_and] at e
          obtain ⟨rfl, rfl⟩ := e
          obtain ⟨c0, -, -⟩ := hc i (by rw [← HN.out]; exact hlt)
          replace c0 := (HB1.out.cell (p := ⟨b, off + i * 3, none⟩) hbl).trans c0
          clear hc
          have hbo : Mk.bo (ps.getD i t0) = decide (0 ≤ (ps.getD i t0).1) := by unfold Mk.bo; rw [HONE.out i hlt]; rfl
          have HBad := Lib.hid (fun (q : Mk.bo (ps.getD i t0) = false) => allB_bad Mk.bo t0 (by rw [← HN.out]; exact hlt) q)
          have HG : Hid (Mk.bo (ps.getD i t0) = true → ∀ j, j < i + 1 → Mk.bo (ps.getD j t0) = true) := Lib.hid (fun q j hj => by
            rcases Nat.lt_or_ge j i with z | z
            · exact HH.out rfl j z
            · obtain rfl : j = i := by omega
              exact q)
          rw [hbo] at HBad HG
          clear hbo
          have hpp : ps.getD i (0, 0, 0) = ps.getD i t0 := rfl
          rw [hpp] at c0
          clear hpp
          generalize (ps.getD i t0).1 = m at c0 HBad HG
          go_wp2_with fail
          go_round
          case rel => exact ⟨i + 1, decide (0 ≤ m), by omega, by go_num, rfl, HG, HBad⟩
          case measure => simp [intOf]; omega
        · obtain rfl : i = n := by omega
          have HE := Lib.hid (HBo.out (allB_take Mk.bo t0 (HH.out rfl) HN.out))
          have HWN := Lib.hid (fun j (hj : j < i) => (Mk.bo_bd (HH.out rfl j hj)).1)
          obtain ⟨M, hM⟩ : ∃ M, max T 1 = M := ⟨_, rfl⟩
          have hM0 : 0 < M := by omega
          have hM1 : M ≤ 999900000 * 8 := by omega
          have fmax : ∀ W : World, (Builtin.max_ #[3, 3] 3 #[.int .i64 T, .int .i64 1]).run Try.prog W = .ok (.int .i64 M) W := fun W => by rw [← hM]; exact run_max2' _ _ _ _ W
          rw [hM] at HAt
          clear hM
          have HX := Lib.hid (HL.out)
          go_wp2_with fail
          go_loopw [3, 7] (fun o x wr => ∃ k : Nat, k ≤ i ∧ x = .int .i64 k ∧ Hid (Own wr w.heap.size o (xs.take k)) ∧ Below w.heap.size w wr) (fun _ x _ => i - (intOf x).toNat)
          case atStart => exact ⟨0, Nat.zero_le _, rfl, Lib.hid (by simpa using HO1.out), HB1.out⟩
          case round =>
            obtain ⟨k, hk, rfl, HOk, hb⟩ := hrel
            obtain ⟨b6, c6, e6, hb6, -⟩ := HOk.out.form
            have hlk : (xs.take k).length = k := by rw [List.length_take, HX.out]; omega
            rw [hlk] at e6
            subst e6
            by_cases hlt2 : k < i
            · obtain ⟨b, off, d', e, hbl, hc⟩ := HV.out.2 (by rw [← HN.out]; omega)
              rw [← HN.out] at e
              simp only [Value.slice.injEq, true_and] at e
              obtain ⟨rfl, rfl⟩ := e
              obtain ⟨c0, c1, c2⟩ := hc k (by rw [← HN.out]; exact hlt2)
              replace c0 := (hb.cell (p := ⟨b, off + k * 3, none⟩) hbl).trans c0
              replace c1 := (hb.cell (p := ⟨b, off + k * 3 + 1, none⟩) hbl).trans c1
              replace c2 := (hb.cell (p := ⟨b, off + k * 3 + 2, none⟩) hbl).trans c2
              clear hc
              have hone := HONE.out k hlt2
              have o0 := HWN.out k hlt2
              have o1 := (HWB.out k hlt2).2
              have hAk := HAt.out k hlt2
              have HTk := Lib.hid (take_snoc1 (xs := xs) (k := k) (by rw [HX.out]; exact hlt2))
              generalize ps.getD k t0 = p at c0 c1 c2 hone o0 o1 hAk
              obtain ⟨m, cc, aa⟩ := p
              have WM := Lib.hid (fun W => sworth_any m cc aa W hone)
              clear hone
              have HBr := Lib.hid hb
              have ew : Mk.wor (m, cc, aa) = m * (cc + aa) := rfl
              rw [ew] at o0 o1 hAk
              clear ew hb
              generalize m * (cc + aa) = q at o0 o1 hAk WM
              simp only at c0 c1 c2
              rw [hAk] at HTk
              clear hAk
              have hsz := HBr.out.size
              go_wp2_with fail
              refine (WM.out _).mono ?_
              rintro e w5 ⟨rfl, hb5⟩
              have HO5 := Lib.hid (show Own w5 w.heap.size (.slice (some ⟨b6, 0, none⟩) k c6) (xs.take k) from ⟨World.ownsRow.kept HOk.out.1 (row := none) ⟨hb5.os, hb5.tape, hb5.output, hb5.size, fun k hk _ => hb5.block k hk⟩ (.inr (by simp [Value.ownBlock])), HOk.out.2⟩)
              have HB5 := Lib.hid (HBr.out.trans (hb5.mono hsz))
              have hs5 := HB5.out.size
              clear hb5 c0 c1 c2
              have hq0 : 0 ≤ 1000 * q := by omega
              have hKN := (Blk.new w5 #[.int .i64 (1000 * q / M)] 3).one0
              go_wp2_with (at_builtin; refine wpList_push _ rfl _ _ rfl w.heap.size _ (xs.take k) rfl (HO5.out.alloc _) w5.heap.size _ (1000 * q / M) rfl hKN (by rw [hlk]; omega) (by simp; omega) ?_; intro v6 w6 hown6 hg6)
              have HO6 := Lib.hid hown6
              have HB6 := Lib.hid ((HB5.out.alloc hs5 (.cells #[.int .i64 (1000 * q / M)] 3)).grown hg6 (by simp; omega) (fun j hj => by have hj2 : some b6 = some j := hj; injection hj2 with hj2; omega))
              clear hown6 hg6 hKN
              go_roundw
              case rel => exact ⟨k + 1, by omega, by go_num, Lib.hid (by rw [HTk.out]; exact HO6.out), HB6.out⟩
              case measure => simp [intOf]; omega
            · obtain rfl : k = i := by omega
              have HFin := Lib.hid (show IRow wr w.heap.size (.slice (some ⟨b6, 0, none⟩) k c6) xs from by
                have h := HOk.out.irow
                rw [List.take_of_length_le (by rw [HX.out]; exact Nat.le_refl _)] at h
                exact h)
              go_wp2_with fail
              go_ret
              exact ⟨_, rfl, by rw [HE.out]; exact HFin.out, hb⟩
end Go.Proofs.Ytpkfiijjjgicoaa
