/- The law of errors of hedges. -/
import Derived.Test.YtckekkfdkbekmaaHgD
import Derived.Deep.Cut
namespace Go.Proofs.Ytckekkfdkbekmaa
open Go.RowKit
set_option maxHeartbeats 400000 in
theorem labsH_any (n : Int) (w : World) (h0 : -1000000000000000000 ≤ n) (h1 : n ≤ 1000000000000000000) : Calls Try.prog 30 #[.int .i64 n] w fun e w' => e = .returned (.int .i64 (max n (-n))) ∧ w = w' := by
  by_cases h : n < 0
  · have E := Lib.hid (show max n (-n) = -n by omega)
    go_enter Try.func30, Try.ntmps30
    go_wp2_with fail
    go_ret
    exact ⟨ret_int E.out.symm, rfl⟩
  · have E := Lib.hid (show max n (-n) = n by omega)
    go_enter Try.func30, Try.ntmps30
    go_wp2_with fail
    go_ret
    exact ⟨ret_int E.out.symm, rfl⟩
theorem Hg.zero_left (r : Int) (ts : List Int) (n : Nat) : ∀ k, Hg.left r ts (List.replicate n 0) k = r
  | 0 => rfl
  | k + 1 => by
    unfold Hg.left
    rw [Hg.zero_left r ts n k, List.getD_eq_getElem?_getD, List.getElem?_replicate]
    split <;> simp
theorem Hg.zero {r : Int} {ts : List Int} (h : Hg.okT r ts = true) : Hg.err r ts (List.replicate ts.length 0) = max r (-r) := by
  have hok : Hg.ok r ts (List.replicate ts.length 0) = true := by
    unfold Hg.ok
    rw [h, List.length_replicate, btw_t (by omega) (by omega), Bool.true_and, Bool.true_and, List.all_eq_true]
    intro x hx
    rw [List.eq_of_mem_replicate hx]; rfl
  rw [Hg.yes hok, Hg.zero_left]
theorem Hg.step_left {r : Int} {ts cs : List Int} (hc : 0 < cs.length) : ∀ k, 1 ≤ k → Hg.left r ts (cs.set 0 (cs.getD 0 0 + 1)) k = Hg.left r ts cs k - ts.getD 0 0
  | 0, h => by omega
  | k + 1, _ => by
    unfold Hg.left
    rcases Nat.eq_zero_or_pos k with q | q
    · subst q
      have e : (cs.set 0 (cs.getD 0 0 + 1)).getD 0 0 = cs.getD 0 0 + 1 := by
        rw [List.getD_eq_getElem?_getD, List.getElem?_set]; simp [hc]
      rw [e, Int.add_mul, Int.one_mul]
      unfold Hg.left
      omega
    · have e : (cs.set 0 (cs.getD 0 0 + 1)).getD k 0 = cs.getD k 0 := by
        rw [List.getD_eq_getElem?_getD, List.getElem?_set, if_neg (by omega), ← List.getD_eq_getElem?_getD]
      rw [Hg.step_left hc k q, e]
      omega
theorem Hg.step_ok {r : Int} {ts cs : List Int} (h : Hg.ok r ts cs = true) (h6 : cs.getD 0 0 ≠ 6) : Hg.ok r ts (cs.set 0 (cs.getD 0 0 + 1)) = true := by
  have hp := Hg.parts h
  unfold Hg.ok at *
  rw [Bool.and_eq_true, Bool.and_eq_true] at *
  refine ⟨h.1, by rw [List.length_set]; exact h.2.1, ?_⟩
  have ha := h.2.2
  rw [List.all_eq_true] at *
  intro x hx
  rcases List.mem_or_eq_of_mem_set hx with hx | hx
  · exact ha x hx
  · subst hx
    have := hp.2.2.2.2 0 (by omega)
    exact btw_t (by omega) (by omega)
theorem news_of {w : World} {b off : Nat} {xs : List Int} (hb : b < w.heap.size) (hc : ∀ i, i < xs.length → w.cell? ⟨b, off + i, none⟩ = some (.int .i64 (xs.getD i 0))) :
    ∀ j u, (xs.map (Value.int .i64))[j]? = some u → (w.alloc (.cells #[] 3)).cell? ((⟨b, off, none⟩ : Addr).add j) = some u := by
  intro j u hu
  have hj : j < xs.length := by
    have := (List.getElem?_eq_some_iff.1 hu).1
    simpa using this
  have e : (⟨b, off, none⟩ : Addr).add j = ⟨b, off + j, none⟩ := by unfold Addr.add; split <;> simp_all
  rw [e, World.cell?_of_block (w := w) (a := ⟨b, off + j, none⟩) (Below.heap_alloc _ _ _ hb), hc j hj]
  rw [List.getElem?_map, List.getElem?_eq_getElem hj] at hu
  rw [List.getD_eq_getElem?_getD, List.getElem?_eq_getElem hj]
  simpa using hu
set_option maxRecDepth 8000 in
set_option maxHeartbeats 4000000 in
theorem lawHedgeError (a : Option Addr) (len cap : Nat) (zs : List Int) (w : World) (h : IsRow .u8 w a len cap zs) :
    Calls Try.prog 10 #[.slice a len cap] w fun e w' => e = .returned (.bool true) ∧ Below w.heap.size w w' := by
  have H := Lib.hid h; clear h
  by_cases hl : 1048576 < (len : Int)
  · go_enter Try.func10, Try.ntmps10
    go_wp2_with fail
    go_ret
    exact ⟨rfl, Below.refl _ _⟩
  · have hl' := decide_eq_false hl
    clear hl
    go_enter Try.func10, Try.ntmps10
    go_wp2_with fail
    refine (drawHg_any _ _ _ _ _ H.out).mono ?_
    rintro e w1 ⟨r, a1, c1, ts, a2, c2, cs, rfl, hT, hlt, hC, hlc, ⟨r0, r1⟩, hb1⟩
    have RT := Lib.hid hT
    have RC := Lib.hid hC
    have HB := Lib.hid hb1
    clear hT hC hb1
    have hne0 : (Hg.err r ts cs != Hg.err r ts cs) = false := by simp
    have heq0 : (Hg.err r ts cs == Hg.err r ts cs) = true := by simp
    cases hok : Hg.ok r ts cs with
    | false =>
      have E := Lib.hid (Hg.no hok)
      rw [E.out] at hne0 heq0
      clear hok
      go_wp2_with fail
      refine (hedge_any _ _ _ _ _ _ RT.out RC.out (by omega) (by omega)).mono ?_
      rw [E.out]
      rintro e w2 ⟨rfl, hb2⟩
      replace RT := Lib.hid (RT.out.below hb2 (Nat.le_refl _))
      replace RC := Lib.hid (RC.out.below hb2 (Nat.le_refl _))
      replace HB := Lib.hid (HB.out.trans (hb2.mono HB.out.size))
      clear hb2
      go_wp2_with fail
      refine (shedge_any _ _ _ _ _ _ RT.out RC.out (by omega) (by omega)).mono ?_
      rw [E.out]
      rintro e w3 ⟨rfl, hb3⟩
      replace RT := Lib.hid (RT.out.below hb3 (Nat.le_refl _))
      replace RC := Lib.hid (RC.out.below hb3 (Nat.le_refl _))
      replace HB := Lib.hid (HB.out.trans (hb3.mono HB.out.size))
      clear hb3
      go_wp2_with fail
      refine (shedge_any _ _ _ _ _ _ RT.out RC.out (by omega) (by omega)).mono ?_
      rw [E.out]
      rintro e w4 ⟨rfl, hb4⟩
      go_wp2_with fail
      go_ret
      exact ⟨rfl, HB.out.trans (hb4.mono HB.out.size)⟩
    | true =>
      obtain ⟨-, ⟨l0, l1⟩, hcl, hTs, hCs⟩ := Hg.parts hok
      have hokT : Hg.okT r ts = true := by unfold Hg.ok at hok; rw [Bool.and_eq_true] at hok; exact hok.1
      have HZ := Lib.hid (Hg.zero hokT)
      have HY := Lib.hid (Hg.yes hok)
      have HST := Lib.hid (Hg.step_left (r := r) (ts := ts) (cs := cs) (by omega) ts.length l0)
      have HSO := Lib.hid (fun h6 => Hg.step_ok hok h6)
      obtain ⟨t0, t1⟩ := hTs 0 (by omega)
      obtain ⟨q0, q1⟩ := hCs 0 (by omega)
      obtain ⟨s0, s1⟩ := Hg.bd hok ts.length (Nat.le_refl _)
      have HCL := Lib.hid hcl
      have hmr : (max r (-r) == max r (-r)) = true := by simp
      have hml : max r (-r) ≤ 1000 ∧ 0 ≤ max r (-r) := by omega
      obtain ⟨i0, hi, hz0, hz1, hz2⟩ := info_parts infoInt
      clear hok hokT hTs hCs hcl
      rw [HY.out] at hne0 heq0
      have hnn : ¬ max (Hg.left r ts cs ts.length) (-Hg.left r ts cs ts.length) < 0 := by omega
      generalize hS : Hg.left r ts cs ts.length = S at *
      have HSg := Lib.hid hS; clear hS
      go_wp2_with fail
      refine (hedge_any _ _ _ _ _ _ RT.out RC.out (by omega) (by omega)).mono ?_
      rw [HY.out]
      rintro e w2 ⟨rfl, hb2⟩
      replace RT := Lib.hid (RT.out.below hb2 (Nat.le_refl _))
      replace RC := Lib.hid (RC.out.below hb2 (Nat.le_refl _))
      replace HB := Lib.hid (HB.out.trans (hb2.mono HB.out.size))
      clear hb2
      obtain ⟨N, hN⟩ : ∃ N, N = max S (-S) := ⟨_, rfl⟩
      rw [← hN] at hne0 heq0 hnn ⊢
      have HN := Lib.hid hN
      have N0 : 0 ≤ N ∧ N ≤ 1000200000 := by omega
      obtain ⟨N0, N1⟩ := N0
      clear hN
      go_wp2_with fail
      refine (shedge_any _ _ _ _ _ _ RT.out RC.out (by omega) (by omega)).mono ?_
      rw [HY.out, ← HN.out]
      rintro e w3 ⟨rfl, hb3⟩
      replace RT := Lib.hid (RT.out.below hb3 (Nat.le_refl _))
      replace RC := Lib.hid (RC.out.below hb3 (Nat.le_refl _))
      replace HB := Lib.hid (HB.out.trans (hb3.mono HB.out.size))
      clear hb3
      obtain ⟨b2, off2, c2', e2, hbl2, hcc⟩ := RC.out.2 (by rw [HCL.out]; omega)
      simp only [Value.slice.injEq, true_and] at e2
      obtain ⟨rfl, rfl⟩ := e2
      have HN2 := Lib.hid (news_of hbl2 hcc)
      have HO := Lib.hid (own_new w3)
      have hcs : cs.length ≤ 6 := hlc
      clear hcc
      go_upto_region 8 with (at_builtin; refine wpList_append_own _ rfl _ _ 23 rfl w3.heap.size 3 i0 (.int .i64 0) 1 8 Try.underlying23 hi hz0 hz1 hz2 rfl (by decide) _ 0 [] rfl HO.out.1 ⟨b2, off2, none⟩ cs.length c2 (cs.map (Value.int .i64)) rfl (by simp) HN2.out (ints_oneCell .i64 cs) (by unfold maxLen; omega) (by omega) (by simp) ?_; intro v' w4 hown4 hg4 hnil4)
      have HOw : Hid (IRow w4 w3.heap.size v' cs) := Lib.hid (by unfold IRow; simpa using hown4)
      have hb4 := ((Below.refl w3.heap.size w3).alloc (Nat.le_refl _) (.cells #[] 3)).grown hg4 (by simp) (fun j hj => HO.out.far j hj)
      have RT3 := RT
      have HB3 := HB
      have HB43 := Lib.hid hb4
      replace RT := Lib.hid (RT.out.below hb4 (Nat.le_refl _))
      replace HB := Lib.hid (HB.out.trans (hb4.mono HB.out.size))
      clear hown4 hg4 hnil4 hb4
      obtain ⟨bm, cm, rfl, hbm, -, -, hcm, hfm⟩ := HOw.out.form (by rw [HCL.out]; omega)
      have m0 := hcm 0 (by rw [HCL.out]; omega)
      have f0 := hfm 0
      clear hcm hfm
      have hpos : (0 : Int) < cs.length := by rw [HCL.out]; omega
      have hpos2 : 0 < cs.length := by rw [HCL.out]; omega
      have hcne : cs ≠ [] := List.length_pos_iff.1 hpos2
      have htne : ts ≠ [] := List.length_pos_iff.1 (by omega)
      have HCS := Lib.hid (show ∀ x, (cs.set 0 x).length = cs.length from fun x => List.length_set)
      have HSt := Lib.hid (fun x => HOw.out.store 0 x)
      have HTS := Lib.hid (show (List.replicate ts.length (0 : Int)).length = ts.length from List.length_replicate)
      have HT0 := Lib.hid (show ∃ b off c, Value.slice a1 ts.length c1 = .slice (some ⟨b, off, none⟩) ts.length c ∧ b < w4.heap.size ∧ w4.cell? ⟨b, off, none⟩ = some (.int .i64 (ts.getD 0 0)) by
        obtain ⟨b, off, c, e, hb, hc⟩ := RT.out.2 (by omega)
        exact ⟨b, off, c, e, hb, by simpa using hc 0 (by omega)⟩)
      generalize hcn : cs.length = n at *
      generalize htn : ts.length = tn at *
      have HTN := Lib.hid htn
      have HCN := Lib.hid hcn
      clear hcn htn hcne htne hpos2
      by_cases h6 : cs.getD 0 0 = 6
      · rw [h6] at m0
        clear h6 q0 q1
        go_wp2_with (at_make; refine wpList_make_full _ rfl _ _ 23 rfl w4.heap.size 3 i0 (.int .i64 0) 1 Try.underlying23 hi hz0 hz1 .i64 .i64 _ _ tn rfl rfl rfl rfl (by rw [hz2]; omega) (by unfold maxLen; omega) (by omega) ?_; intro w5 hown hgrow)
        rw [made_ints1] at hown
        have hb5 : Below w4.heap.size w4 w5 := (Below.refl _ _).grown hgrow (Nat.le_refl _) (fun j hj => by cases hj)
        have HZr : Hid (R1o w5 (.slice (some ⟨w4.heap.size, 0, none⟩) (List.replicate tn (0 : Int)).length tn) (List.replicate tn 0)) := Lib.hid ((show IRow w5 w4.heap.size (.slice (some ⟨w4.heap.size, 0, none⟩) (List.replicate tn (0 : Int)).length tn) (List.replicate tn 0) by unfold IRow; simpa using hown).r1)
        replace RT := Lib.hid (RT.out.below hb5 (Nat.le_refl _))
        replace HB := Lib.hid (HB.out.trans (hb5.mono HB.out.size))
        have HZr2 := Lib.hid (show R1o w5 (.slice (some ⟨w4.heap.size, 0, none⟩) tn tn) (List.replicate tn 0) by have h := HZr.out; rwa [HTS.out] at h)
        clear hown hgrow hb5 m0 f0
        go_wp2_with fail
        refine (hedge_any _ _ _ _ ts (List.replicate tn 0) RT.out HZr2.out (by rw [HTN.out]; omega) (by rw [HTS.out]; omega)).mono ?_
        rw [HZ.out]
        rintro e w6 ⟨rfl, hb6⟩
        go_wp2_with fail
        refine (labsH_any _ _ (by omega) (by omega)).mono ?_
        rintro e w7 ⟨rfl, rfl⟩
        go_wp2_with fail
        go_ret
        exact ⟨rfl, HB.out.trans (hb6.mono HB.out.size)⟩
      · have hS2 := Lib.hid (HSO.out h6)
        have hY2 := Lib.hid (Hg.yes hS2.out)
        have HM0 : Hg.err r ts (cs.set 0 (cs.getD 0 0 + 1)) = max (S - ts.getD 0 0) (-(S - ts.getD 0 0)) := by
          rw [hY2.out, HTN.out, HST.out]
        obtain ⟨ba, offa, ca, ea, hba, hta⟩ := HT0.out
        simp only [Value.slice.injEq, true_and] at ea
        obtain ⟨rfl, rfl⟩ := ea
        have h6' : (cs.getD 0 0 == 6) = false := beq_eq_false_iff_ne.2 h6
        have HSt1 := Lib.hid (HSt.out (cs.getD 0 0 + 1))
        have HCS1 := Lib.hid (HCS.out (cs.getD 0 0 + 1))
        obtain ⟨M, hM⟩ : ∃ M, M = Hg.err r ts (cs.set 0 (cs.getD 0 0 + 1)) := ⟨_, rfl⟩
        have hMb : N - ts.getD 0 0 ≤ M ∧ M ≤ N + ts.getD 0 0 ∧ -1 ≤ M ∧ M ≤ 2000000000 := by
          rw [hM, HM0, HN.out]
          omega
        have HM := Lib.hid hM
        have HTA := Lib.hid hta
        obtain ⟨M0, M1, M2, M3⟩ := hMb
        clear hM HM0 hS2 hY2 h6 hta
        generalize cs.getD 0 0 = q at m0 q0 q1 h6' HSt1 HCS1 HM
        generalize htg : ts.getD 0 0 = t at t0 t1 M0 M1 HTA
        have HTG := Lib.hid htg
        clear htg
        have hti : (0 : Int) < tn := by omega
        go_upto_region 11 with (fail)
        have hb5 := HB43.out.setCell (p := ⟨bm, 0, none⟩) hbm (.int .i64 (q + 1))
        have RT5 := Lib.hid (RT3.out.below hb5 (Nat.le_refl _))
        have HB5 := Lib.hid (HB3.out.trans (hb5.mono HB3.out.size))
        have HM5 := Lib.hid (show R1o (w4.setCell ⟨bm, 0, none⟩ (.int .i64 (q + 1))) (.slice (some ⟨bm, 0, none⟩) n cm) (cs.set 0 (q + 1)) by have h := HSt1.out.1.r1; rwa [HCS1.out] at h)
        clear hb5 m0 f0
        go_wp2_with fail
        refine (hedge_any _ _ _ _ ts (cs.set 0 (q + 1)) RT5.out HM5.out (by rw [HTN.out]; omega) (by rw [HCS1.out]; omega)).mono ?_
        rw [← HM.out]
        rintro e w6 ⟨rfl, hb6⟩
        have RT6 := Lib.hid (RT5.out.below hb6 (Nat.le_refl _))
        have HB6 := Lib.hid (HB5.out.trans (hb6.mono HB5.out.size))
        clear hb6
        go_wp2_with (at_make; refine wpList_make_full _ rfl _ _ 23 rfl w6.heap.size 3 i0 (.int .i64 0) 1 Try.underlying23 hi hz0 hz1 .i64 .i64 _ _ tn rfl rfl rfl rfl (by rw [hz2]; omega) (by unfold maxLen; omega) (by omega) ?_; intro w7 hown hgrow)
        rw [made_ints1] at hown
        have hb7 : Below w6.heap.size w6 w7 := (Below.refl _ _).grown hgrow (Nat.le_refl _) (fun j hj => by cases hj)
        have HZr : Hid (R1o w7 (.slice (some ⟨w6.heap.size, 0, none⟩) (List.replicate tn (0 : Int)).length tn) (List.replicate tn 0)) := Lib.hid ((show IRow w7 w6.heap.size (.slice (some ⟨w6.heap.size, 0, none⟩) (List.replicate tn (0 : Int)).length tn) (List.replicate tn 0) by unfold IRow; simpa using hown).r1)
        have RT7 := Lib.hid (RT6.out.below hb7 (Nat.le_refl _))
        have HB7 := Lib.hid (HB6.out.trans (hb7.mono HB6.out.size))
        have HZr2 := Lib.hid (show R1o w7 (.slice (some ⟨w6.heap.size, 0, none⟩) tn tn) (List.replicate tn 0) by have h := HZr.out; rwa [HTS.out] at h)
        clear hown hgrow hb7
        go_wp2_with fail
        refine (hedge_any _ _ _ _ ts (List.replicate tn 0) RT7.out HZr2.out (by rw [HTN.out]; omega) (by rw [HTS.out]; omega)).mono ?_
        rw [HZ.out]
        rintro e w8 ⟨rfl, hb8⟩
        have RT8 := Lib.hid (RT7.out.below hb8 (Nat.le_refl _))
        have HB8 := Lib.hid (HB7.out.trans (hb8.mono HB7.out.size))
        clear hb8
        go_wp2_with fail
        refine (labsH_any _ _ (by omega) (by omega)).mono ?_
        rintro e w9 ⟨rfl, rfl⟩
        obtain ⟨b9, off9, c9, e9, hb9, hc9⟩ := RT8.out.2 (by rw [HTN.out]; omega)
        rw [HTN.out] at e9
        simp only [Value.slice.injEq, Option.some.injEq, Addr.mk.injEq, and_true, true_and] at e9
        obtain ⟨⟨rfl, rfl⟩, rfl⟩ := e9
        have ht9 := hc9 0 (by rw [HTN.out]; omega)
        rw [HTG.out] at ht9
        simp only [Nat.add_zero] at ht9
        clear hc9
        go_wp2_with fail
        go_ret
        exact ⟨rfl, HB8.out⟩
end Go.Proofs.Ytckekkfdkbekmaa
