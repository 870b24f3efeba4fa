/- The law of ladders: steps can be joined. -/
import Derived.Test.YthlnmbnaimobgaaLdL
namespace Go.Proofs.Ythlnmbnaimobgaa
open Go.RowKit
theorem Ld.at_take (d : Int) : ∀ (es : List Int) (n : Nat), Ld.at (es.take n) d = min (Ld.at es d) n
  | [], n => by simp [Ld.at]
  | e :: es, 0 => by simp [Ld.at]
  | e :: es, n + 1 => by
    have ih := Ld.at_take d es n
    unfold Ld.at at *
    by_cases c : e ≤ d
    · simp only [List.take_succ_cons, List.takeWhile_cons, decide_eq_true c, if_true, List.length_cons]
      omega
    · simp [c]
theorem Ed.ok_take {es : List Int} (h : Ed.ok es = true) (n : Nat) : Ed.ok (es.take n) = true := by
  unfold Ed.ok at *
  rw [Bool.and_eq_true, Bool.and_eq_true, btw_iff] at *
  refine ⟨by rw [List.length_take]; omega, ?_, ?_⟩
  · rw [List.all_eq_true] at *
    exact fun x hx => h.2.1 x (List.mem_of_mem_take hx)
  · have ha := Ed.asc_iff.1 h.2.2
    refine Ed.asc_iff.2 fun i hi => ?_
    rw [List.length_take] at hi
    have e0 : (es.take n).getD i 0 = es.getD i 0 := by
      rw [List.getD_eq_getElem?_getD, List.getD_eq_getElem?_getD, List.getElem?_take_of_lt (by omega)]
    have e1 : (es.take n).getD (i + 1) 0 = es.getD (i + 1) 0 := by
      rw [List.getD_eq_getElem?_getD, List.getD_eq_getElem?_getD, List.getElem?_take_of_lt (by omega)]
    rw [e0, e1]
    exact ha i (by omega)
theorem Ld.merge (ps : List Pr) {es : List Int} {n : Nat} (hn : es.length = n + 1) : ∀ i : Nat,
    (∀ j, j < n → (Ld.sums ps (es.take n) i).getD j 0 = (Ld.sums ps es i).getD j 0) ∧ (Ld.sums ps (es.take n) i).getD n 0 = (Ld.sums ps es i).getD n 0 + (Ld.sums ps es i).getD (n + 1) 0
  | 0 => by
    have z : ∀ (k j : Nat), (List.replicate k (0 : Int)).getD j 0 = 0 := fun k j => by
      rw [List.getD_eq_getElem?_getD, List.getElem?_replicate]; split <;> rfl
    unfold Ld.sums
    exact ⟨fun j _ => by rw [z, z], by rw [z, z, z]; rfl⟩
  | i + 1 => by
    obtain ⟨ih1, ih2⟩ := Ld.merge ps hn i
    have hk := Ld.at_le es (ps.getD i pr0).1
    have hk2 := Ld.at_take (ps.getD i pr0).1 es n
    have l1 := Ld.len ps es i
    have l2 := Ld.len ps (es.take n) i
    have l3 : (es.take n).length = n := by rw [List.length_take]; omega
    unfold Ld.sums
    rw [hk2]
    generalize Ld.at es (ps.getD i pr0).1 = k at *
    generalize (ps.getD i pr0).2 = m
    generalize Ld.sums ps es i = A at *
    generalize Ld.sums ps (es.take n) i = B at *
    refine ⟨fun j hj => ?_, ?_⟩
    · rw [getD_set1 (by omega), getD_set1 (by omega)]
      by_cases c : k = j
      · subst c
        rw [if_pos (by omega), if_pos rfl, show min k n = k by omega, ih1 k hj]
      · rw [if_neg (by omega), if_neg c, ih1 j hj]
    · rw [getD_set1 (by omega), getD_set1 (by omega), getD_set1 (by omega)]
      by_cases c : k = n
      · subst c
        rw [if_pos (by omega), if_pos rfl, if_neg (by omega), show min k k = k by omega, ih2]; omega
      · by_cases c2 : k = n + 1
        · subst c2
          rw [if_pos (by omega), if_neg (by omega), if_pos rfl, show min (n + 1) n = n by omega, ih2]; omega
        · rw [if_neg (by omega), if_neg c, if_neg c2, ih2]
theorem R1o.prefix {w : World} {b off n cap : Nat} {xs : List Int} (h : R1o w (.slice (some ⟨b, off, none⟩) xs.length cap) xs) (hn : n ≤ xs.length) : R1o w (.slice (some ⟨b, off, none⟩) n cap) (xs.take n) := by
  have hl : (xs.take n).length = n := by rw [List.length_take]; omega
  refine ⟨⟨_, _, by rw [hl]⟩, fun hp => ?_⟩
  obtain ⟨b2, off2, c2, e, hb, hc⟩ := h.2 (by omega)
  simp only [Value.slice.injEq, Option.some.injEq, Addr.mk.injEq, and_true, true_and] at e
  obtain ⟨⟨rfl, rfl⟩, rfl⟩ := e
  refine ⟨b, off, cap, by rw [hl], hb, fun i hi => ?_⟩
  rw [hl] at hi
  rw [hc i (by omega), List.getD_eq_getElem?_getD, List.getD_eq_getElem?_getD, List.getElem?_take_of_lt hi]
theorem equ_quiet (w : World) (v u : Value) (xs : List Int) (hv : R1o w v xs) (hu : R1o w u xs) (hl : xs.length ≤ 1048576) (n : Nat) :
    Calls Try.prog 21 #[v, u] (w.drewN n) fun e w' => e = .returned (.bool true) ∧ ∃ m, w' = w.drewN m := by
  obtain ⟨⟨a, cap, rfl⟩, h1⟩ := hv
  obtain ⟨⟨a2, cap2, rfl⟩, h2⟩ := hu
  have H := Lib.hid h1; clear h1
  have H2 := Lib.hid h2; clear h2
  have hm : (xs.length : Int) ≤ 1048576 := by omega
  have hne : ((xs.length : Int) != (xs.length : Int)) = false := by simp
  go_enter Try.func21, Try.ntmps21
  go_wp2_with fail
  go_loopw [5] (fun i wr => ∃ k : Nat, k ≤ xs.length ∧ i = .int .i64 k ∧ ∃ m, wr = w.drewN m) (fun i _ => xs.length - (intOf i).toNat)
  case atStart => exact ⟨0, Nat.zero_le _, rfl, n, rfl⟩
  case round =>
    obtain ⟨k, hk, rfl, m, rfl⟩ := hrel
    by_cases hlt : k < xs.length
    · obtain ⟨b, off, c, e, _, hc⟩ := H.out (by omega)
      simp only [Value.slice.injEq, true_and] at e
      obtain ⟨rfl, rfl⟩ := e
      obtain ⟨b2, off2, c2, e2, _, hc2⟩ := H2.out (by omega)
      simp only [Value.slice.injEq, true_and] at e2
      obtain ⟨rfl, rfl⟩ := e2
      have hck := hc k hlt
      have hck2 := hc2 k hlt
      clear hc hc2
      obtain ⟨x, hx⟩ : ∃ x, x = xs.getD k 0 := ⟨_, rfl⟩
      rw [← hx] at hck hck2
      have hx2 : (x != x) = false := by simp
      clear hx
      go_wp2_with fail
      go_quiet (fail)
      go_wp2_with fail
      go_roundw
      case rel => exact ⟨k + 1, by omega, by go_num, _, (by first | exact World.drewN_drewN _ _ _ | rfl)⟩
      case measure => simp [intOf]; omega
    · go_wp2_with fail
      go_ret
      exact ⟨rfl, _, rfl⟩
set_option maxRecDepth 8000 in
set_option maxHeartbeats 4000000 in
theorem lawLadderMerge (a : Option Addr) (len cap : Nat) (zs : List Int) (w : World) (h : IsRow .u8 w a len cap zs) :
    Calls Try.prog 12 #[.slice a len cap] w fun e w' => e = .returned (.bool true) ∧ Below w.heap.size w w' := by
  have H := Lib.hid h; clear h
  by_cases hl : 1048576 < (len : Int)
  · go_enter Try.func12, Try.ntmps12
    go_wp2_with fail
    go_ret
    exact ⟨rfl, Below.refl _ _⟩
  · have hl' := decide_eq_false hl
    clear hl
    go_enter Try.func12, Try.ntmps12
    go_wp2_with fail
    refine (drawLd_any _ _ _ _ _ H.out).mono ?_
    rintro e w1 ⟨v, ps, ae, ce, es, rfl, hF, hlen, ⟨vb, vc, rfl⟩, hE, hle, ⟨hce, hce2⟩, hb1⟩
    have RF := Lib.hid hF
    have RE := Lib.hid hE
    have HB := Lib.hid hb1
    unfold maxLen at hce2
    clear hF hE hb1
    go_wp2_with fail
    refine (ladder_any _ _ _ ps es RF.out RE.out (by omega) (by omega)).mono ?_
    rintro e w2 ⟨vG, rfl, hG, hb2⟩
    replace RF := Lib.hid (RF.out.below hb2 (Nat.le_refl _))
    replace RE := Lib.hid (RE.out.below hb2 (Nat.le_refl _))
    replace HB := Lib.hid (HB.out.trans (hb2.mono HB.out.size))
    have GI := Lib.hid hG
    have GG := Lib.hid hG.r1
    obtain ⟨aG, cG, rfl⟩ := hG.slice
    clear hG hb2
    go_wp2_with fail
    refine (sladder_any _ _ _ ps es RF.out RE.out (by omega) (by omega)).mono ?_
    rintro e w3 ⟨vS, rfl, hS, hb3⟩
    replace RF := Lib.hid (RF.out.below hb3 (Nat.le_refl _))
    replace RE := Lib.hid (RE.out.below hb3 (Nat.le_refl _))
    replace HB := Lib.hid (HB.out.trans (hb3.mono HB.out.size))
    replace GG := Lib.hid (GG.out.below hb3 (Nat.le_refl _))
    have SS := Lib.hid hS.r1
    obtain ⟨aS, cS, rfl⟩ := hS.slice
    clear hS hb3
    have hVL : (Ld.val ps es).length ≤ 1048576 := by
      unfold Ld.val; split
      · rw [Ld.len]; omega
      · simp
    have HVL := Lib.hid hVL
    clear hVL
    by_cases hsm : Ld.ok ps es = true ∧ 1 ≤ es.length
    · obtain ⟨hok, hlen1⟩ := hsm
      obtain ⟨n, hn⟩ : ∃ n, es.length = n + 1 := ⟨es.length - 1, by omega⟩
      have hps : Fl.ok ps = true ∧ Ed.ok es = true := by unfold Ld.ok at hok; rwa [Bool.and_eq_true] at hok
      have hok' : Ld.ok ps (es.take n) = true := by unfold Ld.ok; rw [hps.1, Ed.ok_take hps.2]; rfl
      have l3 : (es.take n).length = n := by rw [List.length_take]; omega
      have HL3 := Lib.hid l3
      have hLV : (Ld.val ps es).length = n + 2 := by rw [Ld.yes hok, Ld.len]; omega
      have hLV' : (Ld.val ps (es.take n)).length = n + 1 := by rw [Ld.yes hok', Ld.len]; omega
      have hM := Ld.merge ps hn ps.length
      rw [← Ld.yes hok, ← Ld.yes hok'] at hM
      obtain ⟨hM1, hM2⟩ := hM
      have HTk : Hid ((Ld.val ps (es.take n)).take n = (Ld.val ps es).take n) := Lib.hid (by
        refine List.ext_getElem (by simp; omega) fun j h1 h2 => ?_
        simp only [List.length_take] at h1 h2
        rw [List.getElem_take, List.getElem_take]
        have := hM1 j (by omega)
        rwa [List.getD_eq_getElem?_getD, List.getD_eq_getElem?_getD, List.getElem?_eq_getElem (by omega), List.getElem?_eq_getElem (by omega), Option.getD_some, Option.getD_some] at this)
      have hbd := fun k => Ld.bd hps.1 es ps.length (Nat.le_refl _) k
      rw [← Ld.yes hok] at hbd
      have hpl := (Fl.parts hps.1).1
      have bA := hbd n
      have bB := hbd (n + 1)
      have HM2 := Lib.hid hM2
      clear hbd hM1 hM2 hok hok' hps hlen1
      obtain ⟨be, offe, ce', ee, hbe, hce'⟩ := RE.out.2 (by omega)
      simp only [Value.slice.injEq, true_and] at ee
      obtain ⟨rfl, rfl⟩ := ee
      have GI2 := GI
      obtain ⟨bg, cg, eg, hbg0, -, ⟨hcg, hcg2⟩, -⟩ := GI.out.form (by omega)
      simp only [Value.slice.injEq, true_and] at eg
      obtain ⟨rfl, rfl⟩ := eg
      unfold maxLen at hcg2
      clear GI hce' hbe
      generalize hV : Ld.val ps es = V at *
      have HV := Lib.hid hV; clear hV
      have HLV := Lib.hid hLV
      have hne2 : ¬ ((n : Int) + 2 < 2) := by omega
      have HN := Lib.hid hn
      rw [hLV] at hcg ⊢
      rw [hn] at hce ⊢
      go_wp2_with fail
      refine (equ_same _ _ _ V (by have h := GG.out; rw [HLV.out] at h; exact h) (by have h := SS.out; rw [HLV.out] at h; exact h) HVL.out).mono ?_
      rintro e w4 ⟨rfl, hb4⟩
      replace RF := Lib.hid (RF.out.below hb4 (Nat.le_refl _))
      replace RE := Lib.hid (RE.out.below hb4 (Nat.le_refl _))
      replace GG := Lib.hid (GG.out.below hb4 (Nat.le_refl _))
      replace HB := Lib.hid (HB.out.trans (hb4.mono HB.out.size))
      have RP := Lib.hid (RE.out.prefix (n := n) (by rw [HN.out]; omega))
      clear hb4
      go_wp2_with fail
      refine (ladder_any _ _ _ ps (es.take n) RF.out RP.out (by omega) (by rw [HL3.out]; omega)).mono ?_
      rintro e w5 ⟨vT, rfl, hT, hb5⟩
      replace GG := Lib.hid (GG.out.below hb5 (Nat.le_refl _))
      replace HB := Lib.hid (HB.out.trans (hb5.mono HB.out.size))
      have TT := Lib.hid hT.r1
      obtain ⟨bt, ct, rfl, -, -, ⟨hct, hct2⟩, htc, -⟩ := hT.form (by rw [hLV']; omega)
      rw [hLV'] at hct
      unfold maxLen at hct2
      have t0 := htc n (by omega)
      obtain ⟨b6, off6, c6, e6, -, hgc⟩ := GG.out.2 (by rw [HLV.out]; omega)
      simp only [Value.slice.injEq, Option.some.injEq, Addr.mk.injEq, and_true, true_and] at e6
      obtain ⟨⟨rfl, rfl⟩, rfl⟩ := e6
      have g0 := hgc n (by rw [HLV.out]; omega)
      have g1 := hgc (n + 1) (by rw [HLV.out]; omega)
      simp only [Nat.zero_add] at g0 g1
      have hEQ := Lib.hid (equ_quiet w5 _ _ (V.take n) (by have h := TT.out.prefix (n := n) (by rw [hLV']; omega); rw [HTk.out] at h; exact h) (GG.out.prefix (n := n) (by rw [HLV.out]; omega)) (by rw [List.length_take]; have := HVL.out; omega))
      rw [hLV']
      rw [HM2.out] at t0
      clear hT hb5 htc hgc hLV' hLV
      generalize V.getD n 0 = A at *
      generalize V.getD (n + 1) 0 = B at *
      have heq : (A + B == A + B) = true := by simp
      have hnn : (((n : Int) + 1) == (n : Int) + 1) = true := by simp
      have hi0 : (n : Int) < (n : Int) + 1 := by omega
      have hi1 : (n : Int) < (n : Int) + 2 := by omega
      have hi2 : (n : Int) + 1 < (n : Int) + 2 := by omega
      have W1 : IntKind.i64.wrap (A + B) = A + B := IntWalk.i64_in _ (by omega)
      go_wp2_with fail
      go_quiet ((go_at_call 21; with_reducible exact hEQ.out _))
      go_wp2_with fail
      go_ret
      exact ⟨rfl, belowD HB.out _⟩
    · have hsl : ((Ld.val ps es).length : Int) < 2 := by
        unfold Ld.val
        split
        · rename_i hk
          have : es.length = 0 := by
            rcases Nat.eq_zero_or_pos es.length with q | q
            · exact q
            · exact absurd ⟨hk, q⟩ hsm
          rw [Ld.len]; omega
        · simp
      clear hsm
      generalize hV : Ld.val ps es = V at *
      have HV := Lib.hid hV; clear hV
      go_wp2_with fail
      refine (equ_same _ _ _ V GG.out SS.out HVL.out).mono ?_
      rintro e w4 ⟨rfl, hb4⟩
      replace RF := Lib.hid (RF.out.below hb4 (Nat.le_refl _))
      replace RE := Lib.hid (RE.out.below hb4 (Nat.le_refl _))
      replace GG := Lib.hid (GG.out.below hb4 (Nat.le_refl _))
      replace HB := Lib.hid (HB.out.trans (hb4.mono HB.out.size))
      clear hb4
      go_wp2_with fail
      refine (sladder_any _ _ _ ps es RF.out RE.out (by omega) (by omega)).mono ?_
      rintro e w5 ⟨vT, rfl, hT, hb5⟩
      rw [HV.out] at hT
      replace GG := Lib.hid (GG.out.below hb5 (Nat.le_refl _))
      replace HB := Lib.hid (HB.out.trans (hb5.mono HB.out.size))
      have TT := Lib.hid hT.r1
      obtain ⟨aT, cT, rfl⟩ := hT.slice
      clear hT hb5
      go_wp2_with fail
      refine (equ_same _ _ _ V GG.out TT.out HVL.out).mono ?_
      rintro e w6 ⟨rfl, hb6⟩
      go_wp2_with fail
      go_ret
      exact ⟨rfl, HB.out.trans (hb6.mono HB.out.size)⟩
end Go.Proofs.Ythlnmbnaimobgaa
