/- Prices and yields: the model, whole. -/
import Derived.Test.YtkdooncfchmkfaaDoorZP
import Derived.Test.YtkdooncfchmkfaaDoorYd
namespace Go.Proofs.YtkdooncfchmkfaaDoor
open Go.RowKit
set_option maxRecDepth 8000 in
set_option maxHeartbeats 2000000 in
theorem sPriceOf_any (s e m r d y : Int) (w : World) :
    Calls Tryd.prog 10 #[boV s e m r, .int .i64 d, .int .i64 y] w fun x w' => x = .returned (rV (Pc.pr s e m r d y).1 (Pc.pr s e m r d y).2) ∧ Below w.heap.size w w' := by
  have HB0 := Lib.hid (((Below.refl w.heap.size w).alloc (Nat.le_refl _) (.cells #[.int .i64 s, .int .i64 e, .int .i64 m, .int .i64 r] 27)).alloc (by simp) (.cells #[.int .i64 0, .int .i64 0] 25))
  have KB := Lib.hid ((Blk.new w #[.int .i64 s, .int .i64 e, .int .i64 m, .int .i64 r] 27).alloc (.cells #[.int .i64 0, .int .i64 0] 25))
  have KR := Lib.hid (show Blk _ (w.heap.size + 1) _ _ by have k := Blk.new (w.alloc (.cells #[.int .i64 s, .int .i64 e, .int .i64 m, .int .i64 r] 27)) #[.int .i64 0, .int .i64 0] 25; rw [World.size_alloc] at k; exact k)
  have HRu := Lib.hid (fun W => running_any s e m r d W)
  cases hR : runB s e m r d with
  | false =>
    have HV := Lib.hid (Pc.pr_no1 (y := y) hR)
    rw [hR] at HRu
    clear hR KB
    rw [HV.out]
    go_enter Tryd.func10, Tryd.ntmps10
    go_wp2_with fail
    refine (HRu.out _).mono ?_
    rintro x w1 ⟨rfl, hb1⟩
    have HB1 := Lib.hid (HB0.out.trans (hb1.mono HB0.out.size))
    have KR1 := Lib.hid (KR.out.below hb1 KR.out.lt)
    obtain ⟨⟨r0, r1⟩, rf0, rf1⟩ := KR1.out.two
    clear hb1
    go_wp2_with fail
    obtain ⟨⟨y0, y1⟩, -, -⟩ := (KR1.out.wr2 (.int .i64 0) (.int .i64 0)).two
    refine bodyPost_ret (v := rV 0 0) (by simp [results, Tryd.results10, go_sem, y0, y1]) rfl ⟨rfl, (HB1.out.setCell (by simp) _).setCell (by simp) _⟩
  | true =>
    rw [hR] at HRu
    cases hy : btw y 0 100000 with
    | false =>
      have HV := Lib.hid (Pc.pr_no2 (s := s) (e := e) (m := m) (r := r) (d := d) hy)
      have HY := Lib.hid (fun W => sVYieldC_any y false hy W)
      clear hR hy KB
      rw [HV.out]
      go_enter Tryd.func10, Tryd.ntmps10
      go_wp2_with fail
      refine (HRu.out _).mono ?_
      rintro x w1 ⟨rfl, hb1⟩
      have HB1 := Lib.hid (HB0.out.trans (hb1.mono HB0.out.size))
      have KR1 := Lib.hid (KR.out.below hb1 KR.out.lt)
      obtain ⟨⟨r0, r1⟩, rf0, rf1⟩ := KR1.out.two
      clear hb1
      go_wp2_with fail
      refine (HY.out _).mono ?_
      rintro x w2 ⟨rfl, rfl⟩
      go_wp2_with fail
      obtain ⟨⟨y0, y1⟩, -, -⟩ := (KR1.out.wr2 (.int .i64 0) (.int .i64 0)).two
      refine bodyPost_ret (v := rV 0 0) (by simp [results, Tryd.results10, go_sem, y0, y1]) rfl ⟨rfl, (HB1.out.setCell (by simp) _).setCell (by simp) _⟩
    | true =>
      have HY := Lib.hid (fun W => sVYieldC_any y true hy W)
      have HP := Lib.hid (fun W => sprice_any s e m r d y W hR hy)
      clear hR hy
      generalize Pc.pr s e m r d y = V at *
      obtain ⟨u, v⟩ := V
      go_enter Tryd.func10, Tryd.ntmps10
      go_wp2_with fail
      refine (HRu.out _).mono ?_
      rintro x w1 ⟨rfl, hb1⟩
      have HB1 := Lib.hid (HB0.out.trans (hb1.mono HB0.out.size))
      have KR1 := Lib.hid (KR.out.below hb1 KR.out.lt)
      have KB1 := Lib.hid (KB.out.below hb1 KB.out.lt)
      obtain ⟨b0, b1, b2, b3⟩ := KB1.out.four
      clear hb1
      go_wp2_with fail
      refine (HY.out _).mono ?_
      rintro x w2 ⟨rfl, rfl⟩
      go_wp2_with fail
      refine (HP.out _).mono ?_
      rintro x w3 ⟨rfl, hb3⟩
      have HB3 := Lib.hid (HB1.out.trans (hb3.mono HB1.out.size))
      have KR3 := Lib.hid (KR1.out.below hb3 KR1.out.lt)
      obtain ⟨⟨r0, r1⟩, rf0, rf1⟩ := KR3.out.two
      clear hb3 b0 b1 b2 b3
      go_wp2_with fail
      obtain ⟨⟨y0, y1⟩, -, -⟩ := (KR3.out.wr2 (.int .i64 u) (.int .i64 v)).two
      refine bodyPost_ret (v := rV u v) (by simp [results, Tryd.results10, go_sem, y0, y1]) rfl ⟨rfl, (HB3.out.setCell (by simp) _).setCell (by simp) _⟩
set_option maxRecDepth 8000 in
set_option maxHeartbeats 4000000 in
theorem sYieldOf_any (s e m r d x : Int) (w : World) :
    Calls Tryd.prog 14 #[boV s e m r, .int .i64 d, .int .i64 x] w fun y w' => y = .returned (.tuple #[.int .i64 (Yd.val s e m r d x).1, .int .i64 (Yd.val s e m r d x).2]) ∧ Below w.heap.size w w' := by
  have HB0 := Lib.hid ((Below.refl w.heap.size w).alloc (Nat.le_refl _) (.cells #[.int .i64 s, .int .i64 e, .int .i64 m, .int .i64 r] 27))
  have KB := Lib.hid (Blk.new w #[.int .i64 s, .int .i64 e, .int .i64 m, .int .i64 r] 27)
  have HRu := Lib.hid (fun W => running_any s e m r d W)
  cases hR : runB s e m r d with
  | false =>
    have HV := Lib.hid (show Yd.val s e m r d x = (-1, -1) from if_neg (by rw [hR]; simp))
    rw [hR] at HRu
    clear hR
    rw [HV.out]
    go_enter Tryd.func14, Tryd.ntmps14
    go_wp2_with fail
    refine (HRu.out _).mono ?_
    rintro y w1 ⟨rfl, hb1⟩
    have HB1 := Lib.hid (HB0.out.trans (hb1.mono HB0.out.size))
    clear hb1
    go_wp2_with fail
    refine bodyPost_ret (v := .tuple #[.int .i64 (-1), .int .i64 (-1)]) (by simp [results, Tryd.results14, go_sem]) rfl ⟨rfl, HB1.out⟩
  | true =>
    rw [hR] at HRu
    have hok := Pc.run_ok (y := 0) hR (by omega) (by omega)
    have ham := Pc.am_ok hR
    have HV := Lib.hid (show Yd.val s e m r d x = (Yd.least (Yd.first (Yd.PL (d - Pc.F s e m r d) (Pc.T s e m r d - Pc.F s e m r d) (Pc.am s e m r d) x) 41), Yd.most (Yd.first (Yd.PH (d - Pc.F s e m r d) (Pc.T s e m r d - Pc.F s e m r d) (Pc.am s e m r d) x) 41) 41) from if_pos hR)
    have HP := Lib.hid (fun (k : Nat) (hk : k ≤ 40) W => (show Calls Tryd.prog 24 #[boV s e m r, .int .i64 d, .int .i64 (2500 * (k : Int))] W fun y w' => y = .returned (rV (Yd.L (d - Pc.F s e m r d) (Pc.T s e m r d - Pc.F s e m r d) (Pc.am s e m r d) k) (Yd.H (d - Pc.F s e m r d) (Pc.T s e m r d - Pc.F s e m r d) (Pc.am s e m r d) k)) ∧ Below W.heap.size W w' from by
      have h := sprice_any s e m r d (2500 * (k : Int)) W hR (btw_t (by omega) (by omega))
      rw [Pc.pr_yes hR (btw_t (by omega) (by omega))] at h
      exact h))
    have HS1 := Lib.hid (fun (k : Nat) (hk : k ≤ 40) => Yd.least_step (x := x) hok ham hk)
    have HS2 := Lib.hid (fun (k : Nat) => @Yd.most_step (d - Pc.F s e m r d) (Pc.T s e m r d - Pc.F s e m r d) x (Pc.am s e m r d) k)
    clear hR hok ham
    generalize d - Pc.F s e m r d = p at *
    generalize Pc.T s e m r d - Pc.F s e m r d = dd at *
    generalize Pc.am s e m r d = am at *
    obtain ⟨V, hV⟩ : ∃ V, V = Yd.val s e m r d x := ⟨_, rfl⟩
    rw [← hV] at HV ⊢
    clear hV
    obtain ⟨Y1, Y2⟩ := V
    generalize Yd.PL p dd am x = PL at *
    generalize Yd.PH p dd am x = PH at *
    go_enter Tryd.func14, Tryd.ntmps14
    go_wp2_with fail
    refine (HRu.out _).mono ?_
    rintro y w1 ⟨rfl, hb1⟩
    have HB1 := Lib.hid (HB0.out.trans (hb1.mono HB0.out.size))
    have KB1 := Lib.hid (KB.out.below hb1 KB.out.lt)
    clear hb1
    go_wp2_with fail
    go_loopw [8, 9, 10] (fun le mo y wr => ∃ k : Nat, k ≤ 41 ∧ y = .int .i64 (2500 * (k : Int)) ∧ le = .int .i64 (Yd.least (Yd.first PL k)) ∧ mo = .int .i64 (Yd.most (Yd.first PH k) k) ∧ Hid (Below w1.heap.size w1 wr)) (fun _ _ y _ => (102500 - intOf y).toNat)
    case atStart => exact ⟨0, by omega, rfl, rfl, rfl, Lib.hid (Below.refl _ _)⟩
    case round =>
      obtain ⟨k, hk, rfl, rfl, rfl, HB⟩ := hrel
      by_cases hlt : k ≤ 40
      · have hs1 := HS1.out k hlt
        have hs2 := HS2.out k
        have HPk := Lib.hid (HP.out k hlt)
        have HBr := Lib.hid (HB1.out.trans (HB.out.mono HB1.out.size))
        obtain ⟨b0, b1, b2, b3⟩ := (KB1.out.below HB.out KB1.out.lt).four
        generalize Yd.L p dd am k = L at *
        generalize Yd.H p dd am k = H at *
        generalize Yd.least (Yd.first PL k) = le at *
        generalize Yd.most (Yd.first PH k) k = mo at *
        have HN : Hid (Yd.least (Yd.first PL (k + 1)) = (if x ≤ L then 2500 * (k : Int) else le) ∧ Yd.most (Yd.first PH (k + 1)) (k + 1) = if H ≤ x ∧ mo < 0 then 2500 * (k : Int) else mo) := Lib.hid ⟨hs1, hs2⟩
        clear hs1 hs2
        have hk1 : 2500 * (k : Int) ≤ 100000 := by omega
        go_wp2_with fail
        refine (HPk.out _).mono ?_
        rintro y w2 ⟨rfl, hb2⟩
        have HB2 := Lib.hid ((HB.out.trans (hb2.mono HB.out.size)).alloc (HB.out.trans (hb2.mono HB.out.size)).size (.cells #[.int .i64 L, .int .i64 H] 25))
        clear hb2 b0 b1 b2 b3
        by_cases c1 : x ≤ L
        · have d1 := decide_eq_true c1
          by_cases c2 : H ≤ x
          · have d2 := decide_eq_true c2
            by_cases c3 : mo < 0
            · have d3 := decide_eq_true c3
              have HM := Lib.hid (show Yd.least (Yd.first PL (k + 1)) = 2500 * (k : Int) ∧ Yd.most (Yd.first PH (k + 1)) (k + 1) = 2500 * (k : Int) from ⟨by rw [HN.out.1, if_pos c1], by rw [HN.out.2, if_pos ⟨c2, c3⟩]⟩)
              clear c1 c2 c3
              go_wp2_with fail
              go_roundw
              case rel => exact ⟨k + 1, by omega, by go_num, by rw [HM.out.1], by rw [HM.out.2], HB2⟩
              case measure => simp [intOf]; omega
            · have d3 := decide_eq_false c3
              have HM := Lib.hid (show Yd.least (Yd.first PL (k + 1)) = 2500 * (k : Int) ∧ Yd.most (Yd.first PH (k + 1)) (k + 1) = mo from ⟨by rw [HN.out.1, if_pos c1], by rw [HN.out.2, if_neg (fun q => c3 q.2)]⟩)
              clear c1 c2 c3
              go_wp2_with fail
              go_roundw
              case rel => exact ⟨k + 1, by omega, by go_num, by rw [HM.out.1], by rw [HM.out.2], HB2⟩
              case measure => simp [intOf]; omega
          · have d2 := decide_eq_false c2
            have HM := Lib.hid (show Yd.least (Yd.first PL (k + 1)) = 2500 * (k : Int) ∧ Yd.most (Yd.first PH (k + 1)) (k + 1) = mo from ⟨by rw [HN.out.1, if_pos c1], by rw [HN.out.2, if_neg (fun q => c2 q.1)]⟩)
            clear c1 c2
            go_wp2_with fail
            go_roundw
            case rel => exact ⟨k + 1, by omega, by go_num, by rw [HM.out.1], by rw [HM.out.2], HB2⟩
            case measure => simp [intOf]; omega
        · have d1 := decide_eq_false c1
          by_cases c2 : H ≤ x
          · have d2 := decide_eq_true c2
            by_cases c3 : mo < 0
            · have d3 := decide_eq_true c3
              have HM := Lib.hid (show Yd.least (Yd.first PL (k + 1)) = le ∧ Yd.most (Yd.first PH (k + 1)) (k + 1) = 2500 * (k : Int) from ⟨by rw [HN.out.1, if_neg c1], by rw [HN.out.2, if_pos ⟨c2, c3⟩]⟩)
              clear c1 c2 c3
              go_wp2_with fail
              go_roundw
              case rel => exact ⟨k + 1, by omega, by go_num, by rw [HM.out.1], by rw [HM.out.2], HB2⟩
              case measure => simp [intOf]; omega
            · have d3 := decide_eq_false c3
              have HM := Lib.hid (show Yd.least (Yd.first PL (k + 1)) = le ∧ Yd.most (Yd.first PH (k + 1)) (k + 1) = mo from ⟨by rw [HN.out.1, if_neg c1], by rw [HN.out.2, if_neg (fun q => c3 q.2)]⟩)
              clear c1 c2 c3
              go_wp2_with fail
              go_roundw
              case rel => exact ⟨k + 1, by omega, by go_num, by rw [HM.out.1], by rw [HM.out.2], HB2⟩
              case measure => simp [intOf]; omega
          · have d2 := decide_eq_false c2
            have HM := Lib.hid (show Yd.least (Yd.first PL (k + 1)) = le ∧ Yd.most (Yd.first PH (k + 1)) (k + 1) = mo from ⟨by rw [HN.out.1, if_neg c1], by rw [HN.out.2, if_neg (fun q => c2 q.1)]⟩)
            clear c1 c2
            go_wp2_with fail
            go_roundw
            case rel => exact ⟨k + 1, by omega, by go_num, by rw [HM.out.1], by rw [HM.out.2], HB2⟩
            case measure => simp [intOf]; omega
      · have hd : decide (2500 * (k : Int) ≤ 100000) = false := decide_eq_false (by omega)
        have hk41 : k = 41 := by omega
        have HBr := Lib.hid (HB1.out.trans (HB.out.mono HB1.out.size))
        have hv := HV.out
        rw [← hk41] at hv
        have HM : Hid (Yd.least (Yd.first PL k) = Y1 ∧ Yd.most (Yd.first PH k) k = Y2) := Lib.hid ⟨(congrArg Prod.fst hv).symm, (congrArg Prod.snd hv).symm⟩
        clear hk41 hv HV
        generalize Yd.least (Yd.first PL k) = le at *
        generalize Yd.most (Yd.first PH k) k = mo at *
        go_wp2_with fail
        refine bodyPost_ret (v := .tuple #[.int .i64 le, .int .i64 mo]) (by simp [results, Tryd.results14, go_sem]) rfl ⟨by rw [HM.out.1, HM.out.2], HBr.out⟩
end Go.Proofs.YtkdooncfchmkfaaDoor
