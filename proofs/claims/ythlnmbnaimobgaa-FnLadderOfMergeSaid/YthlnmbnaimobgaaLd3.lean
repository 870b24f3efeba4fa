/- Ladders: the model. -/
import Derived.Test.YthlnmbnaimobgaaLd2
namespace Go.Proofs.Ythlnmbnaimobgaa
open Go.RowKit
set_option maxRecDepth 8000 in
set_option maxHeartbeats 4000000 in
theorem sladder_any (w : World) (v u : Value) (ps : List Pr) (es : List Int) (hv : R2o w v ps) (hu : R1o w u es) (hm : ps.length ≤ 9223372036854775807) (hm2 : es.length ≤ 9223372036854775806) :
    Calls Try.prog 43 #[v, u] w (HandsI (Ld.val ps es) w) := by
  have HV := Lib.hid hv
  have HU := Lib.hid hu
  obtain ⟨⟨a, cap, rfl⟩, -⟩ := hv
  obtain ⟨⟨a2, cap2, rfl⟩, -⟩ := hu
  cases hps : Fl.ok ps with
  | false =>
    have E := Lib.hid (Ld.no (ps := ps) (es := es) (by unfold Ld.ok; rw [hps]; rfl))
    go_enter Try.func43, Try.ntmps43
    go_wp2_with fail
    refine (svflows_any _ _ _ HV.out hm).mono ?_
    rintro e w1 ⟨rfl, rfl⟩
    rw [hps]
    go_wp2_with fail
    go_ret
    exact ⟨_, rfl, by rw [E.out]; exact IRow.nil _ _, Below.refl _ _⟩
  | true =>
    cases hes : Ed.ok es with
    | false =>
      have E := Lib.hid (Ld.no (ps := ps) (es := es) (by unfold Ld.ok; rw [hps, hes]; rfl))
      go_enter Try.func43, Try.ntmps43
      go_wp2_with fail
      refine (svflows_any _ _ _ HV.out hm).mono ?_
      rintro e w1 ⟨rfl, rfl⟩
      rw [hps]
      go_wp2_with fail
      refine (sedges_any _ _ _ HU.out hm2).mono ?_
      rw [hes]
      rintro e w2 ⟨rfl, hb2⟩
      go_wp2_with fail
      go_ret
      exact ⟨_, rfl, by rw [E.out]; exact IRow.nil _ _, hb2⟩
    | true =>
      have E := Lib.hid (Ld.yes (ps := ps) (es := es) (by unfold Ld.ok; rw [hps, hes]; rfl))
      have hel := (Ed.parts hes).1
      have HAL := Lib.hid (fun d => Ld.at_le es d)
      have HLO := Lib.hid (fun d i h => Ld.at_lo d es i h)
      have HHI := Lib.hid (fun d h => Ld.at_hi d es h)
      have hpl := (Fl.parts hps).1
      have HBD := Lib.hid (fun i hi k => Ld.bd hps es i hi k)
      have HP := Lib.hid (Fl.parts hps).2
      have HLN := Lib.hid (fun i => Ld.len ps es i)
      have HSS := Lib.hid (show ∀ i, Ld.sums ps es (i + 1) = (Ld.sums ps es i).set (Ld.at es (ps.getD i pr0).1) ((Ld.sums ps es i).getD (Ld.at es (ps.getD i pr0).1) 0 + (ps.getD i pr0).2) from fun _ => rfl)
      have HS0 := Lib.hid (show Ld.sums ps es 0 = List.replicate (es.length + 1) 0 from rfl)
      have HE := Lib.hid hes
      obtain ⟨i0, hi, hz0, hz1, hz2⟩ := info_parts infoInt
      clear hes
      go_enter Try.func43, Try.ntmps43
      go_wp2_with fail
      refine (svflows_any _ _ _ HV.out hm).mono ?_
      rintro e w1 ⟨rfl, rfl⟩
      rw [hps]
      clear hps
      go_wp2_with fail
      refine (sedges_any _ _ _ HU.out hm2).mono ?_
      rw [HE.out]
      rintro e w2 ⟨rfl, hb2⟩
      have HB2 := Lib.hid hb2
      clear hb2
      go_wp2_with (at_make; refine wpList_make_full _ rfl _ _ 26 rfl w2.heap.size 3 i0 (.int .i64 0) 1 Try.underlying26 hi hz0 hz1 .i64 .i64 _ _ (es.length + 1) rfl rfl rfl rfl (by rw [hz2]; omega) (by unfold maxLen; omega) (by omega) ?_; intro w3 hown hgrow)
      rw [made_ints1] at hown
      have hb3 : Below w2.heap.size w2 w3 := (Below.refl _ _).grown hgrow (Nat.le_refl _) (fun j hj => by cases hj)
      have HO : Hid (IRow w3 w2.heap.size (.slice (some ⟨w2.heap.size, 0, none⟩) (Ld.sums ps es 0).length (es.length + 1)) (Ld.sums ps es 0)) := Lib.hid (by unfold IRow; rw [HS0.out]; simpa using hown)
      have HB3 := Lib.hid (HB2.out.trans (hb3.mono HB2.out.size))
      have hsz2 := HB2.out.size
      clear hown hgrow hb3
      go_loopw [6] (fun x wr => ∃ k : Nat, k ≤ ps.length ∧ x = .int .i64 k ∧ Hid (IRow wr w2.heap.size (.slice (some ⟨w2.heap.size, 0, none⟩) (Ld.sums ps es k).length (es.length + 1)) (Ld.sums ps es k)) ∧ Hid (Below w.heap.size w wr)) (fun x _ => ps.length - (intOf x).toNat)
      case atStart => exact ⟨0, Nat.zero_le _, rfl, HO, HB3⟩
      case round =>
        obtain ⟨k, hk, rfl, HF, HB⟩ := hrel
        by_cases hlt : k < ps.length
        · obtain ⟨b, off, c, e, hbl, hc⟩ := (HV.out.below HB.out (Nat.le_refl _)).2 (by omega)
          simp only [Value.slice.injEq, true_and] at e
          obtain ⟨rfl, rfl⟩ := e
          obtain ⟨c0, c1⟩ := hc k hlt
          clear hc
          obtain ⟨-, m0, m1⟩ := HP.out k hlt
          have hA := HAL.out (ps.getD k pr0).1
          obtain ⟨s0, s1⟩ := HBD.out k (by omega) (Ld.at es (ps.getD k pr0).1)
          have HLk := Lib.hid (HLO.out (ps.getD k pr0).1)
          have HHk := Lib.hid (HHI.out (ps.getD k pr0).1)
          have HSk := Lib.hid (HSS.out k)
          generalize ps.getD k pr0 = p at c0 c1 m0 m1 hA s0 s1 HLk HHk HSk
          obtain ⟨d, m⟩ := p
          simp only at c0 c1 m0 m1 hA s0 s1 HLk HHk HSk
          generalize Ld.at es d = j at hA s0 s1 HLk HHk HSk
          have hlen := HLN.out k
          have HUr := Lib.hid (HU.out.below HB.out (Nat.le_refl _))
          have HC0 := Lib.hid c0
          have HC1 := Lib.hid c1
          have HF0 := HF
          clear c0 c1
          generalize hS : (Ld.sums ps es k).getD j 0 = S at s0 s1 HSk
          have HSg := Lib.hid hS; clear hS
          have hki : (k : Int) < ps.length := by omega
          obtain ⟨wo, rfl⟩ : ∃ wo : World, wo = wr := ⟨_, rfl⟩
          go_wp2_with fail
          go_loopw [7] (fun x wr => ∃ i : Nat, i ≤ j ∧ x = .int .i64 i ∧ ∃ q, wr = wo.drewN q) (fun x _ => j - (intOf x).toNat)
          case atStart => exact ⟨0, Nat.zero_le _, rfl, 0, rfl⟩
          case round =>
            obtain ⟨i, hij, rfl, q, rfl⟩ := hrel
            have c0 : wo.cell? ⟨b, off + k * 2, none⟩ = some (.int .i64 d) := HC0.out
            by_cases hlt2 : i < es.length
            · obtain ⟨b5, off5, c5, e5, hb5, hc5⟩ := HUr.out.2 (by omega)
              simp only [Value.slice.injEq, true_and] at e5
              obtain ⟨rfl, rfl⟩ := e5
              have c5 : wo.cell? ⟨b5, off5 + i, none⟩ = some (.int .i64 (es.getD i 0)) := hc5 i hlt2
              clear hc5
              have hi2 : (i : Int) < es.length := by omega
              have hid := decide_eq_true hi2
              by_cases hij2 : i < j
              · have hle := HLk.out i hij2
                generalize es.getD i 0 = t at c5 hle
                have hld := decide_eq_true hle
                go_wp2_with fail
                go_quiet (fail)
                go_wp2_with fail
                go_roundw
                case rel => exact ⟨i + 1, by omega, by go_num, _, rfl⟩
                case measure => simp [intOf]; omega
              · obtain rfl : i = j := by omega
                have hgt := HHk.out hlt2
                generalize es.getD i 0 = t at c5 hgt
                have hld : decide (t ≤ d) = false := decide_eq_false (by omega)
                -- behind the search
                obtain ⟨b4, cap4, e4, -, hbl4, -, hc4, hf4⟩ := HF0.out.form (by omega)
                simp only [Value.slice.injEq, true_and, Option.some.injEq, Addr.mk.injEq, and_true] at e4
                obtain ⟨rfl, -⟩ := e4
                have HD0 := Lib.hid (hc4 i (by omega))
                rw [HSg.out] at HD0
                have HG0 := Lib.hid (hf4 i)
                clear hc4 hf4
                go_wp2_with fail
                go_quiet (fail)
                rename_i nq
                have d0 : wo.cell? ⟨w2.heap.size, i, none⟩ = some (.int .i64 S) := HD0.out
                have g0 : wo.frozen? ⟨w2.heap.size, i, none⟩ = false := HG0.out
                have c0 : wo.cell? ⟨b, off + k * 2, none⟩ = some (.int .i64 d) := HC0.out
                have c1 : wo.cell? ⟨b, off + k * 2 + 1, none⟩ = some (.int .i64 m) := HC1.out
                have hj1 : (i : Int) < (es.length : Int) + 1 := by omega
                have hj2 : i < es.length + 1 := by omega
                have HS4 := Lib.hid ((HF0.out.drewN (q + nq + 1)).store i (S + m))
                go_wp2_with fail
                refine stillTFlow 13 (by kernel_rfl) (by kernel_rfl) ?_
                simp only [List.take_succ_cons, List.take_zero, List.drop_succ_cons, List.drop_zero]
                repeat still_step
                refine wpStill_nil ?_
                go_wp2_with fail
                go_roundw
                case rel =>
                  refine ⟨k + 1, by omega, by go_num, ?_, ?_⟩
                  · have h := HS4.out.1
                    rw [← HSk.out] at h
                    exact Lib.hid h
                  · exact Lib.hid ((belowD HB.out _).setCell (p := ⟨w2.heap.size, i, none⟩) hsz2 _)
                case measure => simp [intOf]; omega
            · obtain rfl : i = j := by omega
              have hi2 : ¬ (i : Int) < es.length := by omega
              have hid := decide_eq_false hi2
              obtain ⟨b4, cap4, e4, -, hbl4, -, hc4, hf4⟩ := HF0.out.form (by omega)
              simp only [Value.slice.injEq, true_and, Option.some.injEq, Addr.mk.injEq, and_true] at e4
              obtain ⟨rfl, -⟩ := e4
              have HD0 := Lib.hid (hc4 i (by omega))
              rw [HSg.out] at HD0
              have HG0 := Lib.hid (hf4 i)
              clear hc4 hf4
              go_wp2_with fail
              go_quiet (fail)
              rename_i nq
              have d0 : wo.cell? ⟨w2.heap.size, i, none⟩ = some (.int .i64 S) := HD0.out
              have g0 : wo.frozen? ⟨w2.heap.size, i, none⟩ = false := HG0.out
              have c0 : wo.cell? ⟨b, off + k * 2, none⟩ = some (.int .i64 d) := HC0.out
              have c1 : wo.cell? ⟨b, off + k * 2 + 1, none⟩ = some (.int .i64 m) := HC1.out
              have hj1 : (i : Int) < (es.length : Int) + 1 := by omega
              have hj2 : i < es.length + 1 := by omega
              have HS4 := Lib.hid ((HF0.out.drewN (q + nq + 1)).store i (S + m))
              go_wp2_with fail
              refine stillTFlow 13 (by kernel_rfl) (by kernel_rfl) ?_
              simp only [List.take_succ_cons, List.take_zero, List.drop_succ_cons, List.drop_zero]
              repeat still_step
              refine wpStill_nil ?_
              go_wp2_with fail
              go_roundw
              case rel =>
                refine ⟨k + 1, by omega, by go_num, ?_, ?_⟩
                · have h := HS4.out.1
                  rw [← HSk.out] at h
                  exact Lib.hid h
                · exact Lib.hid ((belowD HB.out _).setCell (p := ⟨w2.heap.size, i, none⟩) hsz2 _)
              case measure => simp [intOf]; omega
        · obtain rfl : k = ps.length := by omega
          go_wp2_with fail
          go_ret
          exact ⟨_, rfl, by rw [E.out]; have h := HF.out.lower hsz2; rw [HLN.out] at h; exact h, HB.out⟩
end Go.Proofs.Ythlnmbnaimobgaa
