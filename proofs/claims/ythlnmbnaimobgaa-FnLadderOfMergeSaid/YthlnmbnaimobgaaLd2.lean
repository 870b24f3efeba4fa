/- Ladders on both sides. -/
import Derived.Test.YthlnmbnaimobgaaLd
namespace Go.Proofs.Ythlnmbnaimobgaa
open Go.RowKit
theorem Ld.no {ps : List Pr} {es : List Int} (h : Ld.ok ps es = false) : Ld.val ps es = [] := by unfold Ld.val; rw [h]; simp
theorem Ld.yes {ps : List Pr} {es : List Int} (h : Ld.ok ps es = true) : Ld.val ps es = Ld.sums ps es ps.length := if_pos h
theorem Ed.parts {es : List Int} (h : Ed.ok es = true) : es.length ≤ 10 ∧ Ed.asc es = true := by
  unfold Ed.ok at h
  rw [Bool.and_eq_true, Bool.and_eq_true, btw_iff] at h
  exact ⟨by omega, h.2.2⟩
set_option maxRecDepth 8000 in
set_option maxHeartbeats 4000000 in
theorem ladder_any (w : World) (v u : Value) (ps : List Pr) (es : List Int) (hv : R2o w v ps) (hu : R1o w u es) (hm : ps.length ≤ 9223372036854775807) (hm2 : es.length ≤ 9223372036854775806) :
    Calls Try.prog 42 #[v, u] w (HandsI (Ld.val ps es) w) := by
  obtain ⟨⟨a2, cap2, rfl⟩, -⟩ := id hu
  have hbA := (Below.refl w.heap.size w).alloc (Nat.le_refl _) (.cells #[.slice a2 es.length cap2] 26)
  have KB := Lib.hid (Blk.new w #[.slice a2 es.length cap2] 26)
  have HV := Lib.hid (hv.below hbA (Nat.le_refl _))
  have HU := Lib.hid (hu.below hbA (Nat.le_refl _))
  obtain ⟨⟨a, cap, rfl⟩, -⟩ := hv
  clear hu
  have HBA := Lib.hid hbA; clear hbA
  cases hps : Fl.ok ps with
  | false =>
    have E := Lib.hid (Ld.no (ps := ps) (es := es) (by unfold Ld.ok; rw [hps]; rfl))
    go_enter Try.func42, Try.ntmps42
    go_wp2_with fail
    refine (vflows_any _ _ _ HV.out hm).mono ?_
    rintro e w1 ⟨rfl, hb1⟩
    rw [hps]
    go_wp2_with fail
    go_ret
    exact ⟨_, rfl, by rw [E.out]; exact IRow.nil _ _, HBA.out.trans (hb1.mono HBA.out.size)⟩
  | true =>
    cases hes : Ed.ok es with
    | false =>
      have E := Lib.hid (Ld.no (ps := ps) (es := es) (by unfold Ld.ok; rw [hps, hes]; rfl))
      have HES := Lib.hid (show (btw es.length 0 10 && (es.all dayB && Ed.asc es)) = false from hes)
      go_enter Try.func42, Try.ntmps42
      go_wp2_with fail
      refine (vflows_any _ _ _ HV.out hm).mono ?_
      rintro e w1 ⟨rfl, hb1⟩
      rw [hps]
      have c0 := (KB.out.below hb1 KB.out.lt).one0
      have HB1 := Lib.hid hb1
      clear hb1
      go_wp2_with fail
      refine (asc_any _ _ _ _ (HU.out.below HB1.out (Nat.le_refl _)) hm2).mono ?_
      rw [HES.out]
      rintro e w2 ⟨rfl, hb2⟩
      have HB2 := Lib.hid (HB1.out.trans (hb2.mono HB1.out.size))
      clear hb2 c0
      go_wp2_with fail
      go_ret
      exact ⟨_, rfl, by rw [E.out]; exact IRow.nil _ _, HBA.out.trans (HB2.out.mono HBA.out.size)⟩
    | true =>
      have E := Lib.hid (Ld.yes (ps := ps) (es := es) (by unfold Ld.ok; rw [hps, hes]; rfl))
      have HES := Lib.hid (show (btw es.length 0 10 && (es.all dayB && Ed.asc es)) = true from hes)
      obtain ⟨hel, hasc⟩ := Ed.parts hes
      have HIA := Lib.hid (fun d => Ld.isA hasc d)
      have HAL := Lib.hid (fun d => Ld.at_le es d)
      have hpl := (Fl.parts hps).1
      have HBD := Lib.hid (fun i hi k => Ld.bd hps es i hi k)
      have HP := Lib.hid (Fl.parts hps).2
      have HLN := Lib.hid (fun i => Ld.len ps es i)
      have HSS := Lib.hid (show ∀ i, Ld.sums ps es (i + 1) = (Ld.sums ps es i).set (Ld.at es (ps.getD i pr0).1) ((Ld.sums ps es i).getD (Ld.at es (ps.getD i pr0).1) 0 + (ps.getD i pr0).2) from fun _ => rfl)
      have HS0 := Lib.hid (show Ld.sums ps es 0 = List.replicate (es.length + 1) 0 from rfl)
      obtain ⟨i0, hi, hz0, hz1, hz2⟩ := info_parts infoInt
      clear hes hasc
      go_enter Try.func42, Try.ntmps42
      go_wp2_with fail
      refine (vflows_any _ _ _ HV.out hm).mono ?_
      rintro e w1 ⟨rfl, hb1⟩
      rw [hps]
      have c0 := (KB.out.below hb1 KB.out.lt).one0
      have HB1 := Lib.hid hb1
      clear hb1 hps
      go_wp2_with fail
      refine (asc_any _ _ _ _ (HU.out.below HB1.out (Nat.le_refl _)) hm2).mono ?_
      rw [HES.out]
      rintro e w2 ⟨rfl, hb2⟩
      have HB2 := Lib.hid (HB1.out.trans (hb2.mono HB1.out.size))
      clear hb2 c0
      have c0 := (KB.out.below HB2.out KB.out.lt).one0
      go_wp2_with (at_make; refine wpList_make_full _ rfl _ _ 26 rfl w2.heap.size 3 i0 (.int .i64 0) 1 Try.underlying26 hi hz0 hz1 .i64 .i64 _ _ (es.length + 1) rfl rfl rfl rfl (by rw [hz2]; omega) (by unfold maxLen; omega) (by omega) ?_; intro w3 hown hgrow)
      rw [made_ints1] at hown
      have hb3 : Below w2.heap.size w2 w3 := (Below.refl _ _).grown hgrow (Nat.le_refl _) (fun j hj => by cases hj)
      have HO : Hid (IRow w3 w2.heap.size (.slice (some ⟨w2.heap.size, 0, none⟩) (Ld.sums ps es 0).length (es.length + 1)) (Ld.sums ps es 0)) := Lib.hid (by unfold IRow; rw [HS0.out]; simpa using hown)
      have HB3 := Lib.hid (HB2.out.trans (hb3.mono HB2.out.size))
      have hsz2 := HB2.out.size
      clear hown hgrow hb3 c0
      have c0 := (KB.out.below HB3.out KB.out.lt).one0
      clear c0
      go_wp2_with fail
      go_loopw [23] (fun x wr => ∃ k : Nat, k ≤ ps.length ∧ x = .int .i64 k ∧ Hid (IRow wr w2.heap.size (.slice (some ⟨w2.heap.size, 0, none⟩) (Ld.sums ps es k).length (es.length + 1)) (Ld.sums ps es k)) ∧ Hid (Below (w.alloc (.cells #[.slice a2 es.length cap2] 26)).heap.size (w.alloc (.cells #[.slice a2 es.length cap2] 26)) wr) ∧ w2.heap.size < wr.heap.size) (fun x _ => ps.length - (intOf x).toNat)
      case atStart => exact ⟨0, Nat.zero_le _, rfl, HO, HB3, by obtain ⟨b, c, e, -, h, -⟩ := HO.out.form (by rw [HLN.out]; omega); simp only [Value.slice.injEq, Option.some.injEq, Addr.mk.injEq, and_true, true_and] at e; obtain ⟨rfl, -⟩ := e; exact h⟩
      case round =>
        obtain ⟨k, hk, rfl, HF, HB, hszr⟩ := hrel
        by_cases hlt : k < ps.length
        · obtain ⟨b, off, c, e, hbl, hc⟩ := (HV.out.below HB.out (Nat.le_refl _)).2 (by omega)
          simp only [Value.slice.injEq, true_and] at e
          obtain ⟨rfl, rfl⟩ := e
          obtain ⟨c0, c1⟩ := hc k hlt
          clear hc
          obtain ⟨-, m0, m1⟩ := HP.out k hlt
          have hA := HAL.out (ps.getD k pr0).1
          obtain ⟨s0, s1⟩ := HBD.out k (by omega) (Ld.at es (ps.getD k pr0).1)
          have HIk := Lib.hid (HIA.out (ps.getD k pr0).1)
          have HSk := Lib.hid (HSS.out k)
          generalize ps.getD k pr0 = p at c0 c1 m0 m1 hA s0 s1 HIk HSk
          obtain ⟨d, m⟩ := p
          simp only at c0 c1 m0 m1 hA s0 s1 HIk HSk
          generalize Ld.at es d = j at hA s0 s1 HIk HSk
          have hlen := HLN.out k
          have HUr := Lib.hid (HU.out.below HB.out (Nat.le_refl _))
          have cE := (KB.out.below HB.out KB.out.lt).one0
          have hwr : w.heap.size < wr.heap.size := Nat.lt_of_lt_of_le (by simp) HB.out.size
          -- the sums' cell
          obtain ⟨b4, cap4, e4, -, hbl4, -, hc4, hf4⟩ := HF.out.form (by omega)
          simp only [Value.slice.injEq, true_and, Option.some.injEq, Addr.mk.injEq, and_true] at e4
          obtain ⟨rfl, -⟩ := e4
          have d0 := hc4 j (by omega)
          have g0 := hf4 j
          clear hc4 hf4
          have HJ := Lib.hid (show j < es.length + 1 by omega)
          have hj1 : (j : Int) < (es.length : Int) + 1 := by omega
          have hj2 : j < es.length + 1 := by omega
          have hbf := Lib.hid ((Below.refl wr.heap.size wr).alloc (Nat.le_refl _) (.cells #[.int .i64 d, .int .i64 m] 53))
          have KF := Lib.hid (Blk.new wr #[.int .i64 d, .int .i64 m] 53)
          have HSE : Hid (∀ W, Below wr.heap.size (wr.alloc (.cells #[.int .i64 d, .int .i64 m] 53)) W → True) := Lib.hid (fun _ _ => trivial)
          clear HSE
          generalize hS : (Ld.sums ps es k).getD j 0 = S at d0 s0 s1 HSk
          have HSg := Lib.hid hS; clear hS
          obtain ⟨kf0, kf1⟩ : (wr.alloc (.cells #[.int .i64 d, .int .i64 m] 53)).cell? ⟨wr.heap.size, 0, none⟩ = some (.int .i64 d) ∧ (wr.alloc (.cells #[.int .i64 d, .int .i64 m] 53)).cell? ⟨wr.heap.size, 1, none⟩ = some (.int .i64 m) := by constructor <;> simp
          have hSearch : Hid (Calls Try.prog 79 #[.int .i64 es.length, .func (.func 80) #[] #[.pointer (some ⟨wr.heap.size, 0, none⟩), .pointer (some ⟨w.heap.size, 0, none⟩)]] (wr.alloc (.cells #[.int .i64 d, .int .i64 m] 53)) fun x w' => x = .returned (.int .i64 j) ∧ ∃ q, w' = (wr.alloc (.cells #[.int .i64 d, .int .i64 m] 53)).drewN q) := by
            have hcE : (wr.alloc (.cells #[.int .i64 d, .int .i64 m] 53)).cell? ⟨w.heap.size, 0, none⟩ = some (.slice a2 es.length cap2) := (hbf.out.cell (p := ⟨w.heap.size, 0, none⟩) hwr).trans cE
            by_cases hz : 0 < es.length
            · obtain ⟨b5, off5, c5, e5, hb5, hc5⟩ := HUr.out.2 hz
              simp only [Value.slice.injEq, true_and] at e5
              obtain ⟨rfl, rfl⟩ := e5
              exact Lib.hid (searchL_any _ b5 off5 cap2 wr.heap.size w.heap.size j d es (by omega) HIk.out kf0 (fun _ => hcE) (fun i hi => (hbf.out.cell (p := ⟨b5, off5 + i, none⟩) hb5).trans (hc5 i hi)))
            · exact Lib.hid (searchL_any _ 0 0 0 wr.heap.size w.heap.size j d es (by omega) HIk.out kf0 (fun q => absurd q hz) (fun i hi => absurd hi (by omega)))
          clear HIk HUr kf0 kf1
          go_wp2_with fail
          refine hSearch.out.mono ?_
          rintro e w4 ⟨rfl, q, rfl⟩
          have HF4 := Lib.hid (((HF.out.alloc (.cells #[.int .i64 d, .int .i64 m] 53)).drewN q))
          have HS4 := Lib.hid (HF4.out.store j (S + m))
          clear hSearch cE c0 c1
          go_wp2_with fail
          refine stillTFlow 8 (by kernel_rfl) (by kernel_rfl) ?_
          simp only [List.take_succ_cons, List.take_zero, List.drop_succ_cons, List.drop_zero]
          repeat still_step
          refine wpStill_nil ?_
          go_wp2_with fail
          go_roundw
          case rel =>
            refine ⟨k + 1, by omega, by go_num, ?_, ?_, ?_⟩
            · have h := HS4.out.1
              rw [← HSk.out] at h
              exact Lib.hid h
            · refine Lib.hid ?_
              have hsz := HB.out.size
              exact (belowD (HB.out.alloc hsz _) _).drew.setCell (by have := HB2.out.size; exact this) _
            · simpa [World.setCell] using Nat.lt_succ_of_lt hszr
          case measure => simp [intOf]; omega
        · obtain rfl : k = ps.length := by omega
          go_wp2_with fail
          go_ret
          have hsw : w.heap.size ≤ w2.heap.size := Nat.le_trans (Nat.le_of_lt (by simp : w.heap.size < (w.alloc (.cells #[.slice a2 es.length cap2] 26)).heap.size)) hsz2
          exact ⟨_, rfl, by rw [E.out]; have h := HF.out.lower hsw; rw [HLN.out] at h; exact h, HBA.out.trans (HB.out.mono HBA.out.size)⟩
end Go.Proofs.Ythlnmbnaimobgaa
