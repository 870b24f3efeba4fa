/- The postings of trades: the program. -/
import Derived.Test.YthdoeckoljflpaaGnQ
import Derived.Test.YthdoeckoljflpaaTrPPost
import Derived.Test.YthdoeckoljflpaaPsD
namespace Go.Proofs.Ythdoeckoljflpaa
open Go.RowKit
/-- The same move without an amount below 0. -/
def Pt.pos (p : Tri) : Tri := if p.2.2 < 0 then (p.2.1, p.1, -p.2.2) else p
def Pt.of (t : Tri) : Tri := Pt.pos (0, 1, t.2.1 * t.2.2)
def Pt.val (ps : List Tri) : List Tri := if Td.ok ps = true then ps.map Pt.of else []
set_option maxHeartbeats 400000 in
theorem positive_any (p : Tri) (w : World) (h0 : -1000000000000 ≤ p.2.2) (h1 : p.2.2 ≤ 1000000000000) :
    Calls Try.prog 54 #[triV p] w fun e w' => e = .returned (triV (Pt.pos p)) ∧ Below w.heap.size w w' := by
  obtain ⟨f, t, u⟩ := p
  simp only at h0 h1
  have hb0 := (Below.refl w.heap.size w).alloc (Nat.le_refl _) (.cells #[.int .i64 f, .int .i64 t, .int .i64 u] 46)
  by_cases hu : u < 0
  · have hu' := decide_eq_true hu
    have W1 : IntKind.i64.wrap (-u) = -u := IntWalk.i64_in _ (by omega)
    have e : Pt.pos (f, t, u) = (t, f, -u) := if_pos hu
    rw [e]
    clear e hu
    go_enter Try.func54, Try.ntmps54
    go_wp2_with fail
    refine bodyPost_ret (v := triV (t, f, -u)) (by simp [results, Try.results54, go_sem]) rfl ⟨rfl, ?_⟩
    repeat (refine Below.setCell ?_ (by simp <;> omega) _)
    exact hb0.alloc (by simp) _
  · have hu' := decide_eq_false hu
    have e : Pt.pos (f, t, u) = (f, t, u) := if_neg hu
    rw [e]
    clear e hu
    go_enter Try.func54, Try.ntmps54
    go_wp2_with fail
    refine bodyPost_ret (v := triV (f, t, u)) (by simp [results, Try.results54, go_sem]) rfl ⟨rfl, ?_⟩
    repeat (refine Below.setCell ?_ (by simp <;> omega) _)
    exact hb0.alloc (by simp) _
theorem Pt.at {ps : List Tri} {k : Nat} (hk : k < ps.length) : (ps.map Pt.of).getD k t0 = Pt.of (ps.getD k t0) := by
  rw [List.getD_eq_getElem?_getD, List.getElem?_map, List.getElem?_eq_getElem hk, List.getD_eq_getElem?_getD, List.getElem?_eq_getElem hk]; rfl
set_option maxRecDepth 8000 in
set_option maxHeartbeats 4000000 in
theorem post_any (w : World) (v : Value) (ps : List Tri) (hv : R3o w v ps) (hm : ps.length ≤ 9223372036854775807) :
    Calls Try.prog 14 #[v] w fun e w' => ∃ u, e = .returned u ∧ TRow 46 w' w.heap.size u (Pt.val ps) ∧ Below w.heap.size w w' := by
  have VT := Lib.hid (vtrades_any w v ps hv hm)
  have HV := Lib.hid hv
  obtain ⟨⟨a, cap, rfl⟩, h1⟩ := hv
  clear h1
  cases h0 : Td.ok ps with
  | false =>
    rw [h0] at VT
    have HE := Lib.hid (show Pt.val ps = [] from if_neg (by rw [h0]; simp))
    clear h0
    go_enter Try.func14, Try.ntmps14
    go_wp2_with fail
    refine VT.out.mono ?_
    rintro e w1 ⟨rfl, hb1⟩
    go_wp2_with fail
    go_ret
    rw [HE.out]
    exact ⟨_, rfl, TRow.nil _ _ _, hb1⟩
  | true =>
    rw [h0] at VT
    have HE := Lib.hid (show Pt.val ps = ps.map Pt.of from if_pos h0)
    have HT := Lib.hid (fun i (hi : i < ps.length) => (show (-500000000 ≤ (ps.getD i t0).2.1 * (ps.getD i t0).2.2 ∧ (ps.getD i t0).2.1 * (ps.getD i t0).2.2 ≤ 500000000) from by
      have h := Lt.tones h0 i hi
      have := Gn.prod (m := (ps.getD i t0).2.1) (p := (ps.getD i t0).2.2) ⟨h.1.1, h.1.2.1⟩ h.2
      omega))
    have hlen := (Td.parts h0).1
    clear h0
    obtain ⟨i0, hi, hz0, hz1, hz2⟩ := infoPartsPost
    go_enter Try.func14, Try.ntmps14
    go_wp2_with fail
    refine VT.out.mono ?_
    rintro e w0 ⟨rfl, hb0⟩
    have HV0 := Lib.hid (HV.out.below hb0 (Nat.le_refl _))
    have HB0 := Lib.hid hb0
    clear hb0 VT HV
    go_wp2_with (at_make; refine wpList_make_full _ rfl _ _ 25 rfl w0.heap.size 46 i0 (.agg #[.int .i64 0, .int .i64 0, .int .i64 0]) 3 Try.underlying25 hi hz0 hz1 .i64 .i64 _ _ ps.length rfl rfl rfl rfl (by rw [hz2]; omega) (by unfold maxLen; omega) (by omega) ?_; intro w1 hown hgrow)
    rw [made_tris] at hown
    have hb1 : Below w0.heap.size w0 w1 := (Below.refl _ _).grown hgrow (Nat.le_refl _) (fun j hj => by cases hj)
    obtain ⟨qs, hqs⟩ : ∃ qs, qs = ps.map Pt.of := ⟨_, rfl⟩
    have HQs := Lib.hid hqs
    have HQa := Lib.hid (fun k (hk : k < ps.length) => (show qs.getD k t0 = Pt.of (ps.getD k t0) by rw [hqs]; exact Pt.at hk))
    have hql : qs.length = ps.length := by rw [hqs]; exact List.length_map _
    rw [← hqs] at HE
    clear hqs
    have HO : Hid (TRow 46 w1 w0.heap.size (.slice (some ⟨w0.heap.size, 0, none⟩) (qs.take 0 ++ List.replicate (qs.length - 0) t0).length ps.length) (qs.take 0 ++ List.replicate (qs.length - 0) t0)) := Lib.hid (by unfold TRow; simpa [hql] using hown)
    have HB1 := Lib.hid hb1
    have HQl := Lib.hid hql
    clear hown hgrow hql hb1
    go_loopw [14] (fun x wr => ∃ k : Nat, k ≤ ps.length ∧ x = .int .i64 k ∧ Hid (TRow 46 wr w0.heap.size (.slice (some ⟨w0.heap.size, 0, none⟩) (qs.take k ++ List.replicate (qs.length - k) t0).length ps.length) (qs.take k ++ List.replicate (qs.length - k) t0)) ∧ Hid (Below w0.heap.size w0 wr)) (fun x _ => ps.length - (intOf x).toNat)
    case atStart => exact ⟨0, Nat.zero_le _, rfl, HO, HB1⟩
    case round =>
      obtain ⟨k, hk, rfl, HK, HB⟩ := hrel
      by_cases hlt : k < ps.length
      · obtain ⟨b, off, c, e, hbb, hc⟩ := HV0.out.2 (by omega)
        simp only [Value.slice.injEq, true_and] at e
        obtain ⟨rfl, rfl⟩ := e
        obtain ⟨c0, c1, c2⟩ := hc k hlt
        replace c0 := (HB.out.cell (p := ⟨b, off + k * 3, none⟩) hbb).trans c0
        replace c1 := (HB.out.cell (p := ⟨b, off + k * 3 + 1, none⟩) hbb).trans c1
        replace c2 := (HB.out.cell (p := ⟨b, off + k * 3 + 2, none⟩) hbb).trans c2
        clear hc
        have hmp := HT.out k hlt
        have HX := Lib.hid (HQa.out k hlt)
        generalize ps.getD k t0 = x at c0 c1 c2 hmp HX
        obtain ⟨x0, x1, x2⟩ := x
        simp only at c0 c1 c2 hmp
        have hlen : (qs.take k ++ List.replicate (qs.length - k) t0).length = ps.length := by rw [List.length_append, List.length_take, List.length_replicate, HQl.out]; omega
        have W1 : IntKind.i64.wrap (x1 * x2) = x1 * x2 := IntWalk.i64_in _ (by omega)
        have HKa := Lib.hid (HK.out.alloc (.cells #[.int .i64 x0, .int .i64 x1, .int .i64 x2] 73))
        have HBa := Lib.hid (HB.out.alloc HB.out.size (.cells #[.int .i64 x0, .int .i64 x1, .int .i64 x2] 73))
        go_wp2_with fail
        refine (positive_any (0, 1, x1 * x2) _ (by simp only; omega) (by simp only; omega)).mono ?_
        rintro e w2 ⟨rfl, hb2⟩
        have HK2 := Lib.hid (HKa.out.below hb2 (Nat.le_refl _))
        have HB2 := Lib.hid (HBa.out.trans (hb2.mono HBa.out.size))
        have HY := Lib.hid (show qs.getD k t0 = Pt.pos (0, 1, x1 * x2) from HX.out)
        clear hb2 c0 c1 c2 HX
        generalize Pt.pos (0, 1, x1 * x2) = y at HY ⊢
        obtain ⟨y0, y1, y2⟩ := y
        obtain ⟨b4, cap4, e4, -, hbl4, -, hc4, hf4⟩ := HK2.out.form (by rw [hlen]; omega)
        simp only [Value.slice.injEq, true_and, Option.some.injEq, Addr.mk.injEq, and_true] at e4
        obtain ⟨rfl, -⟩ := e4
        obtain ⟨d0, d1, d2⟩ := hc4 k (by rw [hlen]; exact hlt)
        have g0 := hf4 (k * 3)
        have g1 := hf4 (k * 3 + 1)
        have g2 := hf4 (k * 3 + 2)
        clear hc4 hf4
        have HS := Lib.hid (HK2.out.store k (by rw [hlen]; exact hlt) y0 y1 y2)
        generalize List.getD (qs.take k ++ List.replicate (qs.length - k) t0) k t0 = z at d0 d1 d2
        go_wp2_with fail
        go_roundw
        case rel =>
          refine ⟨k + 1, by omega, by go_num, ?_, Lib.hid (((HB2.out.setCell (Nat.le_refl _) _).setCell (Nat.le_refl _) _).setCell (Nat.le_refl _) _)⟩
          have := HS.out.1
          rw [← HY.out, copy_tri (by rw [HQl.out]; exact hlt)] at this
          exact Lib.hid this
        case measure => simp [intOf]; omega
      · have HO2 := HK
        go_wp2_with fail
        go_ret
        have := HO2.out
        rw [List.take_of_length_le (by rw [HQl.out]; omega), show qs.length - k = 0 by rw [HQl.out]; omega] at this
        simp only [List.replicate_zero, List.append_nil] at this
        rw [HQl.out] at this
        rw [HE.out]
        exact ⟨_, rfl, this.lower HB0.out.size, HB0.out.trans (HB.out.mono HB0.out.size)⟩
end Go.Proofs.Ythdoeckoljflpaa
