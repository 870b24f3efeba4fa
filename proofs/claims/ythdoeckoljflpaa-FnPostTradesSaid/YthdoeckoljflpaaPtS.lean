/- The postings of trades: the model. -/
import Derived.Test.YthdoeckoljflpaaPt
import Derived.Deep.RegionHeld3
namespace Go.Proofs.Ythdoeckoljflpaa
open Go.RowKit
theorem Pt.snoc {ps : List Tri} {k : Nat} (hk : k < ps.length) : (ps.take (k + 1)).map Pt.of = (ps.take k).map Pt.of ++ [Pt.of (ps.getD k t0)] := by
  rw [take_snocT hk, List.map_append]; rfl
theorem Pt.of_neg {d m p : Int} (hm : m < 0) (hp : 1 ≤ p) : Pt.of (d, m, p) = (1, 0, -m * p) := by
  have h : m * p < 0 := Int.mul_neg_of_neg_of_pos hm (by omega)
  have e : Pt.of (d, m, p) = (1, 0, -(m * p)) := if_pos h
  rw [e, Int.neg_mul]
theorem Pt.of_pos {d m p : Int} (hm : ¬ m < 0) (hp : 1 ≤ p) : Pt.of (d, m, p) = (0, 1, m * p) := by
  have h : ¬ m * p < 0 := by have := Int.mul_nonneg (show 0 ≤ m by omega) (show 0 ≤ p by omega); omega
  exact if_neg h
theorem TRow.sl {T : TypeId} {w : World} {B : Nat} {v : Value} {ps : List Tri} (h : TRow T w B v ps) (hn : v ≠ .slice none 0 0) : ∃ b c, v = .slice (some ⟨b, 0, none⟩) ps.length c := by
  rcases h.2 with ⟨rfl, _⟩ | ⟨b, cap, cur, rfl, _⟩
  · exact absurd rfl hn
  · exact ⟨_, _, rfl⟩
theorem TRow.lt {T : TypeId} {w : World} {B : Nat} {v : Value} {ps : List Tri} (h : TRow T w B v ps) : ∀ j, v.ownBlock = some j → B ≤ j ∧ j < w.heap.size := World.ownsRow.lt h
set_option maxRecDepth 8000 in
set_option maxHeartbeats 4000000 in
theorem spost_any (w : World) (v : Value) (ps : List Tri) (hv : R3o w v ps) (hm : ps.length ≤ 9223372036854775807) :
    Calls Try.prog 16 #[v] w fun e w' => ∃ u, e = .returned u ∧ TRow 46 w' w.heap.size u (Pt.val ps) ∧ Below w.heap.size w w' := by
  have VT := Lib.hid (fun W (hW : Below w.heap.size w W) => svtrades_any W v ps (hv.below hW (Nat.le_refl _)) hm)
  have HV := Lib.hid hv
  obtain ⟨⟨a, cap, rfl⟩, h1⟩ := hv
  clear h1
  have HT0 := Lib.hid (show TRow 46 (w.alloc (.cells #[] 46)) w.heap.size (.slice (some ⟨w.heap.size, 0, none⟩) 0 0) [] from TRow.new 46 w)
  have HB0 := Lib.hid ((Below.refl w.heap.size w).alloc (Nat.le_refl _) (.cells #[] 46))
  cases h0 : Td.ok ps with
  | false =>
    rw [h0] at VT
    have HE := Lib.hid (show Pt.val ps = [] from if_neg (by rw [h0]; simp))
    clear h0
    go_enter Try.func16, Try.ntmps16
    go_wp2_with fail
    refine (VT.out _ HB0.out).mono ?_
    rintro e w1 ⟨rfl, hb1⟩
    go_wp2_with fail
    go_ret
    rw [HE.out]
    exact ⟨_, rfl, TRow.nil _ _ _, HB0.out.trans (hb1.mono HB0.out.size)⟩
  | true =>
    rw [h0] at VT
    have HE := Lib.hid (show Pt.val ps = ps.map Pt.of from if_pos h0)
    have HTn := Lib.hid (Lt.tones h0)
    have hlen := (Td.parts h0).1
    clear h0
    have HD := Lib.hid (fun n h0 h1 W => sdistL_any n W h0 h1)
    go_enter Try.func16, Try.ntmps16
    go_wp2_with fail
    refine (VT.out _ HB0.out).mono ?_
    rintro e w0 ⟨rfl, hb0⟩
    have HT1 := Lib.hid (HT0.out.below hb0 (Nat.le_refl _))
    have HB1 := Lib.hid (HB0.out.trans (hb0.mono HB0.out.size))
    clear hb0 VT HT0 HB0
    go_wp2_with fail
    go_loopw [3, 4] (fun o x wr => ∃ k ob oc : Nat, k ≤ ps.length ∧ x = .int .i64 k ∧ o = .slice (some ⟨ob, 0, none⟩) k oc ∧ Hid (TRow 46 wr w.heap.size o ((ps.take k).map Pt.of)) ∧ Hid (Below w.heap.size w wr)) (fun _ x _ => ps.length - (intOf x).toNat)
    case atStart => exact ⟨0, _, _, Nat.zero_le _, rfl, rfl, HT1, HB1⟩
    case round =>
      obtain ⟨k, ob, oc, hk, rfl, rfl, HK, HB⟩ := hrel
      by_cases hlt : k < ps.length
      · obtain ⟨b, off, c, e, hbb, hc⟩ := HV.out.2 (by omega)
        simp only [Value.slice.injEq, true_and] at e
        obtain ⟨rfl, rfl⟩ := e
        obtain ⟨-, c1, c2⟩ := hc k hlt
        clear hc
        have HX := Lib.hid (Pt.snoc hlt)
        have ht := HTn.out k hlt
        generalize ps.getD k t0 = x at c1 c2 ht HX
        obtain ⟨x0, x1, x2⟩ := x
        obtain ⟨⟨m0, m1, m2⟩, p0, p1⟩ := ht
        simp only at c1 c2 m0 m1 m2 p0 p1
        have HKw := Lib.hid (fun W (hW : Below w.heap.size w W) => (show W.cell? ⟨b, off + k * 3 + 1, none⟩ = some (.int .i64 x1) ∧ W.cell? ⟨b, off + k * 3 + 2, none⟩ = some (.int .i64 x2) from ⟨(hW.cell (p := ⟨b, off + k * 3 + 1, none⟩) hbb).trans c1, (hW.cell (p := ⟨b, off + k * 3 + 2, none⟩) hbb).trans c2⟩))
        have hlk : ((ps.take k).map Pt.of).length = k := by rw [List.length_map, List.length_take]; omega
        have HLK := Lib.hid hlk
        obtain ⟨k1, k2⟩ := HKw.out wr HB.out
        obtain ⟨kd1, kd2⟩ := HKw.out wr.drew HB.out.drew
        clear c1 c2 hlk
        by_cases hn : x1 < 0
        · have hn' := decide_eq_true hn
          have hd : (if x1 < 0 then -x1 else x1) = -x1 := if_pos hn
          rw [Pt.of_neg hn p0] at HX
          have hpr := Gn.prod (m := -x1) (p := x2) (by omega) ⟨p0, p1⟩
          have DI := Lib.hid (fun W => HD.out x1 (by omega) (by omega) W)
          rw [hd] at DI
          have W1 : IntKind.i64.wrap (-x1 * x2) = -x1 * x2 := IntWalk.i64_in _ (by omega)
          clear hn hd
          have HA := Lib.hid ((HB.out.alloc HB.out.size (.cells #[.int .i64 0, .int .i64 0, .int .i64 0] 46)).drew)
          obtain ⟨ka1, ka2⟩ := HKw.out _ HA.out
          have HA2 := Lib.hid ((HB.out.alloc HB.out.size (.cells #[.int .i64 0, .int .i64 1, .int .i64 (-x1 * x2)] 46)).drew)
          obtain ⟨kb1, kb2⟩ := HKw.out _ HA2.out
          have HAA := Lib.hid (show Below w.heap.size w ((wr.alloc (.cells #[.int .i64 1, .int .i64 0, .int .i64 (-x1 * x2)] 46)).alloc (.cells #[.int .i64 1, .int .i64 0, .int .i64 (-x1 * x2)] 46)).drew from ((HB.out.alloc HB.out.size (.cells #[.int .i64 1, .int .i64 0, .int .i64 (-x1 * x2)] 46)).alloc (HB.out.alloc HB.out.size (.cells #[.int .i64 1, .int .i64 0, .int .i64 (-x1 * x2)] 46)).size (.cells #[.int .i64 1, .int .i64 0, .int .i64 (-x1 * x2)] 46)).drew)
          have HRR := Lib.hid (show TRow 46 ((wr.alloc (.cells #[.int .i64 1, .int .i64 0, .int .i64 (-x1 * x2)] 46)).alloc (.cells #[.int .i64 1, .int .i64 0, .int .i64 (-x1 * x2)] 46)).drew w.heap.size (.slice (some ⟨ob, 0, none⟩) k oc) ((ps.take k).map Pt.of) from (HK.out.alloc (.cells #[.int .i64 1, .int .i64 0, .int .i64 (-x1 * x2)] 46)).alloc (.cells #[.int .i64 1, .int .i64 0, .int .i64 (-x1 * x2)] 46))
          have HNC := Lib.hid (show ∀ j u, (ac (1, 0, -x1 * x2))[j]? = some u → ((wr.alloc (.cells #[.int .i64 1, .int .i64 0, .int .i64 (-x1 * x2)] 46)).alloc (.cells #[.int .i64 1, .int .i64 0, .int .i64 (-x1 * x2)] 46)).drew.cell? ((⟨wr.heap.size + 1, 0, none⟩ : Addr).add j) = some u from by
            have h := newPost_cells (wr.alloc (.cells #[.int .i64 1, .int .i64 0, .int .i64 (-x1 * x2)] 46)) (1, 0, -x1 * x2)
            rw [World.size_alloc] at h
            exact h)
          have hxl : ((ps.take k).map Pt.of).length + 1 ≤ 1000000 := by rw [HLK.out]; omega
          go_wp2_with fail
          go_region_held3 (fun W => W.cell? ⟨b, off + k * 3 + 1, none⟩ = some (.int .i64 x1) ∧ W.cell? ⟨b, off + k * 3 + 2, none⟩ = some (.int .i64 x2)) (first | with_reducible exact ⟨k1, k2⟩ | with_reducible exact ⟨kd1, kd2⟩ | with_reducible exact ⟨ka1, ka2⟩ | with_reducible exact ⟨kb1, kb2⟩) ((go_at_call 56; refine (DI.out _).mono ?_; rintro e w5 ⟨rfl, rfl⟩))
          all_goals go_wp2_with (at_builtin; refine wpList_pushPost _ rfl _ _ rfl w.heap.size (.slice (some ⟨ob, 0, none⟩) k oc) ((ps.take k).map Pt.of) rfl HRR.out (wr.heap.size + 1) _ (1, 0, -x1 * x2) rfl HNC.out hxl HAA.out.size ?_; intro v5 w5 hown5 hne5 hg5 hv5)
          all_goals
            rw [← HX.out] at hown5
            obtain ⟨b5, c5, rfl⟩ := hown5.sl hne5
            rw [List.length_map, List.length_take, Nat.min_eq_left (by omega)] at hown5 ⊢
            have HT5 := Lib.hid hown5
            have HB5 := Lib.hid (HAA.out.grown hg5 HAA.out.size (fun j hj => by have := HK.out.lt ob rfl; have hj2 : some ob = some j := hj; injection hj2 with hj2; omega))
            clear hown5 hne5 hg5 hv5
            go_roundw
            case rel => exact ⟨k + 1, b5, c5, by omega, by go_num, rfl, HT5, HB5⟩
            case measure => simp [intOf]; omega
        · have hn' := decide_eq_false hn
          have hd : (if x1 < 0 then -x1 else x1) = x1 := if_neg hn
          rw [Pt.of_pos hn p0] at HX
          have hpr := Gn.prod (m := x1) (p := x2) (by omega) ⟨p0, p1⟩
          have DI := Lib.hid (fun W => HD.out x1 (by omega) (by omega) W)
          rw [hd] at DI
          have W1 : IntKind.i64.wrap (x1 * x2) = x1 * x2 := IntWalk.i64_in _ (by omega)
          clear hn hd
          have HA := Lib.hid ((HB.out.alloc HB.out.size (.cells #[.int .i64 0, .int .i64 0, .int .i64 0] 46)).drew)
          obtain ⟨ka1, ka2⟩ := HKw.out _ HA.out
          have HA2 := Lib.hid ((HB.out.alloc HB.out.size (.cells #[.int .i64 0, .int .i64 1, .int .i64 (x1 * x2)] 46)).drew)
          obtain ⟨kb1, kb2⟩ := HKw.out _ HA2.out
          have HAA := Lib.hid (show Below w.heap.size w ((wr.alloc (.cells #[.int .i64 0, .int .i64 1, .int .i64 (x1 * x2)] 46)).alloc (.cells #[.int .i64 0, .int .i64 1, .int .i64 (x1 * x2)] 46)).drew from ((HB.out.alloc HB.out.size (.cells #[.int .i64 0, .int .i64 1, .int .i64 (x1 * x2)] 46)).alloc (HB.out.alloc HB.out.size (.cells #[.int .i64 0, .int .i64 1, .int .i64 (x1 * x2)] 46)).size (.cells #[.int .i64 0, .int .i64 1, .int .i64 (x1 * x2)] 46)).drew)
          have HRR := Lib.hid (show TRow 46 ((wr.alloc (.cells #[.int .i64 0, .int .i64 1, .int .i64 (x1 * x2)] 46)).alloc (.cells #[.int .i64 0, .int .i64 1, .int .i64 (x1 * x2)] 46)).drew w.heap.size (.slice (some ⟨ob, 0, none⟩) k oc) ((ps.take k).map Pt.of) from (HK.out.alloc (.cells #[.int .i64 0, .int .i64 1, .int .i64 (x1 * x2)] 46)).alloc (.cells #[.int .i64 0, .int .i64 1, .int .i64 (x1 * x2)] 46))
          have HNC := Lib.hid (show ∀ j u, (ac (0, 1, x1 * x2))[j]? = some u → ((wr.alloc (.cells #[.int .i64 0, .int .i64 1, .int .i64 (x1 * x2)] 46)).alloc (.cells #[.int .i64 0, .int .i64 1, .int .i64 (x1 * x2)] 46)).drew.cell? ((⟨wr.heap.size + 1, 0, none⟩ : Addr).add j) = some u from by
            have h := newPost_cells (wr.alloc (.cells #[.int .i64 0, .int .i64 1, .int .i64 (x1 * x2)] 46)) (0, 1, x1 * x2)
            rw [World.size_alloc] at h
            exact h)
          have hxl : ((ps.take k).map Pt.of).length + 1 ≤ 1000000 := by rw [HLK.out]; omega
          go_wp2_with fail
          go_region_held3 (fun W => W.cell? ⟨b, off + k * 3 + 1, none⟩ = some (.int .i64 x1) ∧ W.cell? ⟨b, off + k * 3 + 2, none⟩ = some (.int .i64 x2)) (first | with_reducible exact ⟨k1, k2⟩ | with_reducible exact ⟨kd1, kd2⟩ | with_reducible exact ⟨ka1, ka2⟩ | with_reducible exact ⟨kb1, kb2⟩) ((go_at_call 56; refine (DI.out _).mono ?_; rintro e w5 ⟨rfl, rfl⟩))
          all_goals go_wp2_with (at_builtin; refine wpList_pushPost _ rfl _ _ rfl w.heap.size (.slice (some ⟨ob, 0, none⟩) k oc) ((ps.take k).map Pt.of) rfl HRR.out (wr.heap.size + 1) _ (0, 1, x1 * x2) rfl HNC.out hxl HAA.out.size ?_; intro v5 w5 hown5 hne5 hg5 hv5)
          all_goals
            rw [← HX.out] at hown5
            obtain ⟨b5, c5, rfl⟩ := hown5.sl hne5
            rw [List.length_map, List.length_take, Nat.min_eq_left (by omega)] at hown5 ⊢
            have HT5 := Lib.hid hown5
            have HB5 := Lib.hid (HAA.out.grown hg5 HAA.out.size (fun j hj => by have := HK.out.lt ob rfl; have hj2 : some ob = some j := hj; injection hj2 with hj2; omega))
            clear hown5 hne5 hg5 hv5
            go_roundw
            case rel => exact ⟨k + 1, b5, c5, by omega, by go_num, rfl, HT5, HB5⟩
            case measure => simp [intOf]; omega
      · obtain rfl : k = ps.length := by omega
        rw [List.take_of_length_le (Nat.le_refl _)] at HK
        go_wp2_with fail
        go_ret
        rw [HE.out]
        exact ⟨_, rfl, HK.out, HB.out⟩
end Go.Proofs.Ythdoeckoljflpaa
