/- The law of lots that are traded again. -/
import Derived.Test.YtkbojibgbmbmdaaGnQ
import Derived.Deep.AppendLies
import Derived.Deep.RegionHeldLaw
namespace Go.Proofs.Ytkbojibgbmbmdaa
open Go.RowKit
def Gn.ag (x : Pr) : Tri := (9, x.1, x.2)
/-- Trades of one sign close nothing. -/
theorem Gn.same {q : List Pr} {p m g : Int} (h : (0 < m ∧ ∀ x ∈ q, 0 < x.1) ∨ (m < 0 ∧ ∀ x ∈ q, x.1 < 0)) : Lt.add q p m g = (q ++ [(m, p)], g) := by
  have e : Lt.close p q m g = (q, m, g) := by
    cases q with
    | nil => rfl
    | cons x q =>
      refine Lt.close_stop fun ho => ?_
      rcases Lt.opp_iff.1 ho with ⟨a, b⟩ | ⟨a, b⟩ <;> rcases h with ⟨c, d⟩ | ⟨c, d⟩
      · omega
      · have := d x List.mem_cons_self; omega
      · have := d x List.mem_cons_self; omega
      · omega
  unfold Lt.add
  rw [e]
  have hm : ¬ m = 0 := by rcases h with ⟨c, -⟩ | ⟨c, -⟩ <;> omega
  simp only [if_neg hm]
theorem Gn.again {q : List Pr} (hs : Lt.sign q) : ∀ i : Nat, i ≤ q.length → Lt.st ((q.take i).map Gn.ag) = (q.take i, 0)
  | 0, _ => by simp [Lt.st]
  | i + 1, hi => by
    have ih := Gn.again hs i (by omega)
    rw [Gn.take_snoc2 (by omega), List.map_append]
    show Lt.st ((q.take i).map Gn.ag ++ [Gn.ag (q.getD i pr0)]) = _
    rw [Lt.st_snoc, ih]
    show Lt.add (q.take i) (q.getD i pr0).2 (q.getD i pr0).1 0 = _
    have hm : q.getD i pr0 ∈ q := by rw [List.getD_eq_getElem?_getD, List.getElem?_eq_getElem (by omega)]; exact List.getElem_mem _
    refine Gn.same ?_
    rcases hs with h | h
    · exact .inl ⟨h _ hm, fun x hx => h x (List.mem_of_mem_take hx)⟩
    · exact .inr ⟨h _ hm, fun x hx => h x (List.mem_of_mem_take hx)⟩
theorem Gn.ag_at {q : List Pr} {i : Nat} (hi : i < q.length) : (q.map Gn.ag).getD i t0 = Gn.ag (q.getD i pr0) := by
  rw [List.getD_eq_getElem?_getD, List.getElem?_map, List.getElem?_eq_getElem hi, List.getD_eq_getElem?_getD, List.getElem?_eq_getElem hi]; rfl
theorem Gn.ag_ok {q : List Pr} (h1 : ∀ x ∈ q, Lt.one x) (hl : q.length ≤ 16) : Td.ok (q.map Gn.ag) = true := by
  unfold Td.ok
  rw [List.length_map, Bool.and_eq_true, Bool.and_eq_true, decide_eq_true_eq]
  refine ⟨hl, all_takeF fun j hj => ?_, Td.asc_iff.2 fun i hi => ?_⟩
  · rw [List.length_map] at hj
    rw [Gn.ag_at hj]
    have := Gn.one_at h1 hj
    unfold Lt.one at this
    unfold Td.one
    rw [Bool.and_eq_true, Bool.and_eq_true, Bool.and_eq_true, btw_iff, btw_iff, btw_iff]
    show _ ∧ ((q.getD j pr0).1 != 0) = true ∧ (-9999 ≤ (q.getD j pr0).1 ∧ (q.getD j pr0).1 ≤ 9999) ∧ 1 ≤ (q.getD j pr0).2 ∧ (q.getD j pr0).2 ≤ 50000
    refine ⟨⟨(by decide : (0 : Int) ≤ 9), (by decide : (9 : Int) ≤ 36524)⟩, ?_, ⟨this.1.1, this.1.2.1⟩, this.2⟩
    rw [bne_iff_ne]
    exact this.1.2.2
  · rw [List.length_map] at hi
    rw [Gn.ag_at hi, Gn.ag_at (by omega)]
    exact Int.le_refl _
theorem Gn.ag_lots {q : List Pr} (h1 : ∀ x ∈ q, Lt.one x) (hl : q.length ≤ 16) (hs : Lt.sign q) : Lt.lots (q.map Gn.ag) = q ∧ Lt.gain (q.map Gn.ag) = 0 := by
  unfold Lt.lots Lt.gain
  rw [if_pos (Gn.ag_ok h1 hl), if_pos (Gn.ag_ok h1 hl)]
  have e := Gn.again hs q.length (Nat.le_refl _)
  rw [List.take_of_length_le (Nat.le_refl _)] at e
  rw [e]
  exact ⟨rfl, rfl⟩
set_option maxRecDepth 8000 in
set_option maxHeartbeats 8000000 in
theorem lawLotsAgain (a : Option Addr) (len cap : Nat) (zs : List Int) (w : World) (h : IsRow .u8 w a len cap zs) :
    Calls Try.prog 8 #[.slice a len cap] w fun e w' => e = .returned (.bool true) ∧ Below w.heap.size w w' := by
  have H := Lib.hid h; clear h
  by_cases hl : 1048576 < (len : Int)
  · go_enter Try.func8, Try.ntmps8
    go_wp2_with fail
    go_ret
    exact ⟨rfl, Below.refl _ _⟩
  · have hl' := decide_eq_false hl
    clear hl
    go_enter Try.func8, Try.ntmps8
    go_wp2_with fail
    refine (drawLO_any _ _ _ _ _ H.out).mono ?_
    rintro e w1 ⟨b, c, ps, rfl, hF, hln, hI, hb1⟩
    have R1 := Lib.hid hF.r3.o
    have HB1 := Lib.hid hb1
    have hm : ps.length ≤ 9223372036854775807 := by omega
    have hll : ((Lt.lots ps).length ≤ ps.length ∧ (Lt.lots ps).length ≤ 16) ∧ (∀ x ∈ Lt.lots ps, Lt.one x) ∧ Lt.sign (Lt.lots ps) := by
      cases h0 : Td.ok ps with
      | false => unfold Lt.lots; rw [h0]; exact ⟨⟨by simp, by simp⟩, fun x hx => by simp at hx, .inl fun x hx => by simp at hx⟩
      | true =>
        have hG := Lt.good (Lt.tones h0) ps.length (Nat.le_refl _)
        rw [List.take_of_length_le (Nat.le_refl _)] at hG
        unfold Lt.lots
        rw [if_pos h0]
        exact ⟨⟨hG.len, Nat.le_trans hG.len (Td.parts h0).1⟩, hG.one, hG.sign⟩
    obtain ⟨⟨hq1, hq16⟩, hq2, hq3⟩ := hll
    have HO := Lib.hid hq2
    have HS := Lib.hid hq3
    clear hF hI hb1 hq2 hq3
    have SLo := Lib.hid (fun W (hW : Below w1.heap.size w1 W) => slots_any W _ ps (R1.out.below hW (Nat.le_refl _)) hm)
    have LO := Lib.hid (lots_any _ _ _ R1.out hm)
    generalize Lt.lots ps = q at *
    go_wp2_with fail
    refine LO.out.mono ?_
    rintro e w2 ⟨⟨u, rfl, hu⟩, hb2⟩
    have HU2 := Lib.hid hu.r2o
    obtain ⟨au, cu, rfl⟩ := hu.slice
    have HB12 := Lib.hid hb2
    clear hu hb2 LO
    go_wp2_with fail
    refine (SLo.out _ HB12.out).mono ?_
    rintro e w3 ⟨⟨u3, rfl, hu3⟩, hb3⟩
    have HU3 := Lib.hid (HU2.out.below hb3 (Nat.le_refl _))
    have HV3 := Lib.hid hu3.r2.o
    have HB13 := Lib.hid (HB12.out.trans (hb3.mono HB12.out.size))
    clear hu3 hb3
    go_wp2_with fail
    refine (eqL_same _ _ _ _ HU3.out HV3.out (by omega)).mono ?_
    rintro e w4 ⟨rfl, hb4⟩
    have HU4 := Lib.hid (HU3.out.below hb4 (Nat.le_refl _))
    have HB14 := Lib.hid (HB13.out.trans (hb4.mono HB13.out.size))
    clear hb4 HU2 HU3 HV3
    by_cases hz : q.length = 0
    · have hz' : ((q.length : Int) == 0) = true := by rw [hz]; rfl
      clear hz
      go_wp2_with fail
      refine (SLo.out _ HB14.out).mono ?_
      rintro e w5 ⟨⟨u5, rfl, hu5⟩, hb5⟩
      have HU5 := Lib.hid (HU4.out.below hb5 (Nat.le_refl _))
      have HV5 := Lib.hid hu5.r2.o
      have HB15 := Lib.hid (HB14.out.trans (hb5.mono HB14.out.size))
      clear hu5 hb5
      go_wp2_with fail
      refine (eqL_same _ _ _ _ HU5.out HV5.out (by omega)).mono ?_
      rintro e w6 ⟨rfl, hb6⟩
      go_wp2_with fail
      go_ret
      exact ⟨rfl, HB1.out.trans ((HB15.out.trans (hb6.mono HB15.out.size)).mono HB1.out.size)⟩
    · have hz' : ((q.length : Int) == 0) = false := by simp only [beq_eq_false_iff_ne, ne_eq]; omega
      obtain ⟨b2, o2, d2, e2, hbl2, hc2⟩ := HU4.out.2 (by omega)
      simp only [Value.slice.injEq, true_and] at e2
      obtain ⟨rfl, rfl⟩ := e2
      have HC := Lib.hid hc2
      have HAg := Lib.hid (Gn.ag_lots HO.out hq16 HS.out)
      have HFl := Lib.hid (fun i (hi : i < q.length) => (show (q.take (i + 1)).map Gn.ag = (q.take i).map Gn.ag ++ [Gn.ag (q.getD i pr0)] by rw [Gn.take_snoc2 hi, List.map_append]; rfl))
      have HE := Lib.hid (show ∀ i, q.length ≤ i → q.take i = q from fun i hi => List.take_of_length_le hi)
      have HT0 := Lib.hid (show TRow 35 (w4.alloc (.cells #[] 35)) w4.heap.size (.slice (some ⟨w4.heap.size, 0, none⟩) 0 0) ((q.take 0).map Gn.ag) from TRow.new 35 w4)
      have HB0 := Lib.hid ((Below.refl w4.heap.size w4).alloc (Nat.le_refl _) (.cells #[] 35))
      obtain ⟨n, hn⟩ : ∃ n, n = q.length := ⟨_, rfl⟩
      rw [← hn] at hq1 hq16 hz' HC HFl HE HU4 ⊢
      have HN := Lib.hid hn; clear hn hz hc2
      obtain ⟨i0, hii, hz0, hz1, hz2⟩ := infoPartsTrade
      go_wp2_with fail
      go_loopw [5, 6] (fun o x wx => ∃ i ob oc : Nat, i ≤ n ∧ x = .int .i64 i ∧ o = .slice (some ⟨ob, 0, none⟩) i oc ∧ Hid (TRow 35 wx w4.heap.size o ((q.take i).map Gn.ag)) ∧ Hid (Below w4.heap.size w4 wx)) (fun _ x _ => n - (intOf x).toNat)
      case atStart => exact ⟨0, w4.heap.size, 0, Nat.zero_le _, rfl, rfl, HT0, HB0⟩
      case round =>
        obtain ⟨i, ob, oc, hi, rfl, rfl, HT, HB⟩ := hrel
        by_cases hlt : i < n
        · obtain ⟨q0, q1⟩ := HC.out i hlt
          have e1 : q.getD i (0, 0) = q.getD i pr0 := rfl
          rw [e1] at q0 q1
          clear e1
          have HFi := Lib.hid (HFl.out i hlt)
          generalize q.getD i pr0 = t at q0 q1 HFi
          obtain ⟨tm, tp⟩ := t
          simp only at q0 q1
          have hlk : ((q.take i).map Gn.ag).length = i := by rw [List.length_map, List.length_take, ← HN.out]; omega
          have HLK := Lib.hid hlk
          clear hlk
          have HKw := Lib.hid (fun W (hW : Below w4.heap.size w4 W) => (show W.cell? ⟨b2, o2 + i * 2, none⟩ = some (.int .i64 tm) ∧ W.cell? ⟨b2, o2 + i * 2 + 1, none⟩ = some (.int .i64 tp) from ⟨(hW.cell (p := ⟨b2, o2 + i * 2, none⟩) hbl2).trans q0, (hW.cell (p := ⟨b2, o2 + i * 2 + 1, none⟩) hbl2).trans q1⟩))
          have hsz := HB.out.size
          have HBA := Lib.hid ((HB.out.alloc hsz (.cells #[.int .i64 9, .int .i64 tm, .int .i64 tp] 35)).drew)
          have K1 := HKw.out wr.drew HB.out.drew
          have K2 := HKw.out (wr.drew.alloc (.cells #[.int .i64 9, .int .i64 tm, .int .i64 tp] 35)) HBA.out
          have K3 : (wr.alloc (.cells #[.int .i64 9, .int .i64 tm, .int .i64 tp] 35)).drew.cell? ⟨b2, o2 + i * 2, none⟩ = some (.int .i64 tm) ∧ (wr.alloc (.cells #[.int .i64 9, .int .i64 tm, .int .i64 tp] 35)).drew.cell? ⟨b2, o2 + i * 2 + 1, none⟩ = some (.int .i64 tp) := K2
          have HAd := Lib.hid (show World.ownsRow (wr.alloc (.cells #[.int .i64 9, .int .i64 tm, .int .i64 tp] 35)).drew w4.heap.size 35 3 (.slice (some ⟨ob, 0, none⟩) i oc) i (((q.take i).map Gn.ag).flatMap ac) by
            have h := HT.out.alloc (.cells #[.int .i64 9, .int .i64 tm, .int .i64 tp] 35)
            unfold TRow at h
            rw [HLK.out] at h
            exact h)
          have HNew := Lib.hid (show ∀ j u, (ac (9, tm, tp))[j]? = some u → (wr.alloc (.cells #[.int .i64 9, .int .i64 tm, .int .i64 tp] 35)).drew.cell? ((⟨wr.heap.size, 0, none⟩ : Addr).add j) = some u from newTrade_cells wr (9, tm, tp))
          have HobB := Lib.hid (World.ownsRow.lt HT.out ob rfl)
          have HK6 := Lib.hid (fun (W6 : World) (hg : (wr.alloc (.cells #[.int .i64 9, .int .i64 tm, .int .i64 tp] 35)).drew.grownBy W6 (some ob)) => HKw.out W6 (HBA.out.grown hg HBA.out.size (fun k hk => by injection hk with hk; have := HobB.out.1; omega)))
          have hi1 : (i : Int) < n := by omega
          have hi0 : (0 : Int) ≤ i := by omega
          clear q0 q1
          go_wp2_with fail
          first | (go_region_held_law (fun W => W.cell? ⟨b2, o2 + i * 2, none⟩ = some (.int .i64 tm) ∧ W.cell? ⟨b2, o2 + i * 2 + 1, none⟩ = some (.int .i64 tp)) (first | with_reducible exact K1 | with_reducible exact K2 | with_reducible exact K3 | with_reducible exact K6 | fail "nokeep") (first | (refine step_append_lies _ rfl _ _ 23 rfl w4.heap.size 35 i0 _ 3 24 Try.underlying23 hii hz0 hz1 hz2 rfl (by decide) (.slice (some ⟨ob, 0, none⟩) i oc) i (((q.take i).map Gn.ag).flatMap ac) rfl HAd.out ⟨wr.heap.size, 0, none⟩ 1 1 (ac (9, tm, tp)) rfl rfl HNew.out (ac_one _) (by decide) (by unfold maxLen; omega) (by omega) HBA.out.size _ rfl ?_; intro g6 c6 w6 hown6 hg6 hat6 hlt6; have K6 := HK6.out w6 hg6))) | fail "WALK"
          have HB6 := Lib.hid (HBA.out.grown hg6 HBA.out.size (fun k hk => by have hk2 : some ob = some k := hk; injection hk2 with hk2; have := HobB.out.1; omega))
          have HT6 := Lib.hid (show TRow 35 w6 w4.heap.size (.slice (some ⟨g6, 0, none⟩) (i + 1) c6) ((q.take (i + 1)).map Gn.ag) by
            have h := hown6
            unfold TRow
            rw [HFi.out, List.length_append, HLK.out, List.flatMap_append]
            simpa [Gn.ag] using h)
          clear hown6 hg6 hat6 hlt6 K1 K2 K3 K6
          go_wp2_with fail
          go_roundw
          case rel => exact ⟨i + 1, g6, c6, by omega, by go_num, rfl, HT6, HB6⟩
          case measure => simp [intOf]; omega
        · obtain rfl : i = n := by omega
          rw [HE.out i (Nat.le_refl _)] at HT
          have hlk : (q.map Gn.ag).length = i := by rw [List.length_map, ← HN.out]
          have HR := Lib.hid (show R3o wr (.slice (some ⟨ob, 0, none⟩) i oc) (q.map Gn.ag) from HT.out.r3.o)
          have hmq : (q.map Gn.ag).length ≤ 9223372036854775807 := by omega
          have GL := Lib.hid (lots_any wr (.slice (some ⟨ob, 0, none⟩) i oc) (q.map Gn.ag) HR.out hmq)
          have GA := Lib.hid (fun W (hW : Below wr.heap.size wr W) => gain_any W (.slice (some ⟨ob, 0, none⟩) i oc) (q.map Gn.ag) (HR.out.below hW (Nat.le_refl _)) hmq)
          rw [HAg.out.1] at GL
          rw [HAg.out.2] at GA
          have HUr := Lib.hid (HU4.out.below HB.out (Nat.le_refl _))
          have HBr := Lib.hid (HB14.out.trans (HB.out.mono HB14.out.size))
          clear hlk HT HB HR hmq HC HFl HE
          go_wp2_with fail
          refine GL.out.mono ?_
          rintro e w6 ⟨⟨u6, rfl, hu6⟩, hb6⟩
          have HV6 := Lib.hid hu6.r2o
          have HU6 := Lib.hid (HUr.out.below hb6 (Nat.le_refl _))
          have HB6 := Lib.hid hb6
          clear hu6 hb6
          go_wp2_with fail
          refine (eqL_same _ _ _ _ HV6.out HU6.out (by rw [← HN.out]; omega)).mono ?_
          rintro e w7 ⟨rfl, hb7⟩
          have HB7 := Lib.hid (HB6.out.trans (hb7.mono HB6.out.size))
          clear hb7
          go_wp2_with fail
          refine (GA.out _ HB7.out).mono ?_
          rintro e w8 ⟨rfl, hb8⟩
          go_wp2_with fail
          go_ret
          have h8 := HB7.out.trans (hb8.mono HB7.out.size)
          have h9 := HBr.out.trans (h8.mono HBr.out.size)
          exact ⟨rfl, HB1.out.trans (h9.mono HB1.out.size)⟩
end Go.Proofs.Ytkbojibgbmbmdaa
