/- The law of gains at one price. -/
import Derived.Test.YtkbojibgbmbmdaaGnL
import Derived.Deep.AppendLies
import Derived.Deep.RegionHeldLaw
namespace Go.Proofs.Ytkbojibgbmbmdaa
open Go.RowKit
theorem Gn.prices {ps : List Tri} {c : Int} (h : ∀ i, i < ps.length → Lt.tone (ps.getD i t0)) (hc : ∀ i, i < ps.length → (ps.getD i t0).2.2 = c) : ∀ i : Nat, i ≤ ps.length → ∀ x ∈ (Lt.st (ps.take i)).1, x.2 = c
  | 0, _ => fun x hx => by simp [Lt.st] at hx
  | i + 1, hi => by
    have ih := Gn.prices h hc i (by omega)
    have G := Lt.good h i (by omega)
    have A := Lt.add_step (g := (Lt.st (ps.take i)).2) G.one G.sign (h i (by omega))
    rw [take_snocT (by omega), Lt.st_snoc]
    exact A.2.2.2.2.2.2 c ih (hc i (by omega))
theorem Gn.worth_c {c : Int} : ∀ q : List Pr, (∀ x ∈ q, x.2 = c) → Lt.worth q = c * Lt.many q
  | [], _ => by simp [Lt.worth, Lt.many]
  | x :: q, h => by
    have ih := Gn.worth_c q fun y hy => h y (List.mem_cons_of_mem _ hy)
    have hx := h x List.mem_cons_self
    unfold Lt.worth Lt.many at *
    rw [List.map_cons, List.sum_cons, List.map_cons, List.sum_cons, ih, hx, Int.mul_add, Int.mul_comm x.1]
theorem Gn.paid_c {c : Int} : ∀ ps : List Tri, (∀ t ∈ ps, t.2.2 = c) → (ps.map fun t => t.2.1 * t.2.2).sum = c * (ps.map (·.2.1)).sum
  | [], _ => by simp
  | t :: ps, h => by
    have ih := Gn.paid_c ps fun y hy => h y (List.mem_cons_of_mem _ hy)
    have ht := h t List.mem_cons_self
    rw [List.map_cons, List.sum_cons, List.map_cons, List.sum_cons, ih, ht, Int.mul_add, Int.mul_comm t.2.1]
/-- Trades at one price gain nothing. -/
theorem Gn.flat {ps : List Tri} {c : Int} (hc : ∀ t ∈ ps, t.2.2 = c) : Lt.gain ps = 0 := by
  unfold Lt.gain
  split
  · next h =>
    have ht := Lt.tones h
    have hc2 : ∀ i, i < ps.length → (ps.getD i t0).2.2 = c := fun i hi => hc _ (by rw [List.getD_eq_getElem?_getD, List.getElem?_eq_getElem hi]; exact List.getElem_mem hi)
    have G := Lt.good ht ps.length (Nat.le_refl _)
    have P := Gn.prices ht hc2 ps.length (Nat.le_refl _)
    rw [List.take_of_length_le (Nat.le_refl _)] at G P
    have h1 := G.worth
    rw [Gn.worth_c _ P, Gn.paid_c _ hc, G.many] at h1
    omega
  · rfl
def Gn.fl (t : Tri) : Tri := (t.1, t.2.1, 10000)
set_option maxRecDepth 8000 in
set_option maxHeartbeats 8000000 in
theorem lawGainFlat (a : Option Addr) (len cap : Nat) (zs : List Int) (w : World) (h : IsRow .u8 w a len cap zs) :
    Calls Try.prog 7 #[.slice a len cap] w fun e w' => e = .returned (.bool true) ∧ Below w.heap.size w w' := by
  have H := Lib.hid h; clear h
  by_cases hl : 1048576 < (len : Int)
  · go_enter Try.func7, Try.ntmps7
    go_wp2_with fail
    go_ret
    exact ⟨rfl, Below.refl _ _⟩
  · have hl' := decide_eq_false hl
    clear hl
    go_enter Try.func7, Try.ntmps7
    go_wp2_with fail
    refine (drawGO_any _ _ _ _ _ H.out).mono ?_
    rintro e w1 ⟨b, c, ps, rfl, hF, hln, hI, hb1⟩
    have R1 := Lib.hid hF.r3.o
    have HB1 := Lib.hid hb1
    have hm : ps.length ≤ 9223372036854775807 := by omega
    have hne : (Lt.gain ps != Lt.gain ps) = false := by simp
    have heq : (Lt.gain ps == Lt.gain ps) = true := by simp
    clear hF hI hb1
    go_wp2_with fail
    refine (gain_any _ _ _ R1.out hm).mono ?_
    rintro e w2 ⟨rfl, hb2⟩
    have R2 := Lib.hid (R1.out.below hb2 (Nat.le_refl _))
    have HB2 := Lib.hid (HB1.out.trans (hb2.mono HB1.out.size))
    clear hb2
    go_wp2_with fail
    refine (sgain_any _ _ _ R2.out hm).mono ?_
    rintro e w3 ⟨rfl, hb3⟩
    have R3 := Lib.hid (R2.out.below hb3 (Nat.le_refl _))
    have HB3 := Lib.hid (HB2.out.trans (hb3.mono HB2.out.size))
    clear hb3
    have VT := Lib.hid (vtrades_any _ _ _ R3.out hm)
    cases h0 : Td.ok ps with
    | false =>
      rw [h0] at VT
      clear h0
      go_wp2_with fail
      refine VT.out.mono ?_
      rintro e w4 ⟨rfl, hb4⟩
      have R4 := Lib.hid (R3.out.below hb4 (Nat.le_refl _))
      have HB4 := Lib.hid (HB3.out.trans (hb4.mono HB3.out.size))
      clear hb4
      go_wp2_with fail
      refine (sgain_any _ _ _ R4.out hm).mono ?_
      rintro e w5 ⟨rfl, hb5⟩
      go_wp2_with fail
      go_ret
      exact ⟨rfl, HB4.out.trans (hb5.mono HB4.out.size)⟩
    | true =>
      rw [h0] at VT
      clear h0 hne heq
      go_wp2_with fail
      refine VT.out.mono ?_
      rintro e w4 ⟨rfl, hb4⟩
      have R4 := Lib.hid (R3.out.below hb4 (Nat.le_refl _))
      have HB4 := Lib.hid (HB3.out.trans (hb4.mono HB3.out.size))
      have HFl := Lib.hid (fun i (hi : i < ps.length) => (show (ps.take (i + 1)).map Gn.fl = (ps.take i).map Gn.fl ++ [Gn.fl (ps.getD i t0)] by rw [take_snocT hi, List.map_append]; rfl))
      have HE := Lib.hid (show ∀ i, ps.length ≤ i → ps.take i = ps from fun i hi => List.take_of_length_le hi)
      have hN := Blk.new w4 #[] 35
      have HT0 := Lib.hid (show TRow 35 (w4.alloc (.cells #[] 35)) w4.heap.size (.slice (some ⟨w4.heap.size, 0, none⟩) 0 0) ((ps.take 0).map Gn.fl) from TRow.new 35 w4)
      have HB0 := Lib.hid ((Below.refl w4.heap.size w4).alloc (Nat.le_refl _) (.cells #[] 35))
      clear hb4 VT hN
      obtain ⟨n, hn⟩ : ∃ n, n = ps.length := ⟨_, rfl⟩
      rw [← hn] at hln hm HFl HE ⊢
      have R4n := R4
      rw [← hn] at R4n
      have HN := Lib.hid hn; clear hn
      obtain ⟨i0, hii, hz0, hz1, hz2⟩ := infoPartsTrade
      go_wp2_with fail
      go_loopw [5, 6] (fun o x wx => ∃ i ob oc : Nat, i ≤ n ∧ x = .int .i64 i ∧ o = .slice (some ⟨ob, 0, none⟩) i oc ∧ Hid (TRow 35 wx w4.heap.size o ((ps.take i).map Gn.fl)) ∧ Hid (Below w4.heap.size w4 wx)) (fun _ x _ => n - (intOf x).toNat)
      case atStart => exact ⟨0, w4.heap.size, 0, Nat.zero_le _, rfl, rfl, HT0, HB0⟩
      case round =>
        obtain ⟨i, ob, oc, hi, rfl, rfl, HT, HB⟩ := hrel
        by_cases hlt : i < n
        · obtain ⟨b1, o1, d1, e1, hbl1, hc1⟩ := R4n.out.2 (by rw [← HN.out]; omega)
          rw [← HN.out] at e1
          simp only [Value.slice.injEq, Option.some.injEq, Addr.mk.injEq, and_true, true_and] at e1
          obtain ⟨⟨rfl, rfl⟩, rfl⟩ := e1
          obtain ⟨q0, q1, -⟩ := hc1 i (by rw [← HN.out]; exact hlt)
          simp only [Nat.zero_add] at q0 q1
          have HFi := Lib.hid (HFl.out i hlt)
          clear hc1
          generalize ps.getD i t0 = t at q0 q1 HFi
          obtain ⟨td, tm, tp⟩ := t
          simp only at q0 q1
          have hlk : ((ps.take i).map Gn.fl).length = i := by rw [List.length_map, List.length_take, ← HN.out]; omega
          have HLK := Lib.hid hlk
          clear hlk
          have HKw := Lib.hid (fun W (hW : Below w4.heap.size w4 W) => (show W.cell? ⟨b, i * 3, none⟩ = some (.int .i64 td) ∧ W.cell? ⟨b, i * 3 + 1, none⟩ = some (.int .i64 tm) from ⟨(hW.cell (p := ⟨b, i * 3, none⟩) hbl1).trans q0, (hW.cell (p := ⟨b, i * 3 + 1, none⟩) hbl1).trans q1⟩))
          have hsz := HB.out.size
          have HBA := Lib.hid ((HB.out.alloc hsz (.cells #[.int .i64 td, .int .i64 tm, .int .i64 10000] 35)).drew)
          have K1 := HKw.out wr.drew HB.out.drew
          have K2 := HKw.out (wr.drew.alloc (.cells #[.int .i64 td, .int .i64 tm, .int .i64 10000] 35)) HBA.out
          have K3 : (wr.alloc (.cells #[.int .i64 td, .int .i64 tm, .int .i64 10000] 35)).drew.cell? ⟨b, i * 3, none⟩ = some (.int .i64 td) ∧ (wr.alloc (.cells #[.int .i64 td, .int .i64 tm, .int .i64 10000] 35)).drew.cell? ⟨b, i * 3 + 1, none⟩ = some (.int .i64 tm) := K2
          have HAd := Lib.hid (show World.ownsRow (wr.alloc (.cells #[.int .i64 td, .int .i64 tm, .int .i64 10000] 35)).drew w4.heap.size 35 3 (.slice (some ⟨ob, 0, none⟩) i oc) i (((ps.take i).map Gn.fl).flatMap ac) by
            have h := HT.out.alloc (.cells #[.int .i64 td, .int .i64 tm, .int .i64 10000] 35)
            unfold TRow at h
            rw [HLK.out] at h
            exact h)
          have HNew := Lib.hid (show ∀ j u, (ac (td, tm, 10000))[j]? = some u → (wr.alloc (.cells #[.int .i64 td, .int .i64 tm, .int .i64 10000] 35)).drew.cell? ((⟨wr.heap.size, 0, none⟩ : Addr).add j) = some u from newTrade_cells wr (td, tm, 10000))
          have HobB := Lib.hid (World.ownsRow.lt HT.out ob rfl)
          have HK6 := Lib.hid (fun (W6 : World) (hg : (wr.alloc (.cells #[.int .i64 td, .int .i64 tm, .int .i64 10000] 35)).drew.grownBy W6 (some ob)) => HKw.out W6 (HBA.out.grown hg HBA.out.size (fun k hk => by injection hk with hk; have := HobB.out.1; omega)))
          have hi1 : (i : Int) < n := by omega
          have hi0 : (0 : Int) ≤ i := by omega
          clear q0 q1
          go_wp2_with fail
          first | (go_region_held_law (fun W => W.cell? ⟨b, i * 3, none⟩ = some (.int .i64 td) ∧ W.cell? ⟨b, i * 3 + 1, none⟩ = some (.int .i64 tm)) (first | with_reducible exact K1 | with_reducible exact K2 | with_reducible exact K3 | with_reducible exact K6 | fail "nokeep") (first | (refine step_append_lies _ rfl _ _ 23 rfl w4.heap.size 35 i0 _ 3 24 Try.underlying23 hii hz0 hz1 hz2 rfl (by decide) (.slice (some ⟨ob, 0, none⟩) i oc) i (((ps.take i).map Gn.fl).flatMap ac) rfl HAd.out ⟨wr.heap.size, 0, none⟩ 1 1 (ac (td, tm, 10000)) rfl rfl HNew.out (ac_one _) (by decide) (by unfold maxLen; omega) (by omega) HBA.out.size _ rfl ?_; intro g6 c6 w6 hown6 hg6 hat6 hlt6; have K6 := HK6.out w6 hg6))) | fail "WALK"
          have HB6 := Lib.hid (HBA.out.grown hg6 HBA.out.size (fun k hk => by have hk2 : some ob = some k := hk; injection hk2 with hk2; have := HobB.out.1; omega))
          have HT6 := Lib.hid (show TRow 35 w6 w4.heap.size (.slice (some ⟨g6, 0, none⟩) (i + 1) c6) ((ps.take (i + 1)).map Gn.fl) by
            have h := hown6
            unfold TRow
            rw [HFi.out, List.length_append, HLK.out, List.flatMap_append]
            simpa [Gn.fl] using h)
          clear hown6 hg6 hat6 hlt6 K1 K2 K3 K6
          go_wp2_with fail
          go_roundw
          case rel => exact ⟨i + 1, g6, c6, by omega, by go_num, rfl, HT6, HB6⟩
          case measure => simp [intOf]; omega
        · obtain rfl : i = n := by omega
          have hlk : (ps.map Gn.fl).length = i := by rw [List.length_map, ← HN.out]
          rw [HE.out i (Nat.le_refl _)] at HT
          have GA := Lib.hid (gain_any wr (.slice (some ⟨ob, 0, none⟩) i oc) (ps.map Gn.fl) HT.out.r3.o (by rw [hlk]; omega))
          rw [Gn.flat (c := 10000) (fun t ht => by obtain ⟨x, _, rfl⟩ := List.mem_map.1 ht; rfl)] at GA
          have HBr := Lib.hid (HB4.out.trans (HB.out.mono HB4.out.size))
          clear hlk
          go_wp2_with fail
          refine GA.out.mono ?_
          rintro e w6 ⟨rfl, hb6⟩
          go_wp2_with fail
          go_ret
          exact ⟨rfl, HBr.out.trans (hb6.mono HBr.out.size)⟩
end Go.Proofs.Ytkbojibgbmbmdaa
