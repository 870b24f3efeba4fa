/- Weights with a cap: a round. -/
import Derived.Test.YtgkldgljebhcgaaCwQ
namespace Go.Proofs.Ytgkldgljebhcgaa
open Go.RowKit
/-- A row that is being turned into another, place by place. -/
def Cw.mix {α : Type} (z a : List α) (j : Nat) : List α := z.take j ++ a.drop j
section
variable {α : Type} {z a : List α}
theorem Cw.mix_len (h : z.length = a.length) {j : Nat} (hj : j ≤ a.length) : (Cw.mix z a j).length = a.length := by
  unfold Cw.mix; rw [List.length_append, List.length_take, List.length_drop]; omega
theorem Cw.mix_at (h : z.length = a.length) {j : Nat} (hj : j < a.length) (d : α) : (Cw.mix z a j).getD j d = a.getD j d := by
  unfold Cw.mix
  rw [List.getD_eq_getElem?_getD, List.getD_eq_getElem?_getD, List.getElem?_append_right (by rw [List.length_take]; omega), List.length_take, List.getElem?_drop, show j + (j - min j z.length) = j by omega]
theorem Cw.mix_put (h : z.length = a.length) {j : Nat} (hj : j < a.length) {x d : α} (hx : z.getD j d = x) : (Cw.mix z a j).set j x = Cw.mix z a (j + 1) := by
  have hz : z[j]'(by omega) = x := by rw [← hx, List.getD_eq_getElem?_getD, List.getElem?_eq_getElem (by omega)]; rfl
  unfold Cw.mix
  rw [List.set_append_right _ _ (by rw [List.length_take]; omega), List.length_take, show j - min j z.length = 0 by omega, List.drop_eq_getElem_cons (h := hj), List.set_cons_zero, List.take_succ_eq_append_getElem (by omega), List.append_assoc, hz]
  rfl
theorem Cw.mix_same (h : z.length = a.length) {j : Nat} (hj : j < a.length) {d : α} (hx : z.getD j d = a.getD j d) : Cw.mix z a j = Cw.mix z a (j + 1) := by
  have hz : z[j]'(by omega) = a[j] := by
    rw [List.getD_eq_getElem?_getD, List.getD_eq_getElem?_getD, List.getElem?_eq_getElem (by omega), List.getElem?_eq_getElem hj] at hx
    exact hx
  unfold Cw.mix
  rw [List.drop_eq_getElem_cons (h := hj), List.take_succ_eq_append_getElem (by omega), List.append_assoc, hz]
  rfl
theorem Cw.mix_end (h : z.length = a.length) : Cw.mix z a a.length = z := by
  unfold Cw.mix
  rw [List.drop_length, List.append_nil, List.take_of_length_le (by omega)]
theorem Cw.mix_zero : Cw.mix z a 0 = a := by unfold Cw.mix; simp
end
theorem Cw.blk1 {w : World} {b : Nat} {t : TypeId} {x : Value} (h : Blk w b t #[x]) : w.cell? ⟨b, 0, none⟩ = some x := by
  unfold Blk at h
  simp [World.cell?, h]
set_option maxRecDepth 8000 in
set_option maxHeartbeats 8000000 in
theorem round_any (w : World) (B bc bw bm cw cm : Nat) (L : Int) (ws : List Int) (cs : List Bool) (hC : Cs w B bc bw bm cw cm ws cs) (I : Cw.Inv L ws cs) (ha : Cw.anyB L ws = true) :
    Calls Try.prog 25 #[.pointer (some ⟨bc, 0, none⟩), .int .i64 L] w fun e w' => e = .returned (.tuple #[]) ∧ Cs w' B bc bw bm cw cm (Cw.step L ws cs) (Cw.caps L ws cs) ∧ Below B w w' := by
  obtain ⟨⟨gc, lc⟩, ⟨gw, lw⟩, gm, lm⟩ := hC.bds
  have hp := Cw.any_above ha
  have ok := I.ok hp
  have n1 := I.n1
  have n8 := I.n8
  have hlen := I.len
  have HL := Lib.hid (And.intro I.L0 I.L1)
  have HX := Lib.hid (fun i (hi : i < ws.length) => And.intro (I.nn i hi) (I.top hi))
  have HZl := Lib.hid (Cw.cut_len L ws)
  have HKl := Lib.hid (Cw.caps_len (L := L) hlen)
  have HTl := Lib.hid (Cw.step_len (L := L) hlen)
  have HOl := Lib.hid ((Pr.out_len (Cw.above L ws) (Cw.F L ws cs)).trans I.F_len)
  have HZa := Lib.hid (fun i (hi : i < ws.length) => Cw.cut_at (L := L) hi)
  have HKa := Lib.hid (fun i (hi : i < ws.length) => Cw.caps_at (L := L) hlen hi)
  have HTa := Lib.hid (fun i (hi : i < ws.length) => I.step_at hi)
  have HZb := Lib.hid (fun i (hi : i < ws.length) => I.cut_bd hi)
  have HOb := Lib.hid (fun i (hi : i < ws.length) => And.intro (Pr.out_nn ok (i := i) (by rw [I.F_len]; exact hi)) (Pr.out_le ok (i := i) (by rw [I.F_len]; exact hi)))
  have HAb := Lib.hid I.above_bd
  have HFl := Lib.hid I.F_len
  have hoB : Pr.okB (Cw.above L ws) (Cw.F L ws cs) = true := by
    have h1 := I.above_bd
    have h2 := I.F_pos hp
    unfold Pr.okB Ho.ok
    rw [Bool.and_eq_true, Bool.and_eq_true, Bool.and_eq_true, btw_iff, btw_iff, I.F_len]
    exact ⟨by omega, ⟨by omega, I.F_hold⟩, by simpa using (show (Cw.F L ws cs).sum ≠ 0 by omega)⟩
  have HPv := Lib.hid (Pr.val_yes hoB)
  have HF := Lib.hid (show Cw.free (Cw.cut L ws) (Cw.caps L ws cs) = Cw.F L ws cs from rfl)
  have hbA := (Below.refl w.heap.size w).alloc (Nat.le_refl _) (.cells #[.int .i64 L] 3)
  have HC1 := Lib.hid (hC.below hbA (Nat.le_refl _))
  have HB1 := Lib.hid (hbA.mono (show B ≤ w.heap.size by omega))
  have hq1 : (w.alloc (.cells #[.int .i64 L] 3)).cell? ⟨w.heap.size, 0, none⟩ = some (.int .i64 L) := by
    exact Cw.blk1 (Blk.new w #[.int .i64 L] 3)
  have HQ1 := Lib.hid hq1
  have HS := Lib.hid (sumCw_any _ _ ws L w.heap.size HC1.out.w.r1 n8 (fun i hi => HX.out i hi) HL.out hq1)
  have s0 := HC1.out.c0.1
  have hq : bw < w.heap.size ∧ bm < w.heap.size := ⟨lw, lm⟩
  have HLen := Lib.hid hlen
  clear hC I ha hp ok hoB hbA lc lw lm hq1 hlen
  generalize Cw.above L ws = A at *
  have HTZ := Lib.hid (show (Cw.step L ws cs).length = (Cw.cut L ws).length from HTl.out.trans HZl.out.symm)
  have HKc := Lib.hid (show (Cw.caps L ws cs).length = cs.length from HKl.out.trans HLen.out)
  generalize Cw.step L ws cs = T at *
  generalize Cw.cut L ws = Z at *
  generalize Cw.caps L ws cs = K at *
  generalize Cw.F L ws cs = F at *
  go_enter Try.func25, Try.ntmps25
  go_wp2_with fail
  generalize (w.alloc (.cells #[.int .i64 L] 3)) = w1 at *
  generalize w.heap.size = q at *
  refine HS.out.mono ?_
  rintro e w2 ⟨rfl, rfl⟩
  go_wp2_with fail
  clear HS
  go_loopw [20] (fun x wr => ∃ k : Nat, k ≤ ws.length ∧ x = .int .i64 k ∧ Hid (Cs wr B bc bw bm cw cm (Cw.mix Z ws k) (Cw.mix K cs k)) ∧ Hid (wr.cell? ⟨q, 0, none⟩ = some (.int .i64 L)) ∧ Hid (Below B w wr)) (fun x _ => ws.length - (intOf x).toNat)
  case atStart => exact ⟨0, Nat.zero_le _, rfl, by rw [Cw.mix_zero, Cw.mix_zero]; exact HC1, HQ1, HB1⟩
  case round =>
    obtain ⟨k, hk, rfl, HK, HQ, HB⟩ := hrel
    clear s0
    have hml := Cw.mix_len HZl.out hk
    by_cases hlt : k < ws.length
    · have s0 := HK.out.c0
      rw [hml] at s0
      obtain ⟨s0, s1⟩ := s0
      have c1 := (HK.out.wAt (by rw [hml]; omega)).1 k (by rw [hml]; exact hlt)
      have g1 := (HK.out.wAt (by rw [hml]; omega)).2 k
      have c2 := HK.out.mAt.1 k (by rw [hml]; exact hlt)
      have g2 := HK.out.mAt.2 k
      rw [Cw.mix_at HZl.out hlt] at c1
      rw [Cw.mix_at HKc.out (by rw [← HLen.out]; exact hlt)] at c2
      have hza := HZa.out k hlt
      have hka := HKa.out k hlt
      have hq' := HQ.out
      have hnm := HK.out.n1
      have hk1 : (k : Int) < ws.length := by omega
      have hk0 : (0 : Int) ≤ k := by omega
      clear hml
      by_cases hL : L < ws.getD k 0
      · rw [if_pos hL] at hza
        rw [decide_eq_true hL, Bool.true_or] at hka
        have HS2 := Lib.hid ((HK.out.setW k L).setM k true).drew
        rw [Cw.mix_put HZl.out hlt hza, Cw.mix_put HKc.out (by rw [← HLen.out]; exact hlt) hka] at HS2
        have HB2 := Lib.hid (((HB.out.setCell (p := ⟨bw, k, none⟩) gw (.int .i64 L)).setCell (p := ⟨bm, k, none⟩) gm (.bool true)).drew)
        have HQ2 := Lib.hid (show (((wr.setCell ⟨bw, k, none⟩ (.int .i64 L)).setCell ⟨bm, k, none⟩ (.bool true)).drew).cell? ⟨q, 0, none⟩ = some (.int .i64 L) by
          have h1 := heap_setCell_other wr ⟨bw, k, none⟩ q (.int .i64 L) (by show q ≠ bw; omega)
          have h2 := heap_setCell_other (wr.setCell ⟨bw, k, none⟩ (.int .i64 L)) ⟨bm, k, none⟩ q (.bool true) (by show q ≠ bm; omega)
          exact (World.cell?_of_block (a := ⟨q, 0, none⟩) (h2.trans h1)).trans hq')
        generalize ws.getD k 0 = x at c1 hL
        generalize cs.getD k false = c at c2
        clear hza hka
        go_wp2_with fail
        go_region
        go_wp2_with fail
        go_roundw
        case rel => exact ⟨k + 1, by omega, by go_num, HS2, HQ2, HB2⟩
        case measure => simp [intOf]; omega
      · rw [if_neg hL] at hza
        rw [decide_eq_false hL, Bool.false_or] at hka
        have HS2 := HK
        rw [Cw.mix_same HZl.out hlt hza, Cw.mix_same HKc.out (by rw [← HLen.out]; exact hlt) hka] at HS2
        generalize ws.getD k 0 = x at c1 hL
        clear hza hka c2
        go_wp2_with fail
        go_roundw
        case rel => exact ⟨k + 1, by omega, by go_num, HS2, HQ, HB⟩
        case measure => simp [intOf]; omega
    · obtain rfl : k = ws.length := by omega
      have HK2 := Lib.hid (show Cs wr B bc bw bm cw cm Z K by
        have h := HK.out
        rw [Cw.mix_end HZl.out, HLen.out, Cw.mix_end HKc.out] at h
        exact h)
      have FR := Lib.hid (free_any wr B bc bw bm cw cm Z K HK2.out (by rw [HZl.out]; exact n1) (by rw [HZl.out]; exact n8) (fun i hi => by have := HZb.out i (by rw [← HZl.out]; exact hi); omega))
      clear HK hml hlt
      go_wp2_with fail
      refine FR.out.mono ?_
      rintro e w3 ⟨v3, rfl, hv3, hb3⟩
      have HK3 := Lib.hid (HK2.out.below hb3 (Nat.le_refl _))
      have HB3 := Lib.hid (HB.out.trans (hb3.mono (by have := HK2.out.bds; omega)))
      have PR := Lib.hid (proRate_any w3 A v3 _ hv3.r1 (by rw [HF.out, HFl.out]; omega))
      rw [HF.out, HPv.out] at PR
      clear HK2 HB FR hb3 hv3
      go_wp2_with fail
      refine PR.out.mono ?_
      rintro e w4 ⟨v4, rfl, hv4, hb4⟩
      have hbo := HK3.out.bds
      have HK4 := Lib.hid (HK3.out.below hb4 (Nat.le_refl _))
      have HB4 := Lib.hid (HB3.out.trans (hb4.mono (by omega)))
      obtain ⟨bo, co, rfl, gbo, -, -, -, -⟩ := hv4.form (by rw [HOl.out]; omega)
      have hno : bo ≠ bw := by omega
      have HV4 := Lib.hid hv4
      clear HK3 HB3 PR hb4 hv4 hbo
      generalize Pr.out A F = O at *
      have e4 := HOl.out
      rw [e4] at HV4 ⊢
      clear e4
      go_wp2_with fail
      go_loopw [47] (fun x wr2 => ∃ k : Nat, k ≤ ws.length ∧ x = .int .i64 k ∧ Hid (Cs wr2 B bc bw bm cw cm (Cw.mix T Z k) K) ∧ Hid (IRow wr2 w3.heap.size (.slice (some ⟨bo, 0, none⟩) ws.length co) O) ∧ Hid (Below B w wr2)) (fun x _ => ws.length - (intOf x).toNat)
      case atStart => exact ⟨0, Nat.zero_le _, rfl, by rw [Cw.mix_zero]; exact HK4, HV4, HB4⟩
      case round =>
        obtain ⟨k, hk, rfl, HK, HV, HB⟩ := hrel
        have hml := Cw.mix_len HTZ.out (j := k) (by rw [HZl.out]; exact hk)
        rw [HZl.out] at hml
        by_cases hlt : k < ws.length
        · have s0 := HK.out.c0.1
          rw [hml] at s0
          have c1 := (HK.out.wAt (by rw [hml]; omega)).1 k (by rw [hml]; exact hlt)
          have g1 := (HK.out.wAt (by rw [hml]; omega)).2 k
          rw [Cw.mix_at HTZ.out (by rw [HZl.out]; exact hlt)] at c1
          obtain ⟨b5, c5, e5, -, -, -, hc5, -⟩ := HV.out.form (by rw [HOl.out]; omega)
          simp only [Value.slice.injEq, Option.some.injEq, Addr.mk.injEq, and_true] at e5
          obtain ⟨rfl, -, -⟩ := e5
          have c2 := hc5 k (by rw [HOl.out]; exact hlt)
          clear hc5 hml
          have hta := HTa.out k hlt
          obtain ⟨z0, z1, -⟩ := HZb.out k hlt
          obtain ⟨o0, o1⟩ := HOb.out k hlt
          have hA := HAb.out
          have HS2 := Lib.hid (HK.out.setW k (Z.getD k 0 + O.getD k 0))
          rw [Cw.mix_put HTZ.out (by rw [HZl.out]; exact hlt) hta] at HS2
          have HV2 := Lib.hid (HV.out.keptBy (HK.out.w.store k (Z.getD k 0 + O.getD k 0)).2 (fun j hj => by have hj2 : some bo = some j := hj; injection hj2 with hj2; omega))
          have HB2 := Lib.hid (HB.out.setCell (p := ⟨bw, k, none⟩) gw (.int .i64 (Z.getD k 0 + O.getD k 0)))
          generalize Z.getD k 0 = z at c1 z0 z1 HS2 HV2 HB2
          generalize O.getD k 0 = o at c2 o0 o1 HS2 HV2 HB2
          clear hta
          have hk1 : (k : Int) < ws.length := by omega
          have hk0 : (0 : Int) ≤ k := by omega
          go_wp2_with fail
          go_roundw
          case rel => exact ⟨k + 1, by omega, by go_num, HS2, HV2, HB2⟩
          case measure => simp [intOf]; omega
        · obtain rfl : k = ws.length := by omega
          have HK5 := Lib.hid (show Cs wr B bc bw bm cw cm T K by
            have h := HK.out
            rw [← HZl.out, Cw.mix_end HTZ.out] at h
            exact h)
          go_wp2_with fail
          go_end0
          exact ⟨rfl, HK5.out, HB.out⟩
end Go.Proofs.Ytgkldgljebhcgaa
