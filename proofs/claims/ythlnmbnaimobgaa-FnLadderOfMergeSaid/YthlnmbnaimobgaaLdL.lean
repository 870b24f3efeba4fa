/- The law of ladders: all payments. -/
import Derived.Test.YthlnmbnaimobgaaLdD
import Derived.Test.YthlnmbnaimobgaaLd3
namespace Go.Proofs.Ythlnmbnaimobgaa
open Go.RowKit
theorem sum_set1 : ∀ (xs : List Int) (i : Nat) (m : Int), i < xs.length → (xs.set i (xs.getD i 0 + m)).sum = xs.sum + m
  | [], i, m, h => by simp at h
  | x :: xs, 0, m, _ => by simp; omega
  | x :: xs, i + 1, m, h => by
    have ih := sum_set1 xs i m (by simpa using h)
    simp only [List.getD_cons_succ, List.set_cons_succ, List.sum_cons]
    omega
/-- All amounts. -/
def Fl.tot (ps : List Pr) : Int := (ps.map fun p => p.2).sum
theorem Fl.tot_take {ps : List Pr} {i : Nat} (hi : i < ps.length) : Fl.tot (ps.take (i + 1)) = Fl.tot (ps.take i) + (ps.getD i pr0).2 := by
  have : ps.take (i + 1) = ps.take i ++ [ps.getD i pr0] := by
    rw [List.take_add_one, List.getD_eq_getElem?_getD, List.getElem?_eq_getElem hi]; rfl
  unfold Fl.tot
  rw [this, List.map_append, List.sum_append]
  simp
theorem Fl.tot_bd {ps : List Pr} (h : Fl.ok ps = true) : ∀ i : Nat, i ≤ ps.length → -1000000000 * (i : Int) ≤ Fl.tot (ps.take i) ∧ Fl.tot (ps.take i) ≤ 1000000000 * (i : Int)
  | 0, _ => by simp [Fl.tot]
  | i + 1, hi => by
    have ih := Fl.tot_bd h i (by omega)
    have o := (Fl.parts h).2 i (by omega)
    rw [Fl.tot_take (by omega)]
    omega
theorem Ld.sum_all (ps : List Pr) (es : List Int) : ∀ i : Nat, i ≤ ps.length → (Ld.sums ps es i).sum = Fl.tot (ps.take i)
  | 0, _ => by simp [Ld.sums, Fl.tot]
  | i + 1, hi => by
    have ih := Ld.sum_all ps es i (by omega)
    unfold Ld.sums
    rw [sum_set1 _ _ _ (by rw [Ld.len]; have := Ld.at_le es (ps.getD i pr0).1; omega), ih, Fl.tot_take (by omega)]
theorem Ld.one (ps : List Pr) (h : Fl.ok ps = true) : Ld.val ps [] = [Fl.tot ps] := by
  have hok : Ld.ok ps [] = true := by unfold Ld.ok; rw [h]; rfl
  rw [Ld.yes hok]
  have hl := Ld.len ps [] ps.length
  have hs := Ld.sum_all ps [] ps.length (Nat.le_refl _)
  rw [List.take_of_length_le (Nat.le_refl _)] at hs
  match hx : Ld.sums ps [] ps.length, hl with
  | [x], _ => rw [hx] at hs; simp at hs; rw [hs]
theorem lit_int (w : World) (x : Int) : R1o (w.alloc (.cells #[.int .i64 x] 3)) (.slice (some ⟨w.heap.size, 0, none⟩) 1 1) [x] :=
  ⟨⟨_, _, rfl⟩, fun _ => ⟨w.heap.size, 0, 1, rfl, by simp, fun i hi => by
    obtain rfl : i = 0 := by simpa using hi
    exact (Blk.new w #[.int .i64 x] 3).one0⟩⟩
set_option maxRecDepth 8000 in
set_option maxHeartbeats 4000000 in
theorem lawLadderOf (a : Option Addr) (len cap : Nat) (zs : List Int) (w : World) (h : IsRow .u8 w a len cap zs) :
    Calls Try.prog 11 #[.slice a len cap] w fun e w' => e = .returned (.bool true) ∧ Below w.heap.size w w' := by
  have H := Lib.hid h; clear h
  by_cases hl : 1048576 < (len : Int)
  · go_enter Try.func11, Try.ntmps11
    go_wp2_with fail
    go_ret
    exact ⟨rfl, Below.refl _ _⟩
  · have hl' := decide_eq_false hl
    clear hl
    go_enter Try.func11, Try.ntmps11
    go_wp2_with fail
    refine (drawLd_any _ _ _ _ _ H.out).mono ?_
    rintro e w1 ⟨v, ps, ae, ce, es, rfl, hF, hlen, ⟨vb, vc, rfl⟩, hE, hle, hce, hb1⟩
    have RF := Lib.hid hF
    have RE := Lib.hid hE
    have HB := Lib.hid hb1
    clear hF hE hce hb1
    go_wp2_with fail
    refine (ladder_any _ _ _ ps es RF.out RE.out (by omega) (by omega)).mono ?_
    rintro e w2 ⟨vG, rfl, hG, hb2⟩
    replace RF := Lib.hid (RF.out.below hb2 (Nat.le_refl _))
    replace RE := Lib.hid (RE.out.below hb2 (Nat.le_refl _))
    replace HB := Lib.hid (HB.out.trans (hb2.mono HB.out.size))
    have GG := Lib.hid hG.r1
    obtain ⟨aG, cG, rfl⟩ := hG.slice
    clear hG hb2
    go_wp2_with fail
    refine (sladder_any _ _ _ ps es RF.out RE.out (by omega) (by omega)).mono ?_
    rintro e w3 ⟨vS, rfl, hS, hb3⟩
    replace RF := Lib.hid (RF.out.below hb3 (Nat.le_refl _))
    replace RE := Lib.hid (RE.out.below hb3 (Nat.le_refl _))
    replace HB := Lib.hid (HB.out.trans (hb3.mono HB.out.size))
    replace GG := Lib.hid (GG.out.below hb3 (Nat.le_refl _))
    have SS := Lib.hid hS.r1
    obtain ⟨aS, cS, rfl⟩ := hS.slice
    clear hS hb3
    have hVL : (Ld.val ps es).length ≤ 1048576 := by
      unfold Ld.val; split
      · rw [Ld.len]; omega
      · simp
    have HVL := Lib.hid hVL
    cases hok : Ld.ok ps es with
    | false =>
      have E := Lib.hid (Ld.no hok)
      rw [E.out] at GG SS ⊢
      clear hok hVL
      go_wp2_with fail
      refine (equ_same _ _ _ [] GG.out SS.out (by simp)).mono ?_
      rintro e w4 ⟨rfl, hb4⟩
      replace RF := Lib.hid (RF.out.below hb4 (Nat.le_refl _))
      replace RE := Lib.hid (RE.out.below hb4 (Nat.le_refl _))
      replace GG := Lib.hid (GG.out.below hb4 (Nat.le_refl _))
      replace HB := Lib.hid (HB.out.trans (hb4.mono HB.out.size))
      clear hb4
      go_wp2_with fail
      refine (sladder_any _ _ _ ps es RF.out RE.out (by omega) (by omega)).mono ?_
      rintro e w5 ⟨vT, rfl, hT, hb5⟩
      rw [E.out] at hT
      replace GG := Lib.hid (GG.out.below hb5 (Nat.le_refl _))
      replace HB := Lib.hid (HB.out.trans (hb5.mono HB.out.size))
      have TT := Lib.hid hT.r1
      obtain ⟨aT, cT, rfl⟩ := hT.slice
      clear hT hb5
      go_wp2_with fail
      refine (equ_same _ _ _ [] GG.out TT.out (by simp)).mono ?_
      rintro e w6 ⟨rfl, hb6⟩
      go_wp2_with fail
      go_ret
      exact ⟨rfl, HB.out.trans (hb6.mono HB.out.size)⟩
    | true =>
      have hps : Fl.ok ps = true := by unfold Ld.ok at hok; rw [Bool.and_eq_true] at hok; exact hok.1
      have hLV : (Ld.val ps es).length = es.length + 1 := by rw [Ld.yes hok, Ld.len]
      have hSum : (Ld.val ps es).sum = Fl.tot ps := by
        rw [Ld.yes hok, Ld.sum_all ps es _ (Nat.le_refl _), List.take_of_length_le (Nat.le_refl _)]
      have HBE : Hid (∀ i, i < (Ld.val ps es).length → -1000000000000000 ≤ (Ld.val ps es).getD i 0 ∧ (Ld.val ps es).getD i 0 ≤ 1000000000000000) := Lib.hid (fun i hi => by
        have b := Ld.bd hps es ps.length (Nat.le_refl _) i
        have := (Fl.parts hps).1
        rw [Ld.yes hok]
        omega)
      have HO := Lib.hid (Ld.one ps hps)
      have HP := Lib.hid (Fl.parts hps).2
      have HT := Lib.hid (fun i hi => Fl.tot_bd hps i hi)
      generalize Ld.val ps es = V at *
      have HSum := Lib.hid hSum
      have HLV := Lib.hid hLV
      have hne : ((V.length : Int) == 0) = false := by rw [hLV]; simp; omega
      have hne2 : (((es.length : Int) + 1) == 0) = false := by simp; omega
      clear hok hps hSum
      rw [hLV]
      rw [hLV] at hne
      go_wp2_with fail
      refine (equ_same _ _ _ V (by have h := GG.out; rw [HLV.out] at h; exact h) (by have h := SS.out; rw [HLV.out] at h; exact h) HVL.out).mono ?_
      rintro e w4 ⟨rfl, hb4⟩
      replace RF := Lib.hid (RF.out.below hb4 (Nat.le_refl _))
      replace GG := Lib.hid (GG.out.below hb4 (Nat.le_refl _))
      replace HB := Lib.hid (HB.out.trans (hb4.mono HB.out.size))
      clear hb4
      go_wp2_with fail
      go_loop [6, 7] (fun o y => ∃ k : Nat, k ≤ ps.length ∧ y = .int .i64 k ∧ o = .int .i64 (Fl.tot (ps.take k))) (fun _ y => ps.length - (intOf y).toNat)
      case atStart => exact ⟨0, Nat.zero_le _, rfl, by simp [Fl.tot]⟩
      case round =>
        obtain ⟨k, hk, rfl, rfl⟩ := hrel
        by_cases hlt : k < ps.length
        · obtain ⟨bb, off, c, e, hbb, hc⟩ := RF.out.2 (by omega)
          simp only [Value.slice.injEq, true_and] at e
          obtain ⟨e2, rfl⟩ := e
          simp only [Option.some.injEq, Addr.mk.injEq, and_true] at e2
          obtain ⟨rfl, rfl⟩ := e2
          obtain ⟨c0, c1⟩ := hc k hlt
          simp only [Nat.zero_add] at c0 c1
          clear hc
          obtain ⟨-, m0, m1⟩ := HP.out k hlt
          obtain ⟨s0, s1⟩ := HT.out k (by omega)
          have HTk := Lib.hid (Fl.tot_take (ps := ps) hlt)
          generalize ps.getD k pr0 = p at c0 c1 m0 m1 HTk
          obtain ⟨d, m⟩ := p
          simp only at c0 c1 m0 m1 HTk
          generalize Fl.tot (ps.take k) = Q at *
          go_wp2_with fail
          go_round
          case rel => exact ⟨k + 1, by omega, by go_num, by rw [HTk.out]⟩
          case measure => simp [intOf] <;> omega
        · have E2 : ps.take k = ps := List.take_of_length_le (by omega)
          rw [E2]
          clear E2
          have hq : (Fl.tot ps == Fl.tot ps) = true := by simp
          have hq2 : (((es.length : Int) + 1) == (es.length : Int) + 1) = true := by simp
          go_wp2_with fail
          refine (lsum_any _ _ V (by have h := GG.out; rw [HLV.out] at h; exact h) (by rw [HLV.out]; omega) HBE.out).mono ?_
          rw [HSum.out]
          rintro e w5 ⟨rfl, rfl⟩
          go_wp2_with fail
          refine (ladder_any _ _ _ ps [] RF.out ⟨⟨none, 0, rfl⟩, fun h => by simp at h⟩ (by omega) (by simp)).mono ?_
          rintro e w6 ⟨vO, rfl, hO, hb6⟩
          rw [HO.out] at hO
          have hbl := (Below.refl w6.heap.size w6).alloc (Nat.le_refl _) (.cells #[.int .i64 (Fl.tot ps)] 3)
          have OO := Lib.hid (hO.r1.below hbl (Nat.le_refl _))
          obtain ⟨aO, cO, rfl⟩ := hO.slice
          replace HB := Lib.hid ((HB.out.trans (hb6.mono HB.out.size)).alloc (HB.out.trans (hb6.mono HB.out.size)).size (.cells #[.int .i64 (Fl.tot ps)] 3))
          have LL := Lib.hid (lit_int w6 (Fl.tot ps))
          clear hO hb6 hbl
          go_wp2_with fail
          refine (equ_same _ _ _ [Fl.tot ps] OO.out LL.out (by simp)).mono ?_
          rintro e w7 ⟨rfl, hb7⟩
          go_wp2_with fail
          go_ret
          exact ⟨rfl, HB.out.trans (hb7.mono HB.out.size)⟩
end Go.Proofs.Ythlnmbnaimobgaa
