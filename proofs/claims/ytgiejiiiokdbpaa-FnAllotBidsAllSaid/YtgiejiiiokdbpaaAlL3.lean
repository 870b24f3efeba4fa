/- The law of bids that are all served. -/
import Derived.Test.YtgiejiiiokdbpaaAlL2
namespace Go.Proofs.Ytgiejiiiokdbpaa
open Go.RowKit
theorem Al.sum_ge : ∀ ps : List Pr, (∀ p ∈ ps, 1 ≤ p.2) → (ps.length : Int) ≤ Bd.sum ps
  | [], _ => by simp [Bd.sum]
  | p :: ps, h => by
    have h1 := Al.sum_ge ps (fun q hq => h q (List.mem_cons_of_mem _ hq))
    have h2 := h p (List.mem_cons_self ..)
    unfold Bd.sum at *
    rw [List.map_cons, List.sum_cons, List.length_cons]
    omega
set_option maxRecDepth 8000 in
set_option maxHeartbeats 8000000 in
theorem lawAllotBidsAll (a : Option Addr) (len cap : Nat) (zs : List Int) (w : World) (h : IsRow .u8 w a len cap zs) :
    Calls Try.prog 15 #[.slice a len cap] w fun e w' => e = .returned (.bool true) ∧ Below w.heap.size w w' := by
  have H := Lib.hid h; clear h
  by_cases hl : 1048576 < (len : Int)
  · go_enter Try.func15, Try.ntmps15
    go_wp2_with fail
    go_ret
    exact ⟨rfl, Below.refl _ _⟩
  · have hl' := decide_eq_false hl
    clear hl
    go_enter Try.func15, Try.ntmps15
    go_wp2_with fail
    refine (drawAB_any _ _ _ _ _ H.out).mono ?_
    rintro e w1 ⟨xs, ob, oc, n, rfl, hR, hlen, ⟨n0, n1⟩, hb1⟩
    have R1 := Lib.hid hR; clear hR
    have hm : xs.length ≤ 9223372036854775807 := by omega
    have hxl := Al.val_le (ps := xs) (n := n)
    go_wp2_with fail
    refine (allot_any _ _ _ _ R1.out hm).mono ?_
    rintro e w2 ⟨v2, rfl, h2, hb2⟩
    have R2 := Lib.hid (R1.out.below hb2 (Nat.le_refl _))
    have HB2 := Lib.hid (hb1.trans (hb2.mono hb1.size))
    obtain ⟨a2, c2, rfl⟩ := h2.slice
    have X2 := Lib.hid h2
    clear h2 hb2 R1
    go_wp2_with fail
    refine (sallot_any _ _ _ _ R2.out hm).mono ?_
    rintro e w3 ⟨v3, rfl, h3, hb3⟩
    have R3' := Lib.hid (R2.out.below hb3 (Nat.le_refl _))
    have HB3 := Lib.hid (HB2.out.trans (hb3.mono HB2.out.size))
    have X3 := Lib.hid (X2.out.below hb3 (Nat.le_refl _))
    have Y3 := Lib.hid h3.r1
    clear h3 hb3 X2 R2
    go_wp2_with fail
    refine (equ_same _ _ _ _ X3.out.r1 Y3.out (by omega)).mono ?_
    rintro e w4 ⟨rfl, hb4⟩
    have R4 := Lib.hid (R3'.out.below hb4 (Nat.le_refl _))
    have HB4 := Lib.hid (HB3.out.trans (hb4.mono HB3.out.size))
    have X4 := Lib.hid (X3.out.below hb4 (Nat.le_refl _))
    clear hb4 X3 R3' Y3
    by_cases h0 : (Al.val xs n).length = 0
    · have hz : (((Al.val xs n).length : Int) == 0) = true := by rw [h0]; rfl
      clear h0
      go_wp2_with fail
      refine (sallot_any _ _ _ _ R4.out hm).mono ?_
      rintro e w5 ⟨v5, rfl, h5, hb5⟩
      have X5 := Lib.hid (X4.out.below hb5 (Nat.le_refl _))
      have HB5 := Lib.hid (HB4.out.trans (hb5.mono HB4.out.size))
      have Y5 := Lib.hid h5.r1
      clear h5 hb5 hz
      go_wp2_with fail
      refine (equ_same _ _ _ _ X5.out.r1 Y5.out (by omega)).mono ?_
      rintro e w6 ⟨rfl, hb6⟩
      go_wp2_with fail
      go_ret
      exact ⟨rfl, HB5.out.trans (hb6.mono HB5.out.size)⟩
    · have hz : (((Al.val xs n).length : Int) == 0) = false := by rw [beq_eq_false_iff_ne]; omega
      have hok := Al.val_ne h0
      obtain ⟨hok1, hn⟩ := (Bool.and_eq_true _ _).mp (show (Bd.ok xs && btw n 1 1000000000) = true from hok)
      obtain ⟨l1, hall⟩ := Bd.parts hok1
      have HW := Lib.hid (Al.val_yes hok)
      have hwl := Al.res_len hok
      have l0 : 1 ≤ xs.length := by rw [HW.out, hwl] at h0; omega
      have HXb := Lib.hid (fun i (hi : i < xs.length) => Bd.one_iff.1 (allB_at pr0 hall hi))
      have HTk := Lib.hid (fun i (hi : i < xs.length) => (by have h := Al.want_take (f := fun _ => true) hi; exact h : (Al.all xs).take (i + 1) = (Al.all xs).take i ++ [(xs.getD i pr0).2]))
      have HTs := Lib.hid (show 0 ≤ ((Al.all xs).take xs.length).sum ∧ ((Al.all xs).take xs.length).sum ≤ 9999 * (xs.length : Int) from Al.want_sum (f := fun _ => true) hall (Nat.le_refl _))
      have hTe : (Al.all xs).take xs.length = Al.all xs := List.take_of_length_le (by unfold Al.all; rw [Al.want_len]; exact Nat.le_refl _)
      have HTl := Lib.hid (show (Al.all xs).length = xs.length from Al.want_len _ _)
      rw [hTe] at HTs
      have HTe := Lib.hid hTe
      have HAb := Lib.hid (fun i (hi : i < xs.length) => (show 0 ≤ (Al.all xs).getD i 0 ∧ (Al.all xs).getD i 0 ≤ 9999 from Al.want_bd (f := fun _ => true) hall hi))
      have hge : (xs.length : Int) ≤ (Al.all xs).sum := by rw [Al.sum_all]; exact Al.sum_ge xs (fun p hp => (Bd.one_iff.1 (List.all_eq_true.1 hall p hp)).2.1)
      obtain ⟨t0, t1⟩ := HTs.out
      have HV1 := Lib.hid (fun q (h1 : (Al.all xs).sum ≤ q) (h2 : q ≤ 1000000000) => (show Al.val xs q = Al.all xs from by
        have ha : Bd.auc xs q = true := by unfold Bd.auc; rw [hok1, btw_t (by omega) h2]; rfl
        rw [Al.val_yes ha]; exact Al.res_all ha (by rw [← Al.sum_all]; exact h1)))
      clear hok hn h0 hTe
      rw [HW.out] at X4 hz
      rw [HW.out]
      rw [hwl] at hz X4 ⊢
      clear hall hok1 X4 HW
      have HA4 := Lib.hid (HB4.out.alloc HB4.out.size (.cells #[] 3))
      have HO4 := Lib.hid (own_new w4)
      have hsz4 : w.heap.size ≤ w4.heap.size := HB4.out.size
      have A1 := Lib.hid (fun W (hb : Below w4.heap.size w4 W) => allot_any W (Al.all xs).sum _ xs (R4.out.below hb (Nat.le_refl _)) hm)
      have A2 := Lib.hid (fun W (hb : Below w4.heap.size w4 W) => allot_any W ((Al.all xs).sum + 1) _ xs (R4.out.below hb (Nat.le_refl _)) hm)
      rw [HV1.out _ (Int.le_refl _) (by omega)] at A1
      rw [HV1.out _ (by omega) (by omega)] at A2
      clear HV1 hge
      generalize Al.all xs = qs at *
      obtain ⟨k, hk⟩ : ∃ k, k = xs.length := ⟨_, rfl⟩
      rw [← hk] at HXb HTk HTs HTe HTl HAb hz hwl l0 l1 t1 R4 A1 A2 ⊢
      have HN := Lib.hid hk; clear hk hwl
      have HE4 := Lib.hid ((Below.refl w4.heap.size w4).alloc (Nat.le_refl _) (.cells #[] 3))
      go_wp2_with fail
      clear hz
      go_loopw [6, 7] (fun o x wr => ∃ i : Nat, i ≤ k ∧ x = .int .i64 i ∧ Hid (Own wr w4.heap.size o (qs.take i)) ∧ Hid (Below w4.heap.size w4 wr)) (fun _ x _ => k - (intOf x).toNat)
      case atStart => exact ⟨0, Nat.zero_le _, rfl, HO4, HE4⟩
      case round =>
        obtain ⟨i, hi, rfl, HO, HB⟩ := hrel
        have hql : (qs.take i).length = i := by rw [List.length_take, HTl.out]; omega
        obtain ⟨b6, c6, e6, hb6, -⟩ := HO.out.form
        rw [hql] at e6
        subst e6
        by_cases hlt : i < k
        · obtain ⟨b, off, c, e, hbl, hc⟩ := R4.out.2 (by rw [← HN.out]; omega)
          rw [← HN.out] at e
          simp only [Value.slice.injEq, Option.some.injEq, Addr.mk.injEq, and_true, true_and] at e
          obtain ⟨⟨rfl, rfl⟩, rfl⟩ := e
          have d1 := (HB.out.cell (p := ⟨ob, 0 + i * 2 + 1, none⟩) hbl).trans (hc i (by rw [← HN.out]; exact hlt)).2
          clear hc
          simp only [Nat.zero_add] at d1
          obtain ⟨-, x0, x1⟩ := HXb.out i hlt
          have htk := HTk.out i hlt
          have hpi : xs.getD i (0, 0) = xs.getD i pr0 := rfl
          rw [hpi] at d1
          clear hpi
          generalize xs.getD i pr0 = p at d1 x0 x1 htk
          obtain ⟨u, x⟩ := p
          simp only at d1 x0 x1 htk
          have HT := Lib.hid htk; clear htk
          have hi1 : (i : Int) < k := by omega
          have hi0 : (0 : Int) ≤ i := by omega
          have hKN := (Blk.new wr #[.int .i64 x] 3).one0
          have hszr := HB.out.size
          have hsz5 := (World.ownsRow.lt HO.out.1 b6 rfl).2
          go_wp2_with (at_builtin; refine wpList_push _ rfl _ _ rfl w4.heap.size _ (qs.take i) rfl (HO.out.alloc _) wr.heap.size _ x rfl hKN (by rw [hql]; omega) (by simp; omega) ?_; intro v6 w6 hown6 hg6)
          have HO6 := Lib.hid hown6
          have HB6 := Lib.hid ((HB.out.alloc hszr (.cells #[.int .i64 x] 3)).grown hg6 (by simp; omega) (fun j hj => by have hj2 : some b6 = some j := hj; injection hj2 with hj2; omega))
          clear hown6 hg6 hKN
          go_roundw
          case rel => exact ⟨i + 1, by omega, by go_num, Lib.hid (by rw [HT.out]; exact HO6.out), HB6⟩
          case measure => simp [intOf]; omega
        · obtain rfl : i = k := by omega
          have hr := HO.out.irow.r1
          rw [HTe.out] at hr
          have LS := Lib.hid (fun W (hb : Below wr.heap.size wr W) => lsum_any W _ qs (hr.below hb (Nat.le_refl _)) (by rw [HTl.out]; omega) (fun q hq => by rw [HTl.out] at hq; have := HAb.out q hq; omega))
          have HR := Lib.hid hr
          have hszr := HB.out.size
          clear hr hql
          generalize qs.sum = S at *
          have WS : IntKind.i64.wrap (S + 1) = S + 1 := IntWalk.i64_in _ (by omega)
          go_wp2_with fail
          refine (LS.out _ (Below.refl _ _)).mono ?_
          rintro e w5 ⟨rfl, rfl⟩
          go_wp2_with fail
          refine (A1.out _ HB.out).mono ?_
          rintro e w6 ⟨v6, rfl, h6, hb6'⟩
          have H6 := Lib.hid h6.r1
          have R6 := Lib.hid (HR.out.below hb6' (Nat.le_refl _))
          have HB6 := Lib.hid hb6'
          clear h6 hb6'
          go_wp2_with fail
          refine (equ_same _ _ _ _ H6.out R6.out (by rw [HTl.out]; omega)).mono ?_
          rintro e w7 ⟨rfl, hb7⟩
          have HB7 := Lib.hid (HB6.out.trans (hb7.mono HB6.out.size))
          have R7 := Lib.hid (R6.out.below hb7 (Nat.le_refl _))
          clear hb7
          go_wp2_with fail
          refine (LS.out _ HB7.out).mono ?_
          rintro e w8 ⟨rfl, rfl⟩
          go_wp2_with fail
          refine (A2.out _ (HB.out.trans (HB7.out.mono hszr))).mono ?_
          rintro e w8 ⟨v8, rfl, h8, hb8⟩
          have H8 := Lib.hid h8.r1
          have R8 := Lib.hid (R7.out.below hb8 (Nat.le_refl _))
          have HB8 := Lib.hid (HB7.out.trans (hb8.mono HB7.out.size))
          clear h8 hb8
          go_wp2_with fail
          refine (equ_same _ _ _ _ H8.out R8.out (by rw [HTl.out]; omega)).mono ?_
          rintro e w9 ⟨rfl, hb9⟩
          have HB9 := Lib.hid (HB8.out.trans (hb9.mono HB8.out.size))
          clear hb9
          go_wp2_with fail
          go_ret
          exact ⟨rfl, HB4.out.trans ((HB.out.trans (HB9.out.mono hszr)).mono hsz4)⟩
end Go.Proofs.Ytgiejiiiokdbpaa
