/- The law of needs in reverse order. -/
import Derived.Test.YthlnmbnaimobgaaFwM
namespace Go.Proofs.Ythlnmbnaimobgaa
open Go.RowKit
theorem rev_take {ps : List Pr} {k : Nat} (hk : k < ps.length) : ps.reverse.take (k + 1) = ps.reverse.take k ++ [ps.getD (ps.length - 1 - k) pr0] := by
  rw [List.take_add_one, List.getElem?_reverse hk, List.getD_eq_getElem?_getD, List.getElem?_eq_getElem (by omega)]
  rfl
set_option maxRecDepth 8000 in
set_option maxHeartbeats 4000000 in
theorem lawCashNeedSorted (a : Option Addr) (len cap : Nat) (zs : List Int) (w : World) (h : IsRow .u8 w a len cap zs) :
    Calls Try.prog 15 #[.slice a len cap] w fun e w' => e = .returned (.bool true) ∧ Below w.heap.size w w' := by
  have H := Lib.hid h; clear h
  by_cases hl : 1048576 < (len : Int)
  · go_enter Try.func15, Try.ntmps15
    go_wp2_with fail
    go_ret
    exact ⟨rfl, Below.refl _ _⟩
  · have hl' := decide_eq_false hl
    clear hl
    go_enter Try.func15, Try.ntmps15
    go_wp2_with fail
    refine (drawCN_any _ _ _ _ _ H.out).mono ?_
    rintro e w1 ⟨v, ps, rfl, hF, hlen, hI, ⟨vb, vc, rfl⟩, hb1⟩
    have R1 := Lib.hid hF.r2.o
    have hm : ps.length ≤ 9223372036854775807 := by omega
    have hn0 : (Fl.need ps != Fl.need ps) = false := by simp
    have hn1 : (Fl.need ps == Fl.need ps) = true := by simp
    have HRV := Lib.hid (Fl.need_rev ps)
    clear hF hI
    go_wp2_with fail
    refine (need_any _ _ _ R1.out hm).mono ?_
    rintro e w2 ⟨rfl, hb2⟩
    have R2 := Lib.hid (R1.out.below hb2 (Nat.le_refl _))
    have hb3 := hb1.trans (hb2.mono hb1.size)
    clear hb2
    go_wp2_with fail
    refine (sneed_any _ _ _ R2.out hm).mono ?_
    rintro e w4 ⟨rfl, hb4⟩
    have R4 := Lib.hid (R2.out.below hb4 (Nat.le_refl _))
    have hb5 := hb3.trans (hb4.mono hb3.size)
    clear hb4 hb3
    have HF0 := Lib.hid (TRow2.new 53 w4)
    go_wp2_with fail
    go_loopw [5, 6] (fun o y wr => ∃ (k : Nat), k ≤ ps.length ∧ y = .int .i64 ((ps.length : Int) - 1 - k) ∧ Hid (TRow2 53 wr w4.heap.size o (ps.reverse.take k)) ∧ Below w4.heap.size w4 wr) (fun _ y _ => (intOf y + 1).toNat)
    case atStart => exact ⟨0, Nat.zero_le _, by go_num, HF0, (Below.refl _ _).alloc (Nat.le_refl _) _⟩
    case round =>
      obtain ⟨k, hk, rfl, HF, hb⟩ := hrel
      by_cases hlt : k < ps.length
      · have hlt' : ¬ ((ps.length : Int) - 1 - k < 0) := by omega
        have hge : (0 : Int) ≤ (ps.length : Int) - 1 - k := by omega
        obtain ⟨j, hj⟩ : ∃ j : Nat, (ps.length : Int) - 1 - k = j := ⟨ps.length - 1 - k, by omega⟩
        have hjl : j < ps.length := by omega
        have hjk : j = ps.length - 1 - k := by omega
        rw [hj] at hlt' hge ⊢
        have HJ := Lib.hid hj; clear hj
        have HJK := Lib.hid hjk; clear hjk
        have RR := Lib.hid (R4.out.below hb (Nat.le_refl _))
        obtain ⟨bb, off, c, e, hbb, hc⟩ := RR.out.2 (by omega)
        simp only [Value.slice.injEq, true_and] at e
        obtain ⟨e2, rfl⟩ := e
        simp only [Option.some.injEq, Addr.mk.injEq, and_true] at e2
        obtain ⟨rfl, rfl⟩ := e2
        obtain ⟨c0, c1⟩ := hc j hjl
        simp only [Nat.zero_add] at c0 c1
        clear hc
        have HT := Lib.hid (rev_take (ps := ps) hlt)
        rw [← HJK.out] at HT
        have hlk : (ps.reverse.take k).length = k := by simp; omega
        have HLK := Lib.hid hlk; clear hlk
        generalize ps.getD j pr0 = p at c0 c1 HT
        obtain ⟨d, m⟩ := p
        simp only at c0 c1
        have hsz := hb.size
        go_wp2_with (at_builtin; refine wpList_pushFlow _ rfl _ _ rfl w4.heap.size _ (ps.reverse.take k) rfl (HF.out.alloc _) wr.heap.size _ (d, m) rfl (newFlow_cells wr (d, m)) (by rw [HLK.out]; omega) (by simp; omega) ?_; intro v5 w5 hown5 hne5 hg5 hv5)
        have HO5 := Lib.hid hown5
        have HG5 := Lib.hid hg5
        clear hv5 hown5 hg5 hne5
        go_roundw
        case rel =>
          refine ⟨k + 1, by omega, by have := HJ.out; go_num, by rw [HT.out]; exact HO5, ?_⟩
          exact (hb.alloc hb.size _).grown HG5.out (by simp; omega) (fun i hi => (World.ownsRow.lt HF.out i hi).1)
        case measure => simp [intOf] <;> omega
      · obtain rfl : k = ps.length := by omega
        have hlt' : (ps.length : Int) - 1 - (ps.length : Int) = -1 := by omega
        rw [hlt']
        clear hlt'
        have RF := Lib.hid (show R2o wr _ ps.reverse by have h := HF.out.r2.o; rwa [List.take_of_length_le (by simp)] at h)
        go_wp2_with fail
        refine (need_any _ _ _ RF.out (by simpa using hm)).mono ?_
        rw [HRV.out]
        rintro e w6 ⟨rfl, hb6⟩
        have hb7 := hb5.trans ((hb.trans (hb6.mono hb.size)).mono hb5.size)
        go_wp2_with fail
        go_ret
        exact ⟨rfl, hb7⟩
end Go.Proofs.Ythlnmbnaimobgaa
