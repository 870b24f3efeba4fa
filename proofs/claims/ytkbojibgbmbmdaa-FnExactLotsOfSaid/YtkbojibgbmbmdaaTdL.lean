/- The law of valid trades. -/
import Derived.Test.YtkbojibgbmbmdaaTdE
namespace Go.Proofs.Ytkbojibgbmbmdaa
open Go.RowKit
theorem R3o.take {w : World} {a : Option Addr} {ps : List Tri} {c : Nat} (h : R3o w (.slice a ps.length c) ps) {k : Nat} (hk : k ≤ ps.length) (c' : Nat) : R3o w (.slice a k c') (ps.take k) := by
  have hl : (ps.take k).length = k := by rw [List.length_take]; omega
  refine ⟨⟨a, c', by rw [hl]⟩, fun h0 => ?_⟩
  rw [hl] at h0
  obtain ⟨b, off, c2, e, hb, hc⟩ := h.2 (by omega)
  simp only [Value.slice.injEq, true_and] at e
  obtain ⟨rfl, rfl⟩ := e
  refine ⟨b, off, c', by rw [hl], hb, fun i hi => ?_⟩
  rw [hl] at hi
  have e2 : (ps.take k).getD i t0 = ps.getD i t0 := by rw [List.getD_eq_getElem?_getD, List.getD_eq_getElem?_getD, List.getElem?_take, if_pos hi]
  rw [e2]
  exact hc i (by omega)
theorem Td.ok_take {ps : List Tri} (h : Td.ok ps = true) (k : Nat) : Td.ok (ps.take k) = true := by
  unfold Td.ok at h ⊢
  rw [Bool.and_eq_true, Bool.and_eq_true, decide_eq_true_eq] at h ⊢
  refine ⟨by rw [List.length_take]; omega, List.all_eq_true.2 fun x hx => List.all_eq_true.1 h.2.1 x (List.mem_of_mem_take hx), Td.asc_iff.2 fun i hi => ?_⟩
  rw [List.length_take] at hi
  have ha := Td.asc_iff.1 h.2.2 i (by omega)
  rw [List.getD_eq_getElem?_getD, List.getD_eq_getElem?_getD, List.getElem?_take, List.getElem?_take, if_pos (by omega), if_pos (by omega), ← List.getD_eq_getElem?_getD, ← List.getD_eq_getElem?_getD]
  exact ha
set_option maxRecDepth 8000 in
set_option maxHeartbeats 4000000 in
theorem lawValidTrades (a : Option Addr) (len cap : Nat) (zs : List Int) (w : World) (h : IsRow .u8 w a len cap zs) :
    Calls Try.prog 3 #[.slice a len cap] w fun e w' => e = .returned (.bool true) ∧ Below w.heap.size w w' := by
  have H := Lib.hid h; clear h
  by_cases hl : 1048576 < (len : Int)
  · go_enter Try.func3, Try.ntmps3
    go_wp2_with fail
    go_ret
    exact ⟨rfl, Below.refl _ _⟩
  · have hl' := decide_eq_false hl
    clear hl
    go_enter Try.func3, Try.ntmps3
    go_wp2_with fail
    refine (drawVT_any _ _ _ _ _ H.out).mono ?_
    rintro e w1 ⟨b, c, ps, rfl, hF, hln, hI, hb1⟩
    have R1 := Lib.hid hF.r3.o
    have HB1 := Lib.hid hb1
    have HFm := Lib.hid hF
    have hm : ps.length ≤ 9223372036854775807 := by omega
    clear hF hI hb1
    go_wp2_with fail
    refine (vtrades_any _ _ _ R1.out hm).mono ?_
    rintro e w2 ⟨rfl, hb2⟩
    have R2 := Lib.hid (R1.out.below hb2 (Nat.le_refl _))
    have HB2 := Lib.hid (HB1.out.trans (hb2.mono HB1.out.size))
    clear hb2
    go_wp2_with fail
    refine (sVTrades_any _ _ _ R2.out hm).mono ?_
    rintro e w3 ⟨rfl, hb3⟩
    have R3 := Lib.hid (R2.out.below hb3 (Nat.le_refl _))
    have HB3 := Lib.hid (HB2.out.trans (hb3.mono HB2.out.size))
    clear hb3
    have SV := Lib.hid (sVTrades_any _ _ _ R3.out hm)
    cases h0 : Td.ok ps with
    | false =>
      rw [h0] at SV
      clear h0
      go_wp2_with fail
      refine SV.out.mono ?_
      rintro e w4 ⟨rfl, hb4⟩
      go_wp2_with fail
      go_ret
      exact ⟨rfl, HB3.out.trans (hb4.mono HB3.out.size)⟩
    | true =>
      rw [h0] at SV
      by_cases hz : ps.length = 0
      · have hz' : ((ps.length : Int) == 0) = true := by rw [hz]; rfl
        clear h0 hz
        go_wp2_with fail
        refine SV.out.mono ?_
        rintro e w4 ⟨rfl, hb4⟩
        go_wp2_with fail
        go_ret
        exact ⟨rfl, HB3.out.trans (hb4.mono HB3.out.size)⟩
      · have hz' : ((ps.length : Int) == 0) = false := by simp only [beq_eq_false_iff_ne, ne_eq]; omega
        have HTk := Lib.hid (vtrades_any w3 _ _ (R3.out.take (show ps.length - 1 ≤ ps.length by omega) c) (by rw [List.length_take]; omega))
        rw [Td.ok_take h0] at HTk
        obtain ⟨n, hn⟩ : ∃ n, ps.length = n + 1 := ⟨ps.length - 1, by omega⟩
        obtain ⟨b', cap', e', -, -, ⟨hcc, hcm⟩, -, -⟩ := HFm.out.form (by omega)
        simp only [Value.slice.injEq, Option.some.injEq, Addr.mk.injEq, and_true, true_and] at e'
        obtain ⟨-, rfl⟩ := e'
        rw [hn] at hcc
        unfold maxLen at hcm
        rw [hn] at hz' HTk ⊢
        rw [Nat.add_sub_cancel] at HTk
        clear h0 hz hn
        go_wp2_with fail
        refine HTk.out.mono ?_
        rintro e w4 ⟨rfl, hb4⟩
        go_wp2_with fail
        go_ret
        exact ⟨rfl, HB3.out.trans (hb4.mono HB3.out.size)⟩
end Go.Proofs.Ytkbojibgbmbmdaa
