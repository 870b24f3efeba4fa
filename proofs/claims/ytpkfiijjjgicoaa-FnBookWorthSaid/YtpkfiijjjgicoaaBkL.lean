/- The laws of books: what they are worth. -/
import Derived.Test.YtpkfiijjjgicoaaBkD
import Derived.Test.YtpkfiijjjgicoaaBk
namespace Go.Proofs.Ytpkfiijjjgicoaa
open Go.RowKit
theorem R3.cut {w : World} {b c n k : Nat} {ps : List Tri} (h : R3 w (.slice (some ⟨b, 0, none⟩) n c) ps) (hn : n = ps.length) (hk : k ≤ n) : R3o w (.slice (some ⟨b, 0, none⟩) k c) (ps.take k) := by
  have hl : (ps.take k).length = k := by rw [List.length_take]; omega
  refine ⟨⟨some ⟨b, 0, none⟩, c, by rw [hl]⟩, fun h0 => ?_⟩
  obtain ⟨b', c', e, hb, hc⟩ := h.2 (by omega)
  simp only [Value.slice.injEq, Option.some.injEq, Addr.mk.injEq, and_true] at e
  obtain ⟨rfl, -, rfl⟩ := e
  refine ⟨b, 0, c, by rw [hl], hb, fun i hi => ?_⟩
  have := hc i (by omega)
  rw [show (ps.take k).getD i t0 = ps.getD i t0 by rw [List.getD_eq_getElem?_getD, List.getElem?_take, if_pos (by omega), List.getD_eq_getElem?_getD]]
  simpa using this
theorem R3.rest {w : World} {b c n k : Nat} {ps : List Tri} (h : R3 w (.slice (some ⟨b, 0, none⟩) n c) ps) (hn : n = ps.length) (hk : k ≤ n) (d : Nat) : R3o w (.slice (some ⟨b, k * 3, none⟩) (n - k) d) (ps.drop k) := by
  have hl : (ps.drop k).length = n - k := by rw [List.length_drop, hn]
  refine ⟨⟨some ⟨b, k * 3, none⟩, d, by rw [hl]⟩, fun h0 => ?_⟩
  obtain ⟨b', c', e, hb, hc⟩ := h.2 (by omega)
  simp only [Value.slice.injEq, Option.some.injEq, Addr.mk.injEq, and_true] at e
  obtain ⟨rfl, -, rfl⟩ := e
  refine ⟨b, k * 3, d, by rw [hl], hb, fun i hi => ?_⟩
  obtain ⟨c0, c1, c2⟩ := hc (k + i) (by omega)
  rw [show (ps.drop k).getD i t0 = ps.getD (k + i) t0 by rw [List.getD_eq_getElem?_getD, List.getElem?_drop, List.getD_eq_getElem?_getD]]
  rw [Nat.add_mul] at c0 c1 c2
  exact ⟨c0, c1, c2⟩
theorem R3o.none {w : World} {a : Option Addr} {n c : Nat} {ps : List Tri} (hn : ps.length = n) (h0 : n = 0) : R3o w (.slice a n c) ps := ⟨⟨a, c, by rw [hn]⟩, fun h => by omega⟩
theorem Bk.ok_take {ps : List Tri} (h : Bk.ok ps = true) (k : Nat) : Bk.ok (ps.take k) = true := by
  obtain ⟨hl, ha⟩ := Bk.parts h
  unfold Bk.ok
  rw [Bool.and_eq_true, btw_iff, List.length_take]
  exact ⟨by omega, List.all_eq_true.2 fun p hp => List.all_eq_true.1 ha p (List.mem_of_mem_take hp)⟩
theorem Bk.ok_drop {ps : List Tri} (h : Bk.ok ps = true) (k : Nat) : Bk.ok (ps.drop k) = true := by
  obtain ⟨hl, ha⟩ := Bk.parts h
  unfold Bk.ok
  rw [Bool.and_eq_true, btw_iff, List.length_drop]
  exact ⟨by omega, List.all_eq_true.2 fun p hp => List.all_eq_true.1 ha p (List.mem_of_mem_drop hp)⟩
theorem Bk.all_bd {ps : List Tri} (h : Bk.ok ps = true) : -8000000000 ≤ Bk.sum ps ∧ Bk.sum ps ≤ 8000000000 := by
  obtain ⟨hl, ha⟩ := Bk.parts h
  have := Bk.bd ha ps.length (Nat.le_refl _)
  rw [List.take_length] at this
  omega
set_option maxRecDepth 8000 in
set_option maxHeartbeats 4000000 in
theorem lawBookWorth (a : Option Addr) (len cap : Nat) (zs : List Int) (w : World) (h : IsRow .u8 w a len cap zs) :
    Calls Try.prog 3 #[.slice a len cap] w fun e w' => e = .returned (.bool true) ∧ Below w.heap.size w w' := by
  have H := Lib.hid h; clear h
  by_cases hl : 1048576 < (len : Int)
  · go_enter Try.func3, Try.ntmps3
    go_wp2_with fail
    go_ret
    exact ⟨rfl, Below.refl _ _⟩
  · have hl' := decide_eq_false hl
    clear hl
    go_enter Try.func3, Try.ntmps3
    go_wp2_with fail
    refine (drawBW_any _ _ _ _ _ H.out).mono ?_
    rintro e w1 ⟨ps, b, c, rfl, hR, hlen, hcap, hb1⟩
    have R1 := Lib.hid hR; clear hR
    have hm : ps.length ≤ 9223372036854775807 := by omega
    have hbb : ∀ b : Int, (b != b) = false := fun b => by simp
    have hbc : ∀ b : Bool, (b != b) = false := fun b => by simp
    cases hok : Bk.ok ps with
    | false =>
      have e0 := hbb 0
      have e1 := hbc false
      have E := Lib.hid (Bk.val_no hok)
      have HK := Lib.hid hok
      clear hok hbb hbc
      go_wp2_with fail
      refine (book_any _ _ _ R1.out.o hm).mono ?_
      rw [E.out, HK.out]
      rintro e w2 ⟨rfl, hb2⟩
      have R2 := Lib.hid (R1.out.below hb2 (Nat.le_refl _))
      have hb3 := hb1.trans (hb2.mono hb1.size)
      clear hb2
      go_wp2_with fail
      refine (sbook_any _ _ _ R2.out.o hm).mono ?_
      rw [E.out, HK.out]
      rintro e w4 ⟨rfl, hb4⟩
      go_wp2_with fail
      go_ret
      exact ⟨rfl, hb3.trans (hb4.mono hb3.size)⟩
    | true =>
      have e0 := hbb (Bk.sum ps)
      have e1 := hbc true
      have E := Lib.hid (Bk.val_yes hok)
      have HK := Lib.hid hok
      obtain ⟨k, ek, hkl⟩ : ∃ k : Nat, (ps.length : Int) / 2 = (k : Int) ∧ k ≤ ps.length := ⟨ps.length / 2, by omega, by omega⟩
      have HKT := Lib.hid (Bk.ok_take hok k)
      have HKD := Lib.hid (Bk.ok_drop hok k)
      obtain ⟨t1, t2⟩ := Bk.all_bd HKT.out
      obtain ⟨d1, d2⟩ := Bk.all_bd HKD.out
      have hsum : Bk.sum (ps.take k) + Bk.sum (ps.drop k) = Bk.sum ps := by rw [← Bk.app, List.take_append_drop]
      have HSum := Lib.hid hsum
      have esum : (Bk.sum (ps.take k) + Bk.sum (ps.drop k) == Bk.sum ps) = true := by rw [hsum]; simp
      clear hok hbb hbc hsum
      have hlT : (ps.take k).length ≤ 9223372036854775807 := by rw [List.length_take]; omega
      have hlD : (ps.drop k).length ≤ 9223372036854775807 := by rw [List.length_drop]; omega
      have hkc : k ≤ c := by omega
      go_wp2_with fail
      refine (book_any _ _ _ R1.out.o hm).mono ?_
      rw [E.out, HK.out]
      rintro e w2 ⟨rfl, hb2⟩
      have R2 := Lib.hid (R1.out.below hb2 (Nat.le_refl _))
      have hb3 := hb1.trans (hb2.mono hb1.size)
      clear hb2
      go_wp2_with fail
      refine (sbook_any _ _ _ R2.out.o hm).mono ?_
      rw [E.out, HK.out]
      rintro e w4 ⟨rfl, hb4⟩
      have R4 := Lib.hid (R2.out.below hb4 (Nat.le_refl _))
      have hb5 := hb3.trans (hb4.mono hb3.size)
      clear hb4 hb3
      go_wp2_with fail
      refine (book_any _ _ _ (R4.out.cut rfl hkl) hlT).mono ?_
      rw [Bk.val_yes HKT.out, HKT.out]
      rintro e w6 ⟨rfl, hb6⟩
      have R6 := Lib.hid (R4.out.below hb6 (Nat.le_refl _))
      have hb7 := hb5.trans (hb6.mono hb5.size)
      clear hb6 hb5
      go_wp2_with fail
      all_goals
        first
        | with_reducible refine (book_any _ _ _ (R6.out.rest rfl hkl _) hlD).mono ?_
        | with_reducible refine (book_any _ _ _ (R3o.none (by rw [List.length_drop]) (by omega)) hlD).mono ?_
        rw [Bk.val_yes HKD.out, HKD.out]
        rintro e w8 ⟨rfl, hb8⟩
        go_wp2_with fail
        go_ret
        exact ⟨rfl, hb7.trans (hb8.mono hb7.size)⟩
end Go.Proofs.Ytpkfiijjjgicoaa
