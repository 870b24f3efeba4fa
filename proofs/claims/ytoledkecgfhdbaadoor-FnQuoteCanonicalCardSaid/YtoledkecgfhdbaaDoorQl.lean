/- The laws of the texts of prices. -/
import Derived.Test.YtoledkecgfhdbaaDoorQx
import Derived.Test.YtoledkecgfhdbaaDoorQc
import Derived.Test.YtoledkecgfhdbaaDoorMu
namespace Go.Proofs.YtoledkecgfhdbaaDoor
open Go.RowKit
set_option maxHeartbeats 400000 in
theorem drawFQ_any (w : World) (a : Option Addr) (len cap : Nat) (zs : List Int) (h : IsRow .u8 w a len cap zs) :
    Calls Tryd.prog 7 #[.slice a len cap] w (Drawn1 (-1) 19201 w) := by
  have H := Lib.hid h; clear h
  go_enter Tryd.func7, Tryd.ntmps7
  go_wp2_with fail
  refine (newReader_any _ _ _ _ _ H.out).mono ?_
  rintro e w1 ⟨g, rfl, hg, hr, hb⟩
  go_wp2_with fail
  refine (anyQuote_any _ _ _ hr (by omega)).mono ?_
  rintro e w2 ⟨x, rfl, hx, -, hg2⟩
  go_wp2_with fail
  go_ret
  exact ⟨x, rfl, hx, below_grown hb hg2 hg⟩
/-- A text drawn out of a law's input. -/
def TextD (N : Nat) (w : World) (e : Ending) (w' : World) : Prop := ∃ l : List UInt8, e = .returned (str l) ∧ l.length ≤ N ∧ Below w.heap.size w w'
theorem Qt.fmt_len (n : Int) : (Qt.fmt n).length ≤ 7 := by
  unfold Qt.fmt
  split
  · rename_i h
    have := btw_iff.1 h
    exact (Qt.txt_len (n := n.toNat) (by omega)).2
  · simp
theorem str_back (s : ByteArray) : Value.string s = str s.data.toList := by simp
set_option maxHeartbeats 1000000 in
theorem drawPQ_any (w : World) (a : Option Addr) (len cap : Nat) (zs : List Int) (h : IsRow .u8 w a len cap zs) :
    Calls Tryd.prog 11 #[.slice a len cap] w (TextD 9 w) := by
  have H := Lib.hid h; clear h
  go_enter Tryd.func11, Tryd.ntmps11
  go_wp2_with fail
  refine (newReader_any _ _ _ _ _ H.out).mono ?_
  rintro e w1 ⟨g, rfl, hg, hr, hb⟩
  have hgl := hr.lt
  go_wp2_with fail
  refine (anyQuote_any _ _ _ hr (by omega)).mono ?_
  rintro e w2 ⟨x, rfl, hx, hr2, hg2⟩
  have hb2 := below_grown hb hg2 hg
  have hgl2 := hr2.lt
  clear hb hg2 hr
  obtain ⟨F, hF⟩ : ∃ F, Qt.fmt x = F := ⟨_, rfl⟩
  have hFl : F.length ≤ 7 := by rw [← hF]; exact Qt.fmt_len x
  have HF := Lib.hid hF; clear hF
  go_wp2_with fail
  refine (sfmtQ_any x _).mono ?_
  rw [HF.out]
  rintro e w3 ⟨rfl, hb⟩
  have hr3 := hr2.below hb hgl2
  have hb3 := hb2.trans (hb.mono hb2.size)
  have hgl3 := hr3.lt
  clear hb hb2 hr2
  go_wp2_with fail
  refine (pick_any _ _ _ _ hr3 (by omega) (by omega) (by omega)).mono ?_
  rintro e w4 ⟨v, rfl, -, hr4, hg4⟩
  have hb4 := below_grown hb3 hg4 hg
  have hgl4 := hr4.lt
  clear hb3 hg4 hr3
  by_cases c0 : v = 0
  · subst c0
    go_wp2_with fail
    refine (mutate_any _ _ _ _ hr4 (by omega) (by rw [str_size]; omega)).mono ?_
    rintro e w5 ⟨s, rfl, hs, -, hg5⟩
    have hb5 := below_grown hb4 hg5 hg
    go_wp2_with fail
    go_ret
    refine ⟨s.data.toList, str_back s ▸ rfl, ?_, hb5⟩
    rw [str_size F] at hs
    have e1 : s.data.toList.length = s.size := Array.length_toList
    omega
  · have e0 : (v == 0) = false := by simp [c0]
    go_wp2_with fail
    go_ret
    exact ⟨F, rfl, by omega, hb4⟩
set_option maxHeartbeats 2000000 in
theorem lawQuoteRound (a : Option Addr) (len cap : Nat) (zs : List Int) (w : World) (h : IsRow .u8 w a len cap zs) (hT : TabP w) :
    Calls Tryd.prog 3 #[.slice a len cap] w fun e w' => e = .returned (.bool true) ∧ Below w.heap.size w w' := by
  have H := Lib.hid h; clear h
  have HT := Lib.hid hT
  have hgw := hT.lt
  clear hT
  by_cases hl : 1048576 < (len : Int)
  · go_enter Tryd.func3, Tryd.ntmps3
    go_wp2_with fail
    go_ret
    exact ⟨rfl, Below.refl _ _⟩
  · have hl' := decide_eq_false hl
    clear hl
    go_enter Tryd.func3, Tryd.ntmps3
    go_wp2_with fail
    refine (drawFQ_any _ _ _ _ _ H.out).mono ?_
    rintro e w1 ⟨n, rfl, ⟨n0, n1⟩, hb1⟩
    cases h : btw n 0 19200 with
    | false =>
      have E := Lib.hid (Qt.fmt_no h); clear h
      go_wp2_with fail
      refine (fmtQ_any n _ (HT.out.below hb1 hgw)).mono ?_
      rw [E.out]
      rintro e w2 ⟨rfl, hb⟩
      have hb2 := hb1.trans (hb.mono hb1.size)
      clear hb hb1
      go_wp2_with fail
      refine (sfmtQ_any n _).mono ?_
      rw [E.out]
      rintro e w3 ⟨rfl, hb⟩
      have hb3 := hb2.trans (hb.mono hb2.size)
      clear hb hb2
      go_wp2_with fail
      refine (sfmtQ_any n _).mono ?_
      rw [E.out]
      rintro e w4 ⟨rfl, hb⟩
      have hb4 := hb3.trans (hb.mono hb3.size)
      clear hb hb3
      go_wp2_with fail
      go_ret
      exact ⟨rfl, hb4⟩
    | true =>
      obtain ⟨m0, m1⟩ := btw_iff.1 h
      obtain ⟨F, hF⟩ : ∃ F, Qt.fmt n = F := ⟨_, rfl⟩
      have hF2 : F = Qt.txt n.toNat := by rw [← hF, Qt.fmt_yes h]
      obtain ⟨l0, l1⟩ := Qt.txt_len (n := n.toNat) (by omega)
      rw [← hF2] at l0 l1
      have EV := Lib.hid (show Qt.val Qt.read F = n by rw [hF2, Qt.val_txt (by omega)]; omega)
      have HF := Lib.hid hF; clear hF hF2 h
      have hne : F ≠ [] := by intro q; rw [q] at l0; simp at l0
      obtain ⟨c, t, hc⟩ : ∃ c t, F = c :: t := by
        cases F with
        | nil => exact absurd rfl hne
        | cons c t => exact ⟨c, t, rfl⟩
      subst hc
      simp only [List.length_cons] at l0 l1
      have d1 : decide ((t.length : Int) + 1 ≤ 7) = true := decide_eq_true (by omega)
      have q0 : (n == n) = true := by simp
      clear hne
      go_wp2_with fail
      refine (fmtQ_any n _ (HT.out.below hb1 hgw)).mono ?_
      rw [HF.out]
      rintro e w2 ⟨rfl, hb⟩
      have hb2 := hb1.trans (hb.mono hb1.size)
      clear hb hb1
      go_wp2_with fail
      refine (sfmtQ_any n _).mono ?_
      rw [HF.out]
      rintro e w3 ⟨rfl, hb⟩
      have hb3 := hb2.trans (hb.mono hb2.size)
      clear hb hb2
      go_wp2_with fail
      refine (parseQ_any _ _ (HT.out.below hb3 hgw)).mono ?_
      rw [EV.out]
      rintro e w4 ⟨rfl, hb⟩
      have hb4 := hb3.trans (hb.mono hb3.size)
      clear hb hb3
      go_wp2_with fail
      go_ret
      exact ⟨rfl, hb4⟩
set_option maxHeartbeats 2000000 in
theorem lawQuoteCanon (a : Option Addr) (len cap : Nat) (zs : List Int) (w : World) (h : IsRow .u8 w a len cap zs) (hT : TabP w) :
    Calls Tryd.prog 4 #[.slice a len cap] w fun e w' => e = .returned (.bool true) ∧ Below w.heap.size w w' := by
  have H := Lib.hid h; clear h
  have HT := Lib.hid hT
  have hgw := hT.lt
  clear hT
  by_cases hl : 1048576 < (len : Int)
  · go_enter Tryd.func4, Tryd.ntmps4
    go_wp2_with fail
    go_ret
    exact ⟨rfl, Below.refl _ _⟩
  · have hl' := decide_eq_false hl
    clear hl
    go_enter Tryd.func4, Tryd.ntmps4
    go_wp2_with fail
    refine (drawPQ_any _ _ _ _ _ H.out).mono ?_
    rintro e w1 ⟨l, rfl, hll, hb1⟩
    obtain ⟨v, hv⟩ : ∃ v, Qt.val Qt.read l = v := ⟨_, rfl⟩
    have q1 : (v != v) = false := by simp
    have hcase : v = -1 ∨ (0 ≤ v ∧ v ≤ 19200 ∧ Qt.fmt v = l) := by
      rw [← hv]
      cases hc : Qt.conf (Qt.read l) l with
      | false => exact .inl (Qt.val_no hc)
      | true =>
        obtain ⟨r0, r1, r2⟩ := Qt.conf_iff.1 hc
        rw [Qt.val_yes hc]
        exact .inr ⟨r0, r1, by rw [Qt.fmt_yes (btw_t r0 r1)]; exact r2⟩
    have HV := Lib.hid hv; clear hv
    rcases hcase with rfl | ⟨v0, v1, v2⟩
    · go_wp2_with fail
      refine (parseQ_any _ _ (HT.out.below hb1 hgw)).mono ?_
      rw [HV.out]
      rintro e w2 ⟨rfl, hb⟩
      have hb2 := hb1.trans (hb.mono hb1.size)
      clear hb hb1
      go_wp2_with fail
      refine (sparseQ_any _ _).mono ?_
      rw [HV.out]
      rintro e w3 ⟨rfl, hb⟩
      have hb3 := hb2.trans (hb.mono hb2.size)
      clear hb hb2
      go_wp2_with fail
      go_ret
      exact ⟨rfl, hb3⟩
    · have hvn : ¬ v < 0 := by omega
      have HF := Lib.hid v2; clear v2
      go_wp2_with fail
      refine (parseQ_any _ _ (HT.out.below hb1 hgw)).mono ?_
      rw [HV.out]
      rintro e w2 ⟨rfl, hb⟩
      have hb2 := hb1.trans (hb.mono hb1.size)
      clear hb hb1
      go_wp2_with fail
      refine (sparseQ_any _ _).mono ?_
      rw [HV.out]
      rintro e w3 ⟨rfl, hb⟩
      have hb3 := hb2.trans (hb.mono hb2.size)
      clear hb hb2
      go_wp2_with fail
      refine (fmtQ_any v _ (HT.out.below hb3 hgw)).mono ?_
      rw [HF.out]
      rintro e w4 ⟨rfl, hb⟩
      have hb4 := hb3.trans (hb.mono hb3.size)
      clear hb hb3
      go_wp2_with fail
      go_ret
      exact ⟨by simp, hb4⟩
end Go.Proofs.YtoledkecgfhdbaaDoor
