/- The laws of the texts of dates. -/
import Derived.Test.YtapalkohfhohhaaDoorDrD
namespace Go.Proofs.YtapalkohfhohhaaDoor
open Go.RowKit
set_option maxHeartbeats 400000 in
theorem toDateT_any (y m d : Int) (w : World) :
    Calls Tryd.prog 29 #[dtV y m d] w fun e w' => e = .returned (dtV y m d) ∧ Below w.heap.size w w' := by
  go_enter Tryd.func29, Tryd.ntmps29
  go_wp2
  refine bodyPost_ret (v := dtV y m d) (by simp [results, Tryd.results29, go_sem]) rfl ⟨rfl, ?_⟩
  repeat (refine Below.setCell ?_ (by simp <;> omega) _)
  exact (((Below.refl _ _).alloc (Nat.le_refl _) _).alloc (by simp) _).alloc (by simp; omega) _
set_option maxHeartbeats 400000 in
theorem eqDate_same (y m d : Int) (w : World) :
    Calls Tryd.prog 30 #[dtV y m d, dtV y m d] w fun e w' => e = .returned (.bool true) ∧ Below w.heap.size w w' := by
  have e1 : (y != y) = false := by simp
  have e2 : (m != m) = false := by simp
  have e3 : (d != d) = false := by simp
  go_enter Tryd.func30, Tryd.ntmps30
  go_wp2_with fail
  go_ret
  exact ⟨rfl, ((Below.refl _ _).alloc (Nat.le_refl _) _).alloc (by simp) _⟩
set_option maxHeartbeats 1000000 in
theorem exFormatDate (y m d : Int) (w : World) (hT : Tab w) (hP : TabP w) :
    Calls Tryd.prog 9 #[dtV y m d] w fun e w' => e = .returned (.bool true) ∧ Below w.heap.size w w' := by
  have K := (Kp.refl w).new 42 (dtA y m d)
  obtain ⟨x0, x1, x2⟩ := K.d1
  have HT := Lib.hid hT
  have HP := Lib.hid hP
  have hgw := hP.lt
  have h0 := hT.pos
  clear hT hP
  obtain ⟨F, hF⟩ : ∃ F, Dt.fmt y m d = F := ⟨_, rfl⟩
  have HF := Lib.hid hF; clear hF
  have TM := Lib.hid (fun W => toDateT_any y m d W)
  go_enter Tryd.func9, Tryd.ntmps9
  go_wp2_with fail
  refine (TM.out _).mono ?_
  rintro e w1 ⟨rfl, hb⟩
  replace K := K.below hb
  clear hb x0 x1 x2
  obtain ⟨x0, x1, x2⟩ := K.d1
  go_wp2_with fail
  refine (sfmtD_any y m d _).mono ?_
  rw [HF.out]
  rintro e w2 ⟨rfl, hb⟩
  replace K := K.below hb
  clear hb x0 x1 x2
  obtain ⟨x0, x1, x2⟩ := K.d1
  go_wp2_with fail
  refine (TM.out _).mono ?_
  rintro e w3 ⟨rfl, hb⟩
  replace K := K.below hb
  clear hb x0 x1 x2
  go_wp2_with fail
  refine (fmtD_any y m d _ (HT.out.below K.1 h0) (HP.out.below K.1 hgw)).mono ?_
  rw [HF.out]
  rintro e w4 ⟨rfl, hb⟩
  replace K := K.below hb
  go_wp2_with fail
  go_ret
  exact ⟨rfl, K.1⟩
set_option maxHeartbeats 1000000 in
theorem exParseDate (s : ByteArray) (w : World) (hT : Tab w) (hP : TabP w) :
    Calls Tryd.prog 10 #[.string s] w fun e w' => e = .returned (.bool true) ∧ Below w.heap.size w w' := by
  obtain ⟨l, rfl⟩ : ∃ l : List UInt8, s = ⟨l.toArray⟩ := ⟨s.data.toList, by simp⟩
  have HT := Lib.hid hT
  have HP := Lib.hid hP
  have hgw := hP.lt
  have h0 := hT.pos
  clear hT hP
  by_cases hl : 1048576 < (l.length : Int)
  · go_enter Tryd.func10, Tryd.ntmps10
    go_wp2_with fail
    go_ret
    exact ⟨rfl, Below.refl _ _⟩
  · have hl' := decide_eq_false hl
    clear hl
    obtain ⟨⟨y, m, d⟩, hv⟩ : ∃ v, Dt.val l = v := ⟨_, rfl⟩
    obtain ⟨B, hB⟩ : ∃ B, Dt.ok l = B := ⟨_, rfl⟩
    have HV := Lib.hid hv
    have HB := Lib.hid hB
    clear hv hB
    have Q : (B != B) = false := by simp
    go_enter Tryd.func10, Tryd.ntmps10
    go_wp2_with fail
    refine (sparseD_any l _).mono ?_
    rw [HV.out, HB.out]
    rintro e w1 ⟨rfl, hb⟩
    have K := ((Kp.refl w).below hb).new 24 (dtA y m d)
    clear hb
    go_wp2_with fail
    refine (parseD_any l _ (HT.out.below K.1 h0) (HP.out.below K.1 hgw)).mono ?_
    rw [HV.out, HB.out]
    rintro e w2 ⟨rfl, hb⟩
    replace K := (K.below hb).new 24 (dtA y m d)
    clear hb
    obtain ⟨x0, x1, x2⟩ := K.d1
    obtain ⟨⟨y0, y1, y2⟩, -⟩ := K.second.three
    go_wp2_with fail
    refine (eqDate_same y m d _).mono ?_
    rintro e w3 ⟨rfl, hb⟩
    replace K := K.below hb
    clear hb x0 x1 x2 y0 y1 y2
    go_wp2_with fail
    go_ret
    exact ⟨rfl, K.1⟩
theorem Dt.round {y m d : Int} (h : vldB y m d = true) : Dt.val (Dt.fmt y m d) = (y, m, d) ∧ Dt.ok (Dt.fmt y m d) = true ∧ (Dt.fmt y m d).length = 10 := by
  obtain ⟨⟨y0, y1⟩, ⟨m0, m1⟩, d0, d1⟩ := vld_bd h
  rw [Dt.fmt_yes h]
  have e : (Dt.read (Dt.txt y.toNat m.toNat d.toNat)).1 = (y, m, d) := by
    have := Dt.read_txt (y := y.toNat) (m := m.toNat) (d := d.toNat) (by omega) (by omega) (by omega) [] (fun c t e => by cases e)
    rw [List.append_nil] at this
    rw [this]
    simp only [Prod.mk.injEq]
    omega
  have c : Dt.conf (y, m, d) (Dt.txt y.toNat m.toNat d.toNat) = true := Dt.conf_iff.2 ⟨h, rfl⟩
  refine ⟨?_, ?_, Dt.txt_len (by omega) (by omega)⟩
  · unfold Dt.val; rw [e]; exact Dt.out_yes c
  · unfold Dt.ok; rw [e]; exact c
set_option maxHeartbeats 2000000 in
theorem lawDateRound (a : Option Addr) (len cap : Nat) (zs : List Int) (w : World) (h : IsRow .u8 w a len cap zs) (hT : Tab w) (hP : TabP w) :
    Calls Tryd.prog 3 #[.slice a len cap] w fun e w' => e = .returned (.bool true) ∧ Below w.heap.size w w' := by
  have H := Lib.hid h; clear h
  have HT := Lib.hid hT
  have HP := Lib.hid hP
  have hgw := hP.lt
  have h0 := hT.pos
  clear hT hP
  by_cases hl : 1048576 < (len : Int)
  · go_enter Tryd.func3, Tryd.ntmps3
    go_wp2_with fail
    go_ret
    exact ⟨rfl, Below.refl _ _⟩
  · have hl' := decide_eq_false hl
    clear hl
    go_enter Tryd.func3, Tryd.ntmps3
    go_wp2_with fail
    refine (drawFD_any _ _ _ _ _ H.out).mono ?_
    rintro e w1 ⟨y, m, d, rfl, -, hb⟩
    have K := ((Kp.refl w).below hb).new 24 (dtA y m d)
    clear hb
    obtain ⟨x0, x1, x2⟩ := K.d1
    cases h : vldB y m d with
    | false =>
      have E := Lib.hid (Dt.fmt_no h); clear h
      go_wp2_with fail
      refine (fmtD_any y m d _ (HT.out.below K.1 h0) (HP.out.below K.1 hgw)).mono ?_
      rw [E.out]
      rintro e w2 ⟨rfl, hb⟩
      replace K := K.below hb
      clear hb x0 x1 x2
      obtain ⟨x0, x1, x2⟩ := K.d1
      go_wp2_with fail
      refine (sfmtD_any y m d _).mono ?_
      rw [E.out]
      rintro e w3 ⟨rfl, hb⟩
      replace K := K.below hb
      clear hb x0 x1 x2
      obtain ⟨x0, x1, x2⟩ := K.d1
      go_wp2_with fail
      refine (sfmtD_any y m d _).mono ?_
      rw [E.out]
      rintro e w4 ⟨rfl, hb⟩
      replace K := K.below hb
      clear hb x0 x1 x2
      go_wp2_with fail
      go_ret
      exact ⟨rfl, K.1⟩
    | true =>
      obtain ⟨e1, e2, e3⟩ := Dt.round h
      obtain ⟨F, hF⟩ : ∃ F, Dt.fmt y m d = F := ⟨_, rfl⟩
      rw [hF] at e1 e2 e3
      have EV := Lib.hid e1
      have EO := Lib.hid e2
      have HF := Lib.hid hF
      obtain ⟨c, t, hc⟩ : ∃ c t, F = c :: t := by
        cases F with
        | nil => simp at e3
        | cons c t => exact ⟨c, t, rfl⟩
      subst hc
      simp only [List.length_cons] at e3
      have d1 : ((t.length : Int) + 1 == 10) = true := by simp; omega
      have q1 : (y == y) = true := by simp
      have q2 : (m == m) = true := by simp
      have q3 : (d == d) = true := by simp
      clear h e1 e2 e3 hF
      go_wp2_with fail
      refine (fmtD_any y m d _ (HT.out.below K.1 h0) (HP.out.below K.1 hgw)).mono ?_
      rw [HF.out]
      rintro e w2 ⟨rfl, hb⟩
      replace K := K.below hb
      clear hb x0 x1 x2
      obtain ⟨x0, x1, x2⟩ := K.d1
      go_wp2_with fail
      refine (sfmtD_any y m d _).mono ?_
      rw [HF.out]
      rintro e w3 ⟨rfl, hb⟩
      replace K := K.below hb
      clear hb x0 x1 x2
      obtain ⟨x0, x1, x2⟩ := K.d1
      go_wp2_with fail
      refine (parseD_any _ _ (HT.out.below K.1 h0) (HP.out.below K.1 hgw)).mono ?_
      rw [EV.out, EO.out]
      rintro e w4 ⟨rfl, hb⟩
      replace K := (K.below hb).new 24 (dtA y m d)
      clear hb x0 x1 x2
      obtain ⟨y0, y1, y2⟩ := K.d1
      obtain ⟨⟨x0, x1, x2⟩, -⟩ := K.second.three
      go_wp2_with fail
      go_ret
      exact ⟨rfl, K.1⟩
set_option maxHeartbeats 2000000 in
theorem lawDateCanon (a : Option Addr) (len cap : Nat) (zs : List Int) (w : World) (h : IsRow .u8 w a len cap zs) (hT : Tab w) (hP : TabP w) :
    Calls Tryd.prog 4 #[.slice a len cap] w fun e w' => e = .returned (.bool true) ∧ Below w.heap.size w w' := by
  have H := Lib.hid h; clear h
  have HT := Lib.hid hT
  have HP := Lib.hid hP
  have hgw := hP.lt
  have h0 := hT.pos
  clear hT hP
  by_cases hl : 1048576 < (len : Int)
  · go_enter Tryd.func4, Tryd.ntmps4
    go_wp2_with fail
    go_ret
    exact ⟨rfl, Below.refl _ _⟩
  · have hl' := decide_eq_false hl
    clear hl
    go_enter Tryd.func4, Tryd.ntmps4
    go_wp2_with fail
    refine (drawPD_any _ _ _ _ _ H.out).mono ?_
    rintro e w1 ⟨l, rfl, hll, hb1⟩
    obtain ⟨⟨y, m, d⟩, hv⟩ : ∃ v, Dt.val l = v := ⟨_, rfl⟩
    have q1 : (y != y) = false := by simp
    have q2 : (m != m) = false := by simp
    have q3 : (d != d) = false := by simp
    have HV := Lib.hid hv
    have K0 := (Kp.refl w).below hb1
    clear hb1
    cases hB : Dt.ok l with
    | false =>
      have HB := Lib.hid hB; clear hB hv
      go_wp2_with fail
      refine (parseD_any _ _ (HT.out.below K0.1 h0) (HP.out.below K0.1 hgw)).mono ?_
      rw [HV.out, HB.out]
      rintro e w2 ⟨rfl, hb⟩
      have K := (K0.below hb).new 24 (dtA y m d)
      clear hb
      go_wp2_with fail
      refine (sparseD_any _ _).mono ?_
      rw [HV.out, HB.out]
      rintro e w3 ⟨rfl, hb⟩
      replace K := (K.below hb).new 24 (dtA y m d)
      clear hb
      obtain ⟨y0, y1, y2⟩ := K.d1
      obtain ⟨⟨x0, x1, x2⟩, -⟩ := K.second.three
      go_wp2_with fail
      go_ret
      exact ⟨rfl, K.1⟩
    | true =>
      have hr : (Dt.read l).1 = (y, m, d) := by
        have e := Dt.out_yes (t := (Dt.read l).1) (l := l) hB
        exact e.symm.trans hv
      have hc : Dt.conf (y, m, d) l = true := by rw [← hr]; exact hB
      obtain ⟨h1, h2⟩ := Dt.conf_iff.1 hc
      have HF := Lib.hid ((Dt.fmt_yes h1).trans h2)
      have HVl := Lib.hid h1
      have HB := Lib.hid hB; clear hB hv hr hc h1 h2
      go_wp2_with fail
      refine (parseD_any _ _ (HT.out.below K0.1 h0) (HP.out.below K0.1 hgw)).mono ?_
      rw [HV.out, HB.out]
      rintro e w2 ⟨rfl, hb⟩
      have K := (K0.below hb).new 24 (dtA y m d)
      clear hb
      go_wp2_with fail
      refine (sparseD_any _ _).mono ?_
      rw [HV.out, HB.out]
      rintro e w3 ⟨rfl, hb⟩
      replace K := (K.below hb).new 24 (dtA y m d)
      clear hb
      obtain ⟨y0, y1, y2⟩ := K.d1
      obtain ⟨⟨x0, x1, x2⟩, -⟩ := K.second.three
      go_wp2_with fail
      refine (fmtD_any y m d _ (HT.out.below K.1 h0) (HP.out.below K.1 hgw)).mono ?_
      rw [HF.out]
      rintro e w4 ⟨rfl, hb⟩
      replace K := K.below hb
      clear hb x0 x1 x2 y0 y1 y2
      obtain ⟨⟨x0, x1, x2⟩, -⟩ := K.second.three
      go_wp2_with fail
      refine (validDate_any _ _ _ _ (HT.out.below K.1 h0)).mono ?_
      rw [HVl.out]
      rintro e w5 ⟨rfl, hb⟩
      replace K := K.below hb
      clear hb x0 x1 x2
      go_wp2_with fail
      go_ret
      exact ⟨by simp, K.1⟩
end Go.Proofs.YtapalkohfhohhaaDoor
