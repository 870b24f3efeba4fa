/- Prices read out of texts, on both sides. -/
import Derived.Test.YtoledkecgfhdbaaDoorCr2
namespace Go.Proofs.YtoledkecgfhdbaaDoor
open Go.RowKit
/-- Is this the text of a price? -/
def Qt.conf (v : Int) (l : List UInt8) : Bool := decide (Qt.fmt v ≠ [] ∧ Qt.fmt v = l)
theorem Qt.txt_ne (n : Nat) : Qt.txt n ≠ [] := by unfold Qt.txt; simp
theorem Qt.conf_iff {v : Int} {l : List UInt8} : Qt.conf v l = true ↔ 0 ≤ v ∧ v ≤ 19200 ∧ Qt.txt v.toNat = l := by
  unfold Qt.conf
  rw [decide_eq_true_iff]
  cases h : btw v 0 19200 with
  | false =>
    rw [Qt.fmt_no h]
    have := btw_iff_f.1 h
    simp
    omega
  | true =>
    rw [Qt.fmt_yes h]
    obtain ⟨h0, h1⟩ := btw_iff.1 h
    have := Qt.txt_ne v.toNat
    simp [h0, h1, this]
theorem Qt.val_yes {f : List UInt8 → Int} {l : List UInt8} (h : Qt.conf (f l) l = true) : Qt.val f l = f l := if_pos (Qt.conf_iff.1 h)
theorem Qt.val_no {f : List UInt8 → Int} {l : List UInt8} (h : Qt.conf (f l) l = false) : Qt.val f l = -1 := if_neg (fun q => by rw [Qt.conf_iff.2 q] at h; cases h)
set_option maxHeartbeats 1000000 in
theorem confQ_any (v : Int) (l : List UInt8) (w : World) (hT : TabP w) :
    Calls Tryd.prog 23 #[.int .i64 v, str l, .func (.func 8) #[] #[]] w fun e w' => e = .returned (.tuple #[.int .i64 (if Qt.conf v l = true then v else 0), .bool (Qt.conf v l)]) ∧ Below w.heap.size w w' := by
  have HT := Lib.hid hT; clear hT
  obtain ⟨F, hF⟩ : ∃ F, Qt.fmt v = F := ⟨_, rfl⟩
  have HF := Lib.hid hF
  rcases F with _ | ⟨c, t⟩
  · have E : Qt.conf v l = false := by unfold Qt.conf; rw [hF]; simp
    rw [E]
    clear E hF
    go_enter Tryd.func23, Tryd.ntmps23
    go_wp2_with fail
    refine (fmtQ_any v _ HT.out).mono ?_
    rw [HF.out]
    rintro e w1 ⟨rfl, hb⟩
    go_wp2_with fail
    go_ret2
    exact ⟨rfl, hb⟩
  · by_cases h : (c :: t) = l
    · subst h
      have E : Qt.conf v (c :: t) = true := by unfold Qt.conf; rw [hF]; simp
      rw [E]
      clear E hF
      go_enter Tryd.func23, Tryd.ntmps23
      go_wp2_with fail
      refine (fmtQ_any v _ HT.out).mono ?_
      rw [HF.out]
      rintro e w1 ⟨rfl, hb⟩
      go_wp2_with fail
      go_ret2
      exact ⟨rfl, hb⟩
    · have E : Qt.conf v l = false := by unfold Qt.conf; rw [hF]; simp [h]
      have hq : ((c :: t) == l) = false := by simp [h]
      rw [E]
      clear E hF h
      go_enter Tryd.func23, Tryd.ntmps23
      go_wp2_with fail
      refine (fmtQ_any v _ HT.out).mono ?_
      rw [HF.out]
      rintro e w1 ⟨rfl, hb⟩
      go_wp2_with fail
      go_ret2
      exact ⟨rfl, hb⟩
set_option maxHeartbeats 1000000 in
theorem parseQ_any (l : List UInt8) (w : World) (hT : TabP w) :
    Calls Tryd.prog 10 #[str l] w fun e w' => e = .returned (.int .i64 (Qt.val Qt.read l)) ∧ Below w.heap.size w w' := by
  have hC : Cur (w.alloc (.cells #[str l] 44)) w.heap.size l := Blk.new w _ _
  have hb0 := (Below.refl w.heap.size w).alloc (Nat.le_refl _) (.cells #[str l] 44)
  have HT := Lib.hid hT; clear hT
  have HC := Lib.hid hC; clear hC
  go_enter Tryd.func10, Tryd.ntmps10
  go_wp2_with fail
  refine (quote_any _ _ _ HC.out).mono ?_
  rintro e w1 ⟨rfl, hg⟩
  have hb1 := below_grown hb0 (by simpa using hg) (Nat.le_refl _)
  have HT1 := Lib.hid (HT.out.next hb1)
  go_wp2_with fail
  refine (confQ_any _ _ _ HT1.out).mono ?_
  rintro e w2 ⟨rfl, hb⟩
  have hb2 := hb1.trans (hb.mono hb1.size)
  clear hb hb1 hb0 hg
  obtain ⟨v, hv⟩ : ∃ v, v = Qt.read l := ⟨_, rfl⟩
  rw [← hv]
  have HV := Lib.hid hv; clear hv
  cases hc : Qt.conf v l with
  | false =>
    have E := Lib.hid (show Qt.val Qt.read l = -1 from Qt.val_no (by rw [← HV.out]; exact hc))
    clear hc
    go_wp2_with fail
    go_ret
    exact ⟨by rw [E.out]; rfl, hb2⟩
  | true =>
    have E := Lib.hid (show Qt.val Qt.read l = v by rw [HV.out]; exact Qt.val_yes (by rw [← HV.out]; exact hc))
    clear hc
    go_wp2_with fail
    go_ret
    exact ⟨by rw [E.out]; rfl, hb2⟩
set_option maxHeartbeats 400000 in
theorem sdigit_any (l : List UInt8) (i : Int) (w : World) (h0 : 0 ≤ i) :
    Calls Tryd.prog 36 #[str l, .int .i64 i] w fun e w' => e = .returned (.int .i64 (dat l i.toNat)) ∧ w = w' := by
  by_cases hl : (l.length : Int) ≤ i
  · have E := Lib.hid (dat_end (l := l) (k := i.toNat) (by omega))
    have d0 := decide_eq_true hl
    clear hl
    go_enter Tryd.func36, Tryd.ntmps36
    go_wp2_with fail
    go_ret
    exact ⟨by rw [E.out]; rfl, rfl⟩
  · have hlt : i < (l.length : Int) := by omega
    have hn : i.toNat < l.length := by omega
    have d0 := decide_eq_false hl
    obtain ⟨c, hc⟩ : ∃ c, l[i.toNat]? = some c := ⟨_, List.getElem?_eq_getElem hn⟩
    obtain ⟨z, hz⟩ : ∃ z : Int, z = (c.toNat : Int) := ⟨_, rfl⟩
    have hx : ∀ h, (((ByteArray.mk l.toArray)[i.toNat]'h).toNat : Int) = z := fun h => by
      rw [hz]
      have e1 : (ByteArray.mk l.toArray)[i.toNat]'h = l[i.toNat]'hn := rfl
      have e2 : l[i.toNat]'hn = c := by rw [List.getElem?_eq_getElem hn] at hc; exact Option.some.inj hc
      rw [e1, e2]
    have hz1 : 0 ≤ z ∧ z ≤ 255 := by have := c.toNat_lt; omega
    cases hd : dgt c with
    | false =>
      have HB := Lib.hid (show btw z 48 57 = false from btw_iff_f.2 (by have := dgt_iff_f.1 hd; omega))
      have E := Lib.hid (dat_no hc hd)
      clear hl hz hc hd
      go_enter Tryd.func36, Tryd.ntmps36
      go_wp2_with fail
      refine (inRange_any _ _ _ _).mono ?_
      rintro e w' ⟨rfl, rfl⟩
      rw [HB.out]
      go_wp2_with fail
      go_ret
      exact ⟨by rw [E.out]; rfl, rfl⟩
    | true =>
      have HB := Lib.hid (show btw z 48 57 = true from btw_iff.2 (by have := dgt_iff.1 hd; omega))
      have E := Lib.hid ((dat_at hc hd).trans (show dgv c = z - 48 by unfold dgv; omega))
      clear hl hz hc hd
      go_enter Tryd.func36, Tryd.ntmps36
      go_wp2_with fail
      refine (inRange_any _ _ _ _).mono ?_
      rintro e w' ⟨rfl, rfl⟩
      rw [HB.out]
      go_wp2_with fail
      go_ret
      exact ⟨by rw [E.out]; rfl, rfl⟩
/-- What the model reads: so that the walk does not take it apart. -/
def rel4 (l : List UInt8) (a : Int) (k : Nat) : Prop := ∃ f, rd4 l f a k = rd4 l 4 0 0 ∧ k + f = 4 ∧ 0 ≤ a ∧ a ≤ 9999 ∧ (k = 0 → a = 0) ∧ (k = 1 → a ≤ 9) ∧ (k = 2 → a ≤ 99) ∧ (k = 3 → a ≤ 999)
theorem sdigitN_any (l : List UInt8) (i : Int) (k : Nat) (w : World) (h : i = (k : Int)) :
    Calls Tryd.prog 36 #[str l, .int .i64 i] w fun e w' => e = .returned (.int .i64 (dat l k)) ∧ w = w' := by
  subst h
  exact sdigit_any l (k : Int) w (by omega)
theorem rel4.go {l : List UInt8} {a : Int} {k : Nat} (h : rel4 l a k) (hk : k < 4) (hd : 0 ≤ dat l k) : rel4 l (10 * a + dat l k) (k + 1) := by
  obtain ⟨f, h1, h2, h3, h4, h5, h6, h7, h8⟩ := h
  have hb := dat_bd l k
  rcases f with _ | f
  · omega
  · refine ⟨f, (rd4_go ⟨hk, hd⟩).symm.trans h1, by omega, by omega, ?_, by omega, ?_, ?_, ?_⟩ <;> rcases (show k = 0 ∨ k = 1 ∨ k = 2 ∨ k = 3 by omega) with rfl | rfl | rfl | rfl <;> simp at * <;> omega
theorem rel4.stop {l : List UInt8} {a : Int} {k : Nat} (h : rel4 l a k) (hk : ¬ (k < 4 ∧ 0 ≤ dat l k)) : rd4 l 4 0 0 = (a, k) := by
  obtain ⟨f, h1, h2, -⟩ := h
  rcases f with _ | f
  · exact h1.symm
  · exact h1.symm.trans (rd4_stop hk)
theorem rel4.bd {l : List UInt8} {a : Int} {k : Nat} (h : rel4 l a k) : 0 ≤ a ∧ a ≤ 9999 := by
  obtain ⟨f, -, -, h3, h4, -⟩ := h
  exact ⟨h3, h4⟩
theorem toIntQ (b : Bool) (w : World) : Calls Tryd.prog 37 #[.bool b] w fun e w' => e = .returned (.int .i64 (if b = true then 1 else 0)) ∧ w = w' := by
  cases b with
  | true =>
    go_enter Tryd.func37, Tryd.ntmps37
    go_wp2_with fail
    go_ret
    exact ⟨rfl, rfl⟩
  | false =>
    go_enter Tryd.func37, Tryd.ntmps37
    go_wp2_with fail
    go_ret
    exact ⟨rfl, rfl⟩
theorem Qt.sread_eq {l : List UInt8} {a : Int} {k : Nat} (h : rd4 l 4 0 0 = (a, k)) : Qt.sread l = if dat l (k + 1) < 0 ∨ dat l (k + 2) < 0 then -1 else 64 * a + 2 * (10 * dat l (k + 1) + dat l (k + 2)) + (if l.length = k + 4 then 1 else 0) := by
  unfold Qt.sread
  rw [h]
set_option maxHeartbeats 2000000 in
theorem sparse0_any (l : List UInt8) (w : World) :
    Calls Tryd.prog 27 #[str l] w fun e w' => e = .returned (.int .i64 (Qt.sread l)) ∧ w = w' := by
  go_enter Tryd.func27, Tryd.ntmps27
  go_wp2_with fail
  go_loop [3, 4] (fun v u => ∃ (a : Int) (k : Nat), v = .int .i64 a ∧ u = .int .i64 k ∧ k ≤ 4 ∧ Hid (rel4 l a k)) (fun _ u => 4 - (intOf u).toNat)
  case atStart => exact ⟨0, 0, rfl, rfl, by omega, Lib.hid ⟨4, rfl, rfl, by omega, by omega, by omega, by omega, by omega, by omega⟩⟩
  case round =>
    obtain ⟨a, k, rfl, rfl, hk, HR⟩ := hrel
    obtain ⟨a0, a1⟩ := HR.out.bd
    obtain ⟨d, hd⟩ : ∃ d, dat l k = d := ⟨_, rfl⟩
    have hdb := dat_bd l k
    rw [hd] at hdb
    have HD := Lib.hid hd
    by_cases hk4 : k < 4
    · have hk4' : (k : Int) < 4 := by omega
      by_cases hd0 : 0 ≤ d
      · have G := Lib.hid (HR.out.go hk4 (by rw [hd]; exact hd0))
        rw [hd] at G
        clear hd
        go_wp2_with fail
        refine (sdigitN_any l _ k _ rfl).mono ?_
        rw [HD.out]
        rintro e w' ⟨rfl, rfl⟩
        go_wp2_with fail
        refine (sdigitN_any l _ k _ rfl).mono ?_
        rw [HD.out]
        rintro e w' ⟨rfl, rfl⟩
        go_wp2_with fail
        go_round
        case rel => exact ⟨_, k + 1, rfl, by go_num, by omega, G⟩
        case measure => simp [intOf]; omega
      · have S := Lib.hid (HR.out.stop (by rw [hd]; omega))
        clear hd
        have E := Lib.hid (Qt.sread_eq S.out)
        obtain ⟨b1, hb1⟩ : ∃ b, dat l (k + 1) = b := ⟨_, rfl⟩
        obtain ⟨b2, hb2⟩ : ∃ b, dat l (k + 2) = b := ⟨_, rfl⟩
        have q1 := dat_bd l (k + 1)
        have q2 := dat_bd l (k + 2)
        rw [hb1] at q1 E
        rw [hb2] at q2 E
        have H1 := Lib.hid hb1
        have H2 := Lib.hid hb2
        obtain ⟨z, hz⟩ : ∃ z : Bool, z = ((l.length : Int) == (k : Int) + 4) := ⟨_, rfl⟩
        have E2 := Lib.hid (show (if l.length = k + 4 then (1 : Int) else 0) = if z = true then 1 else 0 by rw [hz]; by_cases q : l.length = k + 4 <;> simp [q] <;> omega)
        have hz' := hz.symm
        clear hb1 hb2 hz
        by_cases n1 : b1 < 0
        · have E3 := Lib.hid (E.out.trans (if_pos (.inl n1)))
          go_wp2_with fail
          refine (sdigitN_any l _ k _ rfl).mono ?_
          rw [HD.out]
          rintro e w' ⟨rfl, rfl⟩
          go_wp2_with fail
          refine (sdigitN_any l _ (k + 1) _ (by omega)).mono ?_
          rw [H1.out]
          rintro e w' ⟨rfl, rfl⟩
          go_wp2_with fail
          refine (sdigitN_any l _ (k + 2) _ (by omega)).mono ?_
          rw [H2.out]
          rintro e w' ⟨rfl, rfl⟩
          go_wp2_with fail
          go_ret
          exact ⟨by rw [E3.out]; rfl, rfl⟩
        · by_cases n2 : b2 < 0
          · have E3 := Lib.hid (E.out.trans (if_pos (.inr n2)))
            go_wp2_with fail
            refine (sdigitN_any l _ k _ rfl).mono ?_
            rw [HD.out]
            rintro e w' ⟨rfl, rfl⟩
            go_wp2_with fail
            refine (sdigitN_any l _ (k + 1) _ (by omega)).mono ?_
            rw [H1.out]
            rintro e w' ⟨rfl, rfl⟩
            go_wp2_with fail
            refine (sdigitN_any l _ (k + 2) _ (by omega)).mono ?_
            rw [H2.out]
            rintro e w' ⟨rfl, rfl⟩
            go_wp2_with fail
            go_ret
            exact ⟨by rw [E3.out]; rfl, rfl⟩
          · have E3 := Lib.hid (E.out.trans (if_neg (by omega)))
            rw [E2.out] at E3
            have tz : 0 ≤ (if z = true then (1 : Int) else 0) ∧ (if z = true then (1 : Int) else 0) ≤ 1 := by split <;> omega
            obtain ⟨u, hu⟩ : ∃ u, (if z = true then (1 : Int) else 0) = u := ⟨_, rfl⟩
            rw [hu] at tz E3
            have HU := Lib.hid hu; clear hu
            go_wp2_with fail
            refine (sdigitN_any l _ k _ rfl).mono ?_
            rw [HD.out]
            rintro e w' ⟨rfl, rfl⟩
            go_wp2_with fail
            refine (sdigitN_any l _ (k + 1) _ (by omega)).mono ?_
            rw [H1.out]
            rintro e w' ⟨rfl, rfl⟩
            go_wp2_with fail
            refine (sdigitN_any l _ (k + 2) _ (by omega)).mono ?_
            rw [H2.out]
            rintro e w' ⟨rfl, rfl⟩
            go_wp2_with fail
            refine (toIntQ _ _).mono ?_
            rw [HU.out]
            rintro e w' ⟨rfl, rfl⟩
            go_wp2_with fail
            go_ret
            exact ⟨by rw [E3.out]; rfl, rfl⟩
    · have hk4' : ¬ (k : Int) < 4 := by omega
      have S := Lib.hid (HR.out.stop (by omega))
      clear hd
      have E := Lib.hid (Qt.sread_eq S.out)
      obtain ⟨b1, hb1⟩ : ∃ b, dat l (k + 1) = b := ⟨_, rfl⟩
      obtain ⟨b2, hb2⟩ : ∃ b, dat l (k + 2) = b := ⟨_, rfl⟩
      have q1 := dat_bd l (k + 1)
      have q2 := dat_bd l (k + 2)
      rw [hb1] at q1 E
      rw [hb2] at q2 E
      have H1 := Lib.hid hb1
      have H2 := Lib.hid hb2
      obtain ⟨z, hz⟩ : ∃ z : Bool, z = ((l.length : Int) == (k : Int) + 4) := ⟨_, rfl⟩
      have E2 := Lib.hid (show (if l.length = k + 4 then (1 : Int) else 0) = if z = true then 1 else 0 by rw [hz]; by_cases q : l.length = k + 4 <;> simp [q] <;> omega)
      have hz' := hz.symm
      clear hb1 hb2 hz
      by_cases n1 : b1 < 0
      · have E3 := Lib.hid (E.out.trans (if_pos (.inl n1)))
        go_wp2_with fail
        refine (sdigitN_any l _ (k + 1) _ (by omega)).mono ?_
        rw [H1.out]
        rintro e w' ⟨rfl, rfl⟩
        go_wp2_with fail
        refine (sdigitN_any l _ (k + 2) _ (by omega)).mono ?_
        rw [H2.out]
        rintro e w' ⟨rfl, rfl⟩
        go_wp2_with fail
        go_ret
        exact ⟨by rw [E3.out]; rfl, rfl⟩
      · by_cases n2 : b2 < 0
        · have E3 := Lib.hid (E.out.trans (if_pos (.inr n2)))
          go_wp2_with fail
          refine (sdigitN_any l _ (k + 1) _ (by omega)).mono ?_
          rw [H1.out]
          rintro e w' ⟨rfl, rfl⟩
          go_wp2_with fail
          refine (sdigitN_any l _ (k + 2) _ (by omega)).mono ?_
          rw [H2.out]
          rintro e w' ⟨rfl, rfl⟩
          go_wp2_with fail
          go_ret
          exact ⟨by rw [E3.out]; rfl, rfl⟩
        · have E3 := Lib.hid (E.out.trans (if_neg (by omega)))
          rw [E2.out] at E3
          have tz : 0 ≤ (if z = true then (1 : Int) else 0) ∧ (if z = true then (1 : Int) else 0) ≤ 1 := by split <;> omega
          obtain ⟨u, hu⟩ : ∃ u, (if z = true then (1 : Int) else 0) = u := ⟨_, rfl⟩
          rw [hu] at tz E3
          have HU := Lib.hid hu; clear hu
          go_wp2_with fail
          refine (sdigitN_any l _ (k + 1) _ (by omega)).mono ?_
          rw [H1.out]
          rintro e w' ⟨rfl, rfl⟩
          go_wp2_with fail
          refine (sdigitN_any l _ (k + 2) _ (by omega)).mono ?_
          rw [H2.out]
          rintro e w' ⟨rfl, rfl⟩
          go_wp2_with fail
          refine (toIntQ _ _).mono ?_
          rw [HU.out]
          rintro e w' ⟨rfl, rfl⟩
          go_wp2_with fail
          go_ret
          exact ⟨by rw [E3.out]; rfl, rfl⟩
set_option maxHeartbeats 1000000 in
theorem sparseQ_any (l : List UInt8) (w : World) :
    Calls Tryd.prog 12 #[str l] w fun e w' => e = .returned (.int .i64 (Qt.val Qt.read l)) ∧ Below w.heap.size w w' := by
  rw [← Qt.val_both l]
  obtain ⟨n, hn⟩ : ∃ n, Qt.sread l = n := ⟨_, rfl⟩
  have HN := Lib.hid hn
  cases h : btw n 0 19200 with
  | false =>
    have E := Lib.hid (show Qt.val Qt.sread l = -1 from if_neg (fun q => by rw [hn] at q; have := btw_iff_f.1 h; omega))
    have H := Lib.hid h; clear h hn
    go_enter Tryd.func12, Tryd.ntmps12
    go_wp2_with fail
    refine (sparse0_any l _).mono ?_
    rw [HN.out]
    rintro e w' ⟨rfl, rfl⟩
    go_wp2_with fail
    refine (inRange_any _ _ _ _).mono ?_
    rintro e w' ⟨rfl, rfl⟩
    rw [H.out]
    go_wp2_with fail
    go_ret
    exact ⟨by rw [E.out]; rfl, Below.refl _ _⟩
  | true =>
    obtain ⟨n0, n1⟩ := btw_iff.1 h
    obtain ⟨F, hF⟩ : ∃ F, Qt.txt n.toNat = F := ⟨_, rfl⟩
    have HF := Lib.hid hF
    by_cases hq : F = l
    · have E := Lib.hid (show Qt.val Qt.sread l = n from (if_pos (by rw [hn]; exact ⟨n0, n1, hF.trans hq⟩)).trans hn)
      have hs : (F == l) = true := by simp [hq]
      have H := Lib.hid h; clear h hn hF
      subst hq
      go_enter Tryd.func12, Tryd.ntmps12
      go_wp2_with fail
      refine (sparse0_any F _).mono ?_
      rw [HN.out]
      rintro e w' ⟨rfl, rfl⟩
      go_wp2_with fail
      refine (inRange_any _ _ _ _).mono ?_
      rintro e w' ⟨rfl, rfl⟩
      rw [H.out]
      go_wp2_with fail
      refine (sfmtQ0_any n _ n0 n1).mono ?_
      rw [HF.out]
      rintro e w1 ⟨rfl, hb⟩
      go_wp2_with fail
      go_ret
      exact ⟨by rw [E.out]; rfl, hb⟩
    · have E := Lib.hid (show Qt.val Qt.sread l = -1 from if_neg (fun q => by rw [hn] at q; exact hq (hF.symm.trans q.2.2)))
      have hs : (F == l) = false := by simp [hq]
      have H := Lib.hid h; clear h hn hF hq
      go_enter Tryd.func12, Tryd.ntmps12
      go_wp2_with fail
      refine (sparse0_any l _).mono ?_
      rw [HN.out]
      rintro e w' ⟨rfl, rfl⟩
      go_wp2_with fail
      refine (inRange_any _ _ _ _).mono ?_
      rintro e w' ⟨rfl, rfl⟩
      rw [H.out]
      go_wp2_with fail
      refine (sfmtQ0_any n _ n0 n1).mono ?_
      rw [HF.out]
      rintro e w1 ⟨rfl, hb⟩
      go_wp2_with fail
      go_ret
      exact ⟨by rw [E.out]; rfl, hb⟩
set_option maxHeartbeats 1000000 in
theorem exParseQuote (s : ByteArray) (w : World) (hT : TabP w) :
    Calls Tryd.prog 6 #[.string s] w fun e w' => e = .returned (.bool true) ∧ Below w.heap.size w w' := by
  obtain ⟨l, rfl⟩ : ∃ l : List UInt8, s = ⟨l.toArray⟩ := ⟨s.data.toList, by simp⟩
  have HT := Lib.hid hT; clear hT
  by_cases hl : 1048576 < (l.length : Int)
  · go_enter Tryd.func6, Tryd.ntmps6
    go_wp2_with fail
    go_ret
    exact ⟨rfl, Below.refl _ _⟩
  · have hl' := decide_eq_false hl
    clear hl
    obtain ⟨v, hv⟩ : ∃ v, Qt.val Qt.read l = v := ⟨_, rfl⟩
    have HV := Lib.hid hv; clear hv
    have Q : (v != v) = false := by simp
    go_enter Tryd.func6, Tryd.ntmps6
    go_wp2_with fail
    refine (sparseQ_any l _).mono ?_
    rw [HV.out]
    rintro e w1 ⟨rfl, hb⟩
    go_wp2_with fail
    refine (parseQ_any l _ (HT.out.next hb)).mono ?_
    rw [HV.out]
    rintro e w2 ⟨rfl, hb2⟩
    have hb3 := hb.trans (hb2.mono hb.size)
    clear hb hb2
    go_wp2_with fail
    go_ret
    exact ⟨rfl, hb3⟩
end Go.Proofs.YtoledkecgfhdbaaDoor
