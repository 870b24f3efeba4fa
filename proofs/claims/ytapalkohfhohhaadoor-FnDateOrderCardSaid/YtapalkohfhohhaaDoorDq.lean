/- Dates read out of texts: the whole functions, and the exact laws. -/
import Derived.Test.YtapalkohfhohhaaDoorDp
import Derived.Test.YtapalkohfhohhaaDoorQx
namespace Go.Proofs.YtapalkohfhohhaaDoor
open Go.RowKit
/-- Is this the text of the date? -/
def Dt.conf (t : Int × Int × Int) (l : List UInt8) : Bool := decide (Dt.fmt t.1 t.2.1 t.2.2 ≠ [] ∧ Dt.fmt t.1 t.2.1 t.2.2 = l)
def Dt.out (t : Int × Int × Int) (l : List UInt8) : Int × Int × Int := if Dt.conf t l = true then t else (0, 0, 0)
theorem Dt.out_yes {t : Int × Int × Int} {l : List UInt8} (h : Dt.conf t l = true) : Dt.out t l = t := if_pos h
theorem Dt.out_no {t : Int × Int × Int} {l : List UInt8} (h : Dt.conf t l = false) : Dt.out t l = (0, 0, 0) := if_neg (by rw [h]; simp)
theorem Dt.txt_ne (y m d : Nat) : Dt.txt y m d ≠ [] := by unfold Dt.txt; simp
theorem Dt.conf_iff {y m d : Int} {l : List UInt8} : Dt.conf (y, m, d) l = true ↔ vldB y m d = true ∧ Dt.txt y.toNat m.toNat d.toNat = l := by
  unfold Dt.conf
  rw [decide_eq_true_iff]
  cases h : vldB y m d with
  | false => rw [Dt.fmt_no h]; simp
  | true => rw [Dt.fmt_yes h]; have := Dt.txt_ne y.toNat m.toNat d.toNat; simp [this]
set_option maxHeartbeats 1000000 in
theorem confD_any (y m d : Int) (l : List UInt8) (w : World) (hT : Tab w) (hP : TabP w) :
    Calls Tryd.prog 40 #[dtV y m d, str l, .func (.func 14) #[] #[]] w fun e w' => e = .returned (.tuple #[dtV (Dt.out (y, m, d) l).1 (Dt.out (y, m, d) l).2.1 (Dt.out (y, m, d) l).2.2, .bool (Dt.conf (y, m, d) l)]) ∧ Below w.heap.size w w' := by
  have hb0 := ((Below.refl w.heap.size w).alloc (Nat.le_refl _) (.cells (dtA y m d) 24)).alloc (by simp) (.cells (dtA 0 0 0) 24)
  have HT := Lib.hid (hT.below hb0 hT.pos)
  have HP := Lib.hid (hP.below hb0 hP.lt)
  clear hT hP hb0
  have K := ((Kp.refl w).new 24 (dtA y m d)).new 24 (dtA 0 0 0)
  simp only [World.size_alloc] at K
  obtain ⟨F, hF⟩ : ∃ F, Dt.fmt y m d = F := ⟨_, rfl⟩
  have FM := Lib.hid (fun W hT hP => fmtD_any y m d W hT hP)
  rw [hF] at FM
  obtain ⟨⟨x0, x1, x2⟩, -⟩ := K.second.three
  rcases F with _ | ⟨c, t⟩
  · have E : Dt.conf (y, m, d) l = false := by unfold Dt.conf; simp only; rw [hF]; simp
    rw [Dt.out_no E, E]
    clear E hF
    go_enter Tryd.func40, Tryd.ntmps40
    go_wp2_with fail
    refine (FM.out _ HT.out HP.out).mono ?_
    rintro e w1 ⟨rfl, hb⟩
    replace K := (K.below hb).new 24 (dtA 0 0 0)
    clear hb x0 x1 x2
    obtain ⟨⟨x0, x1, x2⟩, -⟩ := K.first.three
    obtain ⟨⟨z0, z1, z2⟩, f0, f1, f2⟩ := K.second.three
    go_wp2_with fail
    obtain ⟨q0, q1, q2⟩ := (K.second.putD3 0 0 0).three.1
    refine bodyPost_ret (v := .tuple #[dtV 0 0 0, .bool false]) (by simp [results, Tryd.results40, go_sem, q0, q1, q2]) rfl ⟨rfl, ?_⟩
    repeat (refine Below.setCell ?_ (by simp <;> omega) _)
    exact K.1
  · by_cases h : (c :: t) = l
    · subst h
      have E : Dt.conf (y, m, d) (c :: t) = true := by unfold Dt.conf; simp only; rw [hF]; simp
      rw [Dt.out_yes E, E]
      clear E hF
      go_enter Tryd.func40, Tryd.ntmps40
      go_wp2_with fail
      refine (FM.out _ HT.out HP.out).mono ?_
      rintro e w1 ⟨rfl, hb⟩
      replace K := K.below hb
      clear hb x0 x1 x2
      obtain ⟨⟨z0, z1, z2⟩, f0, f1, f2⟩ := K.first.three
      obtain ⟨⟨x0, x1, x2⟩, -⟩ := K.second.three
      go_wp2_with fail
      obtain ⟨q0, q1, q2⟩ := (K.first.putD3 y m d).three.1
      refine bodyPost_ret (v := .tuple #[dtV y m d, .bool true]) (by simp [results, Tryd.results40, go_sem, q0, q1, q2]) rfl ⟨rfl, ?_⟩
      repeat (refine Below.setCell ?_ (by simp <;> omega) _)
      exact K.1
    · have E : Dt.conf (y, m, d) l = false := by unfold Dt.conf; simp only; rw [hF]; simp [h]
      have hq : ((c :: t) == l) = false := by simp [h]
      rw [Dt.out_no E, E]
      clear E hF h
      go_enter Tryd.func40, Tryd.ntmps40
      go_wp2_with fail
      refine (FM.out _ HT.out HP.out).mono ?_
      rintro e w1 ⟨rfl, hb⟩
      replace K := (K.below hb).new 24 (dtA 0 0 0)
      clear hb x0 x1 x2
      obtain ⟨⟨x0, x1, x2⟩, -⟩ := K.first.three
      obtain ⟨⟨z0, z1, z2⟩, f0, f1, f2⟩ := K.second.three
      go_wp2_with fail
      obtain ⟨q0, q1, q2⟩ := (K.second.putD3 0 0 0).three.1
      refine bodyPost_ret (v := .tuple #[dtV 0 0 0, .bool false]) (by simp [results, Tryd.results40, go_sem, q0, q1, q2]) rfl ⟨rfl, ?_⟩
      repeat (refine Below.setCell ?_ (by simp <;> omega) _)
      exact K.1
/-- What ParseDate gives: the date, and whether there is one. -/
def Dt.val (l : List UInt8) : Int × Int × Int := Dt.out (Dt.read l).1 l
def Dt.ok (l : List UInt8) : Bool := Dt.conf (Dt.read l).1 l
set_option maxHeartbeats 1000000 in
theorem parseD_any (l : List UInt8) (w : World) (hT : Tab w) (hP : TabP w) :
    Calls Tryd.prog 16 #[str l] w fun e w' => e = .returned (.tuple #[dtV (Dt.val l).1 (Dt.val l).2.1 (Dt.val l).2.2, .bool (Dt.ok l)]) ∧ Below w.heap.size w w' := by
  have hb0 := ((Below.refl w.heap.size w).alloc (Nat.le_refl _) (.cells (dtA 0 0 0) 24)).alloc (by simp) (.cells #[str l] 57)
  have kR := (Blk.new w (dtA 0 0 0) 24).alloc (.cells #[str l] 57)
  have hC : Cur ((w.alloc (.cells (dtA 0 0 0) 24)).alloc (.cells #[str l] 57)) (w.heap.size + 1) l := by simpa using Blk.new (w.alloc (.cells (dtA 0 0 0) 24)) #[str l] 57
  have HT := Lib.hid hT
  have HP := Lib.hid hP
  have hgw := hP.lt
  have h0 := hT.pos
  clear hT hP
  have HC := Lib.hid hC; clear hC
  obtain ⟨⟨y, m, d⟩, hr⟩ : ∃ t, (Dt.read l).1 = t := ⟨_, rfl⟩
  have E1 : Dt.val l = Dt.out (y, m, d) l := by unfold Dt.val; rw [hr]
  have E2 : Dt.ok l = Dt.conf (y, m, d) l := by unfold Dt.ok; rw [hr]
  rw [E1, E2]
  have DM := Lib.hid (fun W g hc => date_any g l W hc)
  have HR := Lib.hid hr
  clear hr E1 E2
  go_enter Tryd.func16, Tryd.ntmps16
  go_wp2_with fail
  refine (DM.out _ _ HC.out).mono ?_
  rw [HR.out]
  rintro e w1 ⟨rfl, -, hg⟩
  replace kR := kR.grown hg (by omega)
  have hb1 := below_grown hb0 hg (by omega)
  clear hg hb0
  have CM := Lib.hid (confD_any y m d l w1 (HT.out.below hb1 h0) (HP.out.below hb1 hgw))
  go_wp2_with fail
  refine (CM.out).mono ?_
  generalize hO : Dt.out (y, m, d) l = O
  obtain ⟨a, b, c⟩ := O
  have HO := Lib.hid hO; clear hO
  generalize hB : Dt.conf (y, m, d) l = B
  have HB := Lib.hid hB; clear hB
  rintro e w2 ⟨rfl, hb⟩
  replace kR := kR.below hb kR.lt
  have hb2 := hb1.trans (hb.mono hb1.size)
  clear hb hb1
  obtain ⟨⟨z0, z1, z2⟩, f0, f1, f2⟩ := kR.three
  go_wp2_with fail
  obtain ⟨q0, q1, q2⟩ := (kR.putD3 a b c).three.1
  refine bodyPost_ret (v := .tuple #[dtV a b c, .bool B]) (by simp [results, Tryd.results16, go_sem, q0, q1, q2]) rfl ⟨by rw [HO.out, HB.out], dM_below hb2 (Nat.le_refl _) a b c⟩
def relN (l : List UInt8) (i f : Nat) (a : Int) (k : Nat) : Prop := ∃ j r, k = i + j ∧ j + r = f ∧ nbr l k r a = nbr l i f 0 ∧ 0 ≤ a ∧ a ≤ 9999 ∧ (j = 0 → a = 0) ∧ (j = 1 → a ≤ 9) ∧ (j = 2 → a ≤ 99) ∧ (j = 3 → a ≤ 999)
theorem relN.go {l : List UInt8} {i f : Nat} {a : Int} {k : Nat} (h : relN l i f a k) (hf : f ≤ 4) (hk : k < i + f) (hd : 0 ≤ dat l k) : relN l i f (10 * a + dat l k) (k + 1) := by
  obtain ⟨j, r, rfl, h2, h3, h4, h5, h6, h7, h8, h9⟩ := h
  have hb := dat_bd l (i + j)
  rcases r with _ | r
  · omega
  · refine ⟨j + 1, r, by omega, by omega, (nbr_go (by omega)).symm.trans h3, by omega, ?_, by omega, ?_, ?_, ?_⟩ <;> rcases (show j = 0 ∨ j = 1 ∨ j = 2 ∨ j = 3 by omega) with rfl | rfl | rfl | rfl <;> simp at * <;> omega
theorem relN.no {l : List UInt8} {i f : Nat} {a : Int} {k : Nat} (h : relN l i f a k) (hk : k < i + f) (hd : dat l k < 0) : nbr l i f 0 = -1 := by
  obtain ⟨j, r, rfl, h2, h3, -⟩ := h
  rcases r with _ | r
  · omega
  · exact h3.symm.trans (nbr_no hd)
theorem relN.fin {l : List UInt8} {i f : Nat} {a : Int} {k : Nat} (h : relN l i f a k) (hk : k = i + f) : nbr l i f 0 = a := by
  obtain ⟨j, r, rfl, h2, h3, -⟩ := h
  obtain rfl : r = 0 := by omega
  exact h3.symm
theorem relN.bd {l : List UInt8} {i f : Nat} {a : Int} {k : Nat} (h : relN l i f a k) : 0 ≤ a ∧ a ≤ 9999 := by
  obtain ⟨j, r, h1, h2, h3, h4, h5, -⟩ := h
  exact ⟨h4, h5⟩
theorem relN.at {l : List UInt8} {i f : Nat} {a : Int} {k : Nat} (h : relN l i f a k) : i ≤ k ∧ k ≤ i + f := by
  obtain ⟨j, r, rfl, h2, -⟩ := h
  omega
set_option maxHeartbeats 1000000 in
theorem snum_any (l : List UInt8) (i f : Nat) (x y : Int) (w : World) (hf : f ≤ 4) (hi : i ≤ 1000000) (hx : x = (i : Int)) (hy : y = ((i + f : Nat) : Int)) :
    Calls Tryd.prog 44 #[str l, .int .i64 x, .int .i64 y] w fun e w' => e = .returned (.int .i64 (nbr l i f 0)) ∧ w = w' := by
  subst hx
  have HY := Lib.hid hy; clear hy
  go_enter Tryd.func44, Tryd.ntmps44
  go_wp2_with fail
  go_loop [7, 8] (fun v u => ∃ (a : Int) (k : Nat), v = .int .i64 a ∧ u = .int .i64 k ∧ Hid (relN l i f a k)) (fun _ u => i + f - (intOf u).toNat)
  case atStart => exact ⟨0, i, rfl, rfl, Lib.hid ⟨0, f, rfl, by omega, rfl, by omega, by omega, by omega, by omega, by omega, by omega⟩⟩
  case round =>
    obtain ⟨a, k, rfl, rfl, HR⟩ := hrel
    obtain ⟨a0, a1⟩ := HR.out.bd
    obtain ⟨k0, k1⟩ := HR.out.at
    by_cases hk : k < i + f
    · have hk' : (k : Int) < y := by rw [HY.out]; omega
      obtain ⟨d, hd⟩ : ∃ d, dat l k = d := ⟨_, rfl⟩
      have hdb := dat_bd l k
      rw [hd] at hdb
      have HD := Lib.hid hd
      by_cases hd0 : d < 0
      · have E := Lib.hid (HR.out.no hk (by rw [hd]; exact hd0))
        clear hd
        go_wp2_with fail
        refine (sdigitN_any l _ k _ rfl).mono ?_
        rw [HD.out]
        rintro e w' ⟨rfl, rfl⟩
        go_wp2_with fail
        go_ret
        exact ⟨by rw [E.out]; rfl, rfl⟩
      · have G := Lib.hid (HR.out.go hf hk (by rw [hd]; omega))
        rw [hd] at G
        clear hd
        go_wp2_with fail
        refine (sdigitN_any l _ k _ rfl).mono ?_
        rw [HD.out]
        rintro e w' ⟨rfl, rfl⟩
        go_wp2_with fail
        refine (sdigitN_any l _ k _ rfl).mono ?_
        rw [HD.out]
        rintro e w' ⟨rfl, rfl⟩
        go_wp2_with fail
        go_round
        case rel => exact ⟨_, k + 1, rfl, by go_num, G⟩
        case measure => simp [intOf]; omega
    · have hk' : ¬ (k : Int) < y := by rw [HY.out]; omega
      have E := Lib.hid (HR.out.fin (by omega))
      go_wp2_with fail
      go_ret
      exact ⟨by rw [E.out]; rfl, rfl⟩
theorem Dt.same (l : List UInt8) : Dt.conf (Dt.sread l) l = Dt.ok l ∧ Dt.out (Dt.sread l) l = Dt.val l := by
  unfold Dt.val Dt.ok
  cases h1 : Dt.conf (Dt.read l).1 l with
  | true =>
    obtain ⟨⟨y, m, d⟩, hr⟩ : ∃ t, (Dt.read l).1 = t := ⟨_, rfl⟩
    rw [hr] at h1 ⊢
    obtain ⟨hv, ht⟩ := Dt.conf_iff.1 h1
    obtain ⟨⟨y0, y1⟩, ⟨m0, m1⟩, d0, d1⟩ := vld_bd hv
    have e : Dt.sread l = (y, m, d) := by
      rw [← ht, Dt.sread_txt (by omega) (by omega) (by omega) (by omega)]
      simp only [Prod.mk.injEq]
      omega
    rw [e, h1]
    exact ⟨rfl, rfl⟩
  | false =>
    cases h2 : Dt.conf (Dt.sread l) l with
    | true =>
      obtain ⟨⟨y, m, d⟩, hr⟩ : ∃ t, Dt.sread l = t := ⟨_, rfl⟩
      rw [hr] at h2
      obtain ⟨hv, ht⟩ := Dt.conf_iff.1 h2
      obtain ⟨⟨y0, y1⟩, ⟨m0, m1⟩, d0, d1⟩ := vld_bd hv
      have e : (Dt.read l).1 = (y, m, d) := by
        have := Dt.read_txt (y := y.toNat) (m := m.toNat) (d := d.toNat) (by omega) (by omega) (by omega) [] (fun c t e => by cases e)
        rw [List.append_nil, ht] at this
        rw [this]
        simp only [Prod.mk.injEq]
        omega
      rw [e, h2] at h1
      cases h1
    | false => rw [Dt.out_no h1, Dt.out_no h2]; exact ⟨rfl, rfl⟩
theorem Dt.len_no {l : List UInt8} (h : l.length ≠ 10) : Dt.ok l = false := by
  rw [← (Dt.same l).1]
  cases h2 : Dt.conf (Dt.sread l) l with
  | false => rfl
  | true =>
    obtain ⟨⟨y, m, d⟩, hr⟩ : ∃ t, Dt.sread l = t := ⟨_, rfl⟩
    rw [hr] at h2
    obtain ⟨hv, ht⟩ := Dt.conf_iff.1 h2
    obtain ⟨⟨y0, y1⟩, -⟩ := vld_bd hv
    exact absurd (by rw [← ht, Dt.txt_len (by omega) (by omega)]) h
theorem Dt.val_no {l : List UInt8} (h : Dt.ok l = false) : Dt.val l = (0, 0, 0) := Dt.out_no h
set_option maxHeartbeats 1000000 in
theorem sparseD_any (l : List UInt8) (w : World) :
    Calls Tryd.prog 18 #[str l] w fun e w' => e = .returned (.tuple #[dtV (Dt.val l).1 (Dt.val l).2.1 (Dt.val l).2.2, .bool (Dt.ok l)]) ∧ Below w.heap.size w w' := by
  have kR := Blk.new w (dtA 0 0 0) 24
  have hb0 := (Below.refl w.heap.size w).alloc (Nat.le_refl _) (.cells (dtA 0 0 0) 24)
  by_cases hl : l.length = 10
  · have hl' : ((l.length : Int) != 10) = false := by simp [hl]
    have hl2 : ((10 : Int) != 10) = false := by decide
    obtain ⟨y, hy⟩ : ∃ y, nbr l 0 4 0 = y := ⟨_, rfl⟩
    obtain ⟨m, hm⟩ : ∃ y, nbr l 5 2 0 = y := ⟨_, rfl⟩
    obtain ⟨d, hd⟩ : ∃ y, nbr l 8 2 0 = y := ⟨_, rfl⟩
    have hs : Dt.sread l = (y, m, d) := by unfold Dt.sread; rw [hy, hm, hd]
    obtain ⟨e1, e2⟩ := Dt.same l
    rw [hs] at e1 e2
    rw [← e1, ← e2]
    have HY := Lib.hid hy
    have HM := Lib.hid hm
    have HD := Lib.hid hd
    have VM := Lib.hid (fun W => sValidDate_any y m d W)
    replace kR := kR.alloc (.cells (dtA y m d) 24)
    have kD : Blk ((w.alloc (.cells (dtA 0 0 0) 24)).alloc (.cells (dtA y m d) 24)) (w.heap.size + 1) 24 (dtA y m d) := by simpa using Blk.new (w.alloc (.cells (dtA 0 0 0) 24)) (dtA y m d) 24
    replace hb0 := hb0.alloc hb0.size (.cells (dtA y m d) 24)
    obtain ⟨⟨x0, x1, x2⟩, -⟩ := kD.three
    have HL := Lib.hid hl
    clear hy hm hd hs e1 e2 hl
    cases h : vldB y m d with
    | false =>
      have E : Dt.conf (y, m, d) l = false := by
        cases q : Dt.conf (y, m, d) l with
        | false => rfl
        | true => rw [(Dt.conf_iff.1 q).1] at h; cases h
      rw [Dt.out_no E, E]
      have H := Lib.hid h; clear h E
      go_enter Tryd.func18, Tryd.ntmps18
      go_wp2_with fail
      refine (snum_any l 0 4 0 4 _ (by omega) (by omega) rfl rfl).mono ?_
      rw [HY.out]
      rintro e w' ⟨rfl, rfl⟩
      go_wp2_with fail
      refine (snum_any l 5 2 5 7 _ (by omega) (by omega) rfl rfl).mono ?_
      rw [HM.out]
      rintro e w' ⟨rfl, rfl⟩
      go_wp2_with fail
      refine (snum_any l 8 2 8 10 _ (by omega) (by omega) rfl rfl).mono ?_
      rw [HD.out]
      rintro e w' ⟨rfl, rfl⟩
      go_wp2_with fail
      refine (VM.out _).mono ?_
      rw [H.out]
      rintro e w1 ⟨rfl, hb⟩
      replace kR := kR.below hb kR.lt
      have hb1 := hb0.trans (hb.mono hb0.size)
      clear hb hb0 x0 x1 x2 kD
      obtain ⟨⟨z0, z1, z2⟩, f0, f1, f2⟩ := kR.three
      go_wp2_with fail
      obtain ⟨q0, q1, q2⟩ := (kR.putD3 0 0 0).three.1
      refine bodyPost_ret (v := .tuple #[dtV 0 0 0, .bool false]) (by simp [results, Tryd.results18, go_sem, q0, q1, q2]) rfl ⟨rfl, dM_below hb1 (Nat.le_refl _) 0 0 0⟩
    | true =>
      obtain ⟨F, hF⟩ : ∃ F, Dt.txt y.toNat m.toNat d.toNat = F := ⟨_, rfl⟩
      have FM := Lib.hid (fun W => sfmtD0_any y m d W h)
      rw [hF] at FM
      by_cases hq : F = l
      · have E : Dt.conf (y, m, d) l = true := Dt.conf_iff.2 ⟨h, hF.trans hq⟩
        rw [Dt.out_yes E, E]
        have hs : (F == l) = true := by simp [hq]
        have H := Lib.hid h; clear h E hF
        subst hq
        go_enter Tryd.func18, Tryd.ntmps18
        go_wp2_with fail
        refine (snum_any F 0 4 0 4 _ (by omega) (by omega) rfl rfl).mono ?_
        rw [HY.out]
        rintro e w' ⟨rfl, rfl⟩
        go_wp2_with fail
        refine (snum_any F 5 2 5 7 _ (by omega) (by omega) rfl rfl).mono ?_
        rw [HM.out]
        rintro e w' ⟨rfl, rfl⟩
        go_wp2_with fail
        refine (snum_any F 8 2 8 10 _ (by omega) (by omega) rfl rfl).mono ?_
        rw [HD.out]
        rintro e w' ⟨rfl, rfl⟩
        go_wp2_with fail
        refine (VM.out _).mono ?_
        rw [H.out]
        rintro e w1 ⟨rfl, hb⟩
        replace kR := kR.below hb kR.lt
        replace kD := kD.below hb kD.lt
        have hb1 := hb0.trans (hb.mono hb0.size)
        clear hb hb0 x0 x1 x2
        obtain ⟨⟨x0, x1, x2⟩, -⟩ := kD.three
        go_wp2_with fail
        refine (FM.out _).mono ?_
        rintro e w2 ⟨rfl, hb⟩
        replace kR := kR.below hb kR.lt
        replace kD := kD.below hb kD.lt
        have hb2 := hb1.trans (hb.mono hb1.size)
        clear hb hb1 x0 x1 x2
        obtain ⟨⟨x0, x1, x2⟩, -⟩ := kD.three
        obtain ⟨⟨z0, z1, z2⟩, f0, f1, f2⟩ := kR.three
        go_wp2_with fail
        obtain ⟨q0, q1, q2⟩ := (kR.putD3 y m d).three.1
        refine bodyPost_ret (v := .tuple #[dtV y m d, .bool true]) (by simp [results, Tryd.results18, go_sem, q0, q1, q2]) rfl ⟨rfl, dM_below hb2 (Nat.le_refl _) y m d⟩
      · have E : Dt.conf (y, m, d) l = false := by
          cases q : Dt.conf (y, m, d) l with
          | false => rfl
          | true => exact absurd (hF.symm.trans (Dt.conf_iff.1 q).2) hq
        rw [Dt.out_no E, E]
        have hs : (F == l) = false := by simp [hq]
        have H := Lib.hid h; clear h E hF hq
        go_enter Tryd.func18, Tryd.ntmps18
        go_wp2_with fail
        refine (snum_any l 0 4 0 4 _ (by omega) (by omega) rfl rfl).mono ?_
        rw [HY.out]
        rintro e w' ⟨rfl, rfl⟩
        go_wp2_with fail
        refine (snum_any l 5 2 5 7 _ (by omega) (by omega) rfl rfl).mono ?_
        rw [HM.out]
        rintro e w' ⟨rfl, rfl⟩
        go_wp2_with fail
        refine (snum_any l 8 2 8 10 _ (by omega) (by omega) rfl rfl).mono ?_
        rw [HD.out]
        rintro e w' ⟨rfl, rfl⟩
        go_wp2_with fail
        refine (VM.out _).mono ?_
        rw [H.out]
        rintro e w1 ⟨rfl, hb⟩
        replace kR := kR.below hb kR.lt
        replace kD := kD.below hb kD.lt
        have hb1 := hb0.trans (hb.mono hb0.size)
        clear hb hb0 x0 x1 x2
        obtain ⟨⟨x0, x1, x2⟩, -⟩ := kD.three
        go_wp2_with fail
        refine (FM.out _).mono ?_
        rintro e w2 ⟨rfl, hb⟩
        replace kR := kR.below hb kR.lt
        have hb2 := hb1.trans (hb.mono hb1.size)
        clear hb hb1 x0 x1 x2
        obtain ⟨⟨z0, z1, z2⟩, f0, f1, f2⟩ := kR.three
        go_wp2_with fail
        obtain ⟨q0, q1, q2⟩ := (kR.putD3 0 0 0).three.1
        refine bodyPost_ret (v := .tuple #[dtV 0 0 0, .bool false]) (by simp [results, Tryd.results18, go_sem, q0, q1, q2]) rfl ⟨rfl, dM_below hb2 (Nat.le_refl _) 0 0 0⟩
  · have hl' : ((l.length : Int) != 10) = true := by simp; omega
    have E := Dt.len_no hl
    rw [Dt.val_no E, E]
    clear hl E
    go_enter Tryd.func18, Tryd.ntmps18
    go_wp2_with fail
    refine bodyPost_ret (v := .tuple #[dtV 0 0 0, .bool false]) (by simp [results, Tryd.results18, go_sem]) rfl ⟨rfl, hb0⟩
end Go.Proofs.YtapalkohfhohhaaDoor
