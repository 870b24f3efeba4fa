/- The texts of dates are ordered as the dates are. -/
import Derived.Test.YtapalkohfhohhaaDoorDl
namespace Go.Proofs.YtapalkohfhohhaaDoor
open Go.RowKit
theorem bl_app (l x y : List UInt8) : Op.bytesLess (l ++ x) (l ++ y) = Op.bytesLess x y := by
  induction l with
  | nil => rfl
  | cons a l ih =>
    rw [List.cons_append, List.cons_append, Op.bytesLess, ih]
    have : ¬ a < a := by rw [UInt8.lt_iff_toNat_lt]; omega
    simp [this]
theorem bl_cons (a : UInt8) (x y : List UInt8) : Op.bytesLess (a :: x) (a :: y) = Op.bytesLess x y := bl_app [a] x y
theorem bl_step {i j : Nat} (hi : i < 10) (hj : j < 10) {x y : List UInt8} (h : i < j ∨ (i = j ∧ Op.bytesLess x y = true)) : Op.bytesLess (ch i :: x) (ch j :: y) = true := by
  rw [Op.bytesLess]
  rcases h with h | ⟨rfl, h⟩
  · have : ch i < ch j := by rw [UInt8.lt_iff_toNat_lt, ch_nat hi, ch_nat hj]; omega
    simp [this]
  · rw [h]; simp
theorem two_lt {a b : Nat} (h : a < b) (hb : b < 100) (x y : List UInt8) : Op.bytesLess (two a ++ x) (two b ++ y) = true := by
  unfold two
  refine bl_step (by omega) (by omega) ?_
  by_cases c : a / 10 < b / 10
  · exact .inl c
  · exact .inr ⟨by omega, bl_step (by omega) (by omega) (.inl (by omega))⟩
theorem four_lt {a b : Nat} (h : a < b) (h0 : 1000 ≤ a) (hb : b < 10000) (x y : List UInt8) : Op.bytesLess (Lib.decDigits a ++ x) (Lib.decDigits b ++ y) = true := by
  rw [dec_four h0 (by omega), dec_four (by omega) hb]
  refine bl_step (by omega) (by omega) ?_
  by_cases c : a / 1000 < b / 1000
  · exact .inl c
  refine .inr ⟨by omega, bl_step (by omega) (by omega) ?_⟩
  by_cases c2 : a / 100 % 10 < b / 100 % 10
  · exact .inl c2
  refine .inr ⟨by omega, bl_step (by omega) (by omega) ?_⟩
  by_cases c3 : a / 10 % 10 < b / 10 % 10
  · exact .inl c3
  exact .inr ⟨by omega, bl_step (by omega) (by omega) (.inl (by omega))⟩
theorem Dt.txt_lt {y m d y' m' d' : Nat} (h0 : 1000 ≤ y) (h1 : y' < 10000) (hm : m' < 100) (hd : d' < 100) (h : y < y' ∨ (y = y' ∧ (m < m' ∨ (m = m' ∧ d < d')))) : Op.bytesLess (Dt.txt y m d) (Dt.txt y' m' d') = true := by
  unfold Dt.txt
  rcases h with h | ⟨rfl, h⟩
  · exact four_lt h h0 h1 _ _
  · rw [bl_app, bl_cons]
    rcases h with h | ⟨rfl, h⟩
    · exact two_lt h hm _ _
    · rw [bl_app, bl_cons]
      have := two_lt h hd [] []
      rwa [List.append_nil, List.append_nil] at this
theorem date_lt {s t : Int} (h0 : 0 ≤ s) (h : s < t) (h1 : t ≤ 36524) : Cal.Y s < Cal.Y t ∨ (Cal.Y s = Cal.Y t ∧ (Cal.M s < Cal.M t ∨ (Cal.M s = Cal.M t ∧ Cal.D s < Cal.D t))) := by
  have a := Cal.isDate (n := s) h0 (by omega)
  have b := Cal.isDate (n := t) (by omega) h1
  have a1 := a.y1
  have a2 := a.y2
  have b1 := b.y1
  have b2 := b.y2
  rcases Int.lt_trichotomy (Cal.Y s) (Cal.Y t) with c | c | c
  · exact .inl c
  · refine .inr ⟨c, ?_⟩
    have a3 := a.d1
    have a4 := a.d2
    have b3 := b.d1
    have b4 := b.d2
    have a5 := a.dd
    have b5 := b.dd
    have am := a.m1
    have am' := a.m2
    have bm := b.m1
    have bm' := b.m2
    rw [← c] at b1 b2 b3 b4 b5
    rcases Int.lt_trichotomy (Cal.M s) (Cal.M t) with k | k | k
    · exact .inl k
    · refine .inr ⟨k, ?_⟩
      rw [← k] at b5
      omega
    · have := Cal.ms_mono (Cal.Y s) (a := Cal.M t + 1) (b := Cal.M s) (by omega) (by omega) (by omega)
      omega
  · have := Cal.ys_mono (show Cal.Y t + 1 ≤ Cal.Y s by omega)
    omega
theorem Dt.day_lt {s t : Int} (h0 : 0 ≤ s) (h : s < t) (h1 : t ≤ 36524) : Op.bytesLess (Dt.txt (Cal.Y s).toNat (Cal.M s).toNat (Cal.D s).toNat) (Dt.txt (Cal.Y t).toNat (Cal.M t).toNat (Cal.D t).toNat) = true := by
  have a1 := Cal.Y_bd (n := s) h0 (by omega)
  have a2 := Cal.M_bd (n := s) h0 (by omega)
  have a3 := Cal.D_bd (n := s) h0 (by omega)
  have b1 := Cal.Y_bd (n := t) (by omega) h1
  have b2 := Cal.M_bd (n := t) (by omega) h1
  have b3 := Cal.D_bd (n := t) (by omega) h1
  refine Dt.txt_lt (by omega) (by omega) (by omega) (by omega) ?_
  have := date_lt h0 h h1
  omega
set_option maxHeartbeats 2000000 in
theorem lawDateOrder (a : Option Addr) (len cap : Nat) (zs : List Int) (w : World) (h : IsRow .u8 w a len cap zs) (hT : Tab w) (hP : TabP w) :
    Calls Tryd.prog 5 #[.slice a len cap] w fun e w' => e = .returned (.bool true) ∧ Below w.heap.size w w' := by
  have H := Lib.hid h; clear h
  have HT := Lib.hid hT
  have HP := Lib.hid hP
  have hgw := hP.lt
  have h0 := hT.pos
  clear hT hP
  by_cases hl : 1048576 < (len : Int)
  · go_enter Tryd.func5, Tryd.ntmps5
    go_wp2_with fail
    go_ret
    exact ⟨rfl, Below.refl _ _⟩
  · have hl' := decide_eq_false hl
    obtain ⟨k, hk⟩ : ∃ k : Int, (len : Int) % 50 = k := ⟨_, rfl⟩
    have hk2 : (len : Int).tmod 50 = k := by rw [Int.tmod_eq_emod_of_nonneg (by omega)]; exact hk
    have hk0 : 0 ≤ k ∧ k < 50 := by omega
    clear hl
    go_enter Tryd.func5, Tryd.ntmps5
    go_wp2_with fail
    refine (drawFD_any _ _ _ _ _ H.out).mono ?_
    rintro e w1 ⟨y, m, d, rfl, -, hb⟩
    have K := ((Kp.refl w).below hb).new 24 (dtA y m d)
    clear hb
    obtain ⟨x0, x1, x2⟩ := K.d1
    cases h : vldB y m d with
    | false =>
      have E := Lib.hid (Dt.fmt_no h); clear h hk hk2
      go_wp2_with fail
      refine (fmtD_any y m d _ (HT.out.below K.1 h0) (HP.out.below K.1 hgw)).mono ?_
      rw [E.out]
      rintro e w2 ⟨rfl, hb⟩
      replace K := K.below hb
      clear hb x0 x1 x2
      obtain ⟨x0, x1, x2⟩ := K.d1
      go_wp2_with fail
      refine (sfmtD_any y m d _).mono ?_
      rw [E.out]
      rintro e w3 ⟨rfl, hb⟩
      replace K := K.below hb
      clear hb x0 x1 x2
      obtain ⟨x0, x1, x2⟩ := K.d1
      go_wp2_with fail
      refine (sfmtD_any y m d _).mono ?_
      rw [E.out]
      rintro e w4 ⟨rfl, hb⟩
      replace K := K.below hb
      clear hb x0 x1 x2
      go_wp2_with fail
      go_ret
      exact ⟨rfl, K.1⟩
    | true =>
      have hc := vldB_iff.1 h
      have hn := Cal.num_bd hc
      obtain ⟨q1, q2, q3⟩ := Cal.dt_num hc
      have hne := Dt.txt_ne y.toNat m.toNat d.toNat
      rw [← Dt.fmt_yes h] at hne
      have DV := Lib.hid (fun W hT => dayOf_any y m d W hT)
      rw [show dayV y m d = Cal.num y m d from if_pos h] at DV
      obtain ⟨n, hnn⟩ : ∃ n, Cal.num y m d = n := ⟨_, rfl⟩
      rw [hnn] at hn q1 q2 q3 DV
      obtain ⟨t, ht⟩ : ∃ t, n + 1 + k = t := ⟨_, rfl⟩
      have LT : t ≤ 36524 → Op.bytesLess (Dt.fmt y m d) (Dt.fmt (Cal.Y t) (Cal.M t) (Cal.D t)) = true := fun h1 => by
        rw [Dt.fmt_yes h, Dt.fmt_yes (vldB_iff.2 (Cal.vld_dt (by omega) h1)), ← q1, ← q2, ← q3]
        exact Dt.day_lt hn.1 (by omega) h1
      obtain ⟨F, hF⟩ : ∃ F, Dt.fmt y m d = F := ⟨_, rfl⟩
      rw [hF] at hne LT
      have HF := Lib.hid hF
      obtain ⟨c, u, hcu⟩ : ∃ c u, F = c :: u := by
        cases F with
        | nil => exact absurd rfl hne
        | cons c u => exact ⟨c, u, rfl⟩
      subst hcu
      have z1 : IntKind.i64.wrap (n + 1) = n + 1 := IntWalk.i64_in _ (by omega)
      have z2 : IntKind.i64.wrap (n + 1 + k) = t := by rw [← ht]; exact IntWalk.i64_in _ (by omega)
      have t0 : 0 ≤ t := by omega
      clear h hc hn q1 q2 q3 hne hnn hF ht
      by_cases h1 : t ≤ 36524
      · have L := LT h1
        have DO := Lib.hid (fun W hT => dateOf_yes t W hT (btw_iff.2 ⟨t0, h1⟩))
        have FM := Lib.hid (fun W hT hP => fmtD_any (Cal.Y t) (Cal.M t) (Cal.D t) W hT hP)
        obtain ⟨G, hG⟩ : ∃ G, Dt.fmt (Cal.Y t) (Cal.M t) (Cal.D t) = G := ⟨_, rfl⟩
        rw [hG] at L FM
        obtain ⟨y2, hy⟩ : ∃ y, Cal.Y t = y := ⟨_, rfl⟩
        obtain ⟨m2, hm⟩ : ∃ y, Cal.M t = y := ⟨_, rfl⟩
        obtain ⟨d2, hd⟩ : ∃ y, Cal.D t = y := ⟨_, rfl⟩
        rw [hy, hm, hd] at FM DO
        clear hG hy hm hd LT h1 t0
        go_wp2_with fail
        refine (fmtD_any y m d _ (HT.out.below K.1 h0) (HP.out.below K.1 hgw)).mono ?_
        rw [HF.out]
        rintro e w2 ⟨rfl, hb⟩
        replace K := K.below hb
        clear hb x0 x1 x2
        obtain ⟨x0, x1, x2⟩ := K.d1
        go_wp2_with fail
        refine (sfmtD_any y m d _).mono ?_
        rw [HF.out]
        rintro e w3 ⟨rfl, hb⟩
        replace K := K.below hb
        clear hb x0 x1 x2
        obtain ⟨x0, x1, x2⟩ := K.d1
        go_wp2_with fail
        refine (DV.out _ (HT.out.below K.1 h0)).mono ?_
        rintro e w4 ⟨rfl, hb⟩
        replace K := K.below hb
        clear hb x0 x1 x2
        go_wp2_with fail
        refine (DO.out _ (HT.out.below K.1 h0)).mono ?_
        rintro e w5 ⟨rfl, hb⟩
        replace K := (K.below hb).new 24 (dtA y2 m2 d2)
        clear hb
        obtain ⟨x0, x1, x2⟩ := K.d1
        go_wp2_with fail
        refine (FM.out _ (HT.out.below K.1 h0) (HP.out.below K.1 hgw)).mono ?_
        rintro e w6 ⟨rfl, hb⟩
        replace K := K.below hb
        clear hb x0 x1 x2
        go_wp2_with fail
        go_ret
        exact ⟨rfl, K.1⟩
      · have DO := Lib.hid (fun W => dateOf_no t W (btw_iff_f.2 (by omega)))
        clear LT h1 t0
        go_wp2_with fail
        refine (fmtD_any y m d _ (HT.out.below K.1 h0) (HP.out.below K.1 hgw)).mono ?_
        rw [HF.out]
        rintro e w2 ⟨rfl, hb⟩
        replace K := K.below hb
        clear hb x0 x1 x2
        obtain ⟨x0, x1, x2⟩ := K.d1
        go_wp2_with fail
        refine (sfmtD_any y m d _).mono ?_
        rw [HF.out]
        rintro e w3 ⟨rfl, hb⟩
        replace K := K.below hb
        clear hb x0 x1 x2
        obtain ⟨x0, x1, x2⟩ := K.d1
        go_wp2_with fail
        refine (DV.out _ (HT.out.below K.1 h0)).mono ?_
        rintro e w4 ⟨rfl, hb⟩
        replace K := K.below hb
        clear hb x0 x1 x2
        go_wp2_with fail
        refine (DO.out _).mono ?_
        rintro e w5 ⟨rfl, hb⟩
        replace K := (K.below hb).new 24 (dtA 0 0 0)
        clear hb
        go_wp2_with fail
        go_ret
        exact ⟨rfl, K.1⟩
end Go.Proofs.YtapalkohfhohhaaDoor
